/-
  Contracts: lines and parts of bars, BreakBar, TurnBar of the program and of the model. Conditions: none, or a bar.
-/
import Derived.Test.YtobncknlipeinaaBase
import Derived.Deep.QuietTactic
import Derived.BigQuiet
namespace Go.Proofs.Ytobncknlipeinaa
open Go.RowKit

def canB (x y : Int) (d : Bool) (t : Int) : Bool := if d then inB t 1 (x - 1) else inB t 1 (y - 1)
def part1 (x y : Int) (d : Bool) (t : Int) : Int × Int := if d then (t, y) else (x, t)
def part2 (x y : Int) (d : Bool) (t : Int) : Int × Int := if d then (x - t, y) else (x, y - t)

set_option maxHeartbeats 400000 in
theorem linesOf_any (x y : Int) (d : Bool) (w : World) (hB : barB x y = true) :
    Calls Try.prog 31 #[bar2 x y, .bool d] w fun e w' => e = .returned (.int .i64 (if d then x - 1 else y - 1)) ∧ Below w.heap.size w w' := by
  obtain ⟨x1, x2, y1, y2⟩ := barB_true hB
  clear hB
  cases d
  all_goals
    go_enter Try.func31, Try.ntmps31
    go_wp2
    go_ret
    exact ⟨rfl, by (repeat (first | (with_reducible exact Below.refl _ _) | (with_reducible assumption) | (with_reducible refine Below.drew ?_) | ((with_reducible refine balloc ?_ _ ?_); · (first | (simp; done) | (simp; omega) | omega)) | ((with_reducible refine bset ?_ _ ?_); · (first | (simp; done) | (simp; omega) | omega)) | (with_reducible refine bdrewN _ ?_) | ((with_reducible refine bcall ?_ (by assumption) ?_); · (first | (simp; done) | (simp; omega) | omega))))⟩


set_option maxHeartbeats 400000 in
theorem partsOf_any (x y : Int) (d : Bool) (t : Int) (w : World) (hB : barB x y = true) (hC : canB x y d t = true) :
    Calls Try.prog 46 #[bar2 x y, .bool d, .int .i64 t] w fun e w' => e = .returned (.tuple #[bar2 (part1 x y d t).1 (part1 x y d t).2, bar2 (part2 x y d t).1 (part2 x y d t).2]) ∧ Below w.heap.size w w' := by
  obtain ⟨x1, x2, y1, y2⟩ := barB_true hB
  clear hB
  cases d
  all_goals
    simp [canB, inB] at hC
    obtain ⟨t1, t2⟩ := hC
    go_enter Try.func46, Try.ntmps46
    go_wp2
    go_region
    go_wp2
    refine bodyPost_ret (v := .tuple #[bar2 (part1 x y _ t).1 (part1 x y _ t).2, bar2 (part2 x y _ t).1 (part2 x y _ t).2]) (by simp [results, Try.results46, go_sem, part1, part2]) rfl ⟨rfl, ?_⟩
    (repeat (first | (with_reducible exact Below.refl _ _) | (with_reducible assumption) | (with_reducible refine Below.drew ?_) | ((with_reducible refine balloc ?_ _ ?_); · (first | (simp; done) | (simp; omega) | omega)) | ((with_reducible refine bset ?_ _ ?_); · (first | (simp; done) | (simp; omega) | omega)) | (with_reducible refine bdrewN _ ?_) | ((with_reducible refine bcall ?_ (by assumption) ?_); · (first | (simp; done) | (simp; omega) | omega))))



end Go.Proofs.Ytobncknlipeinaa
