/-
  Contracts: SquaresOf, FewestBreaks of the program and of the model. Conditions: none.
-/
import Derived.Test.YthemmckchmpicaaBase
namespace Go.Proofs.Ythemmckchmpicaa
open Go.RowKit

def sqN (x y : Int) : Int := if barB x y then wrap64 (x * y) else 0
def fbN (x y : Int) : Int := if barB x y then wrap64 (wrap64 (x * y) - 1) else 0



set_option maxHeartbeats 400000 in
theorem fewest_any (x y : Int) (w : World) :
    Calls Try.prog 38 #[bar2 x y] w fun e w' => e = .returned (.tuple #[.int .i64 (fbN x y), .bool (barB x y)]) ∧ Below w.heap.size w w' := by
  cases hB : barB x y
  all_goals
    have hs := fbN.eq_1 x y; simp only [hB, if_true, Bool.false_eq_true, if_false] at hs
    go_enter Try.func38, Try.ntmps38
    go_wp2_with fail
    refine (isBar_any _ _ _).mono ?_; rintro e w1 ⟨rfl, hb1⟩; have s1 := hb1.size; obtain ⟨hc1, hf1⟩ := bcell hb1; have z1_w0 : w.heap.size < w1.heap.size := (by have q := s1; first | omega | (simp at q; omega))
    go_wp2
    go_ret2
    exact ⟨by simp [hs], by (repeat (first | (with_reducible exact Below.refl _ _) | (with_reducible assumption) | (with_reducible refine Below.drew ?_) | ((with_reducible refine balloc ?_ _ ?_); · (first | (simp; done) | (simp; omega) | omega)) | ((with_reducible refine bset ?_ _ ?_); · (first | (simp; done) | (simp; omega) | omega)) | (with_reducible refine bdrewN _ ?_) | ((with_reducible refine bcall ?_ (by assumption) ?_); · (first | (simp; done) | (simp; omega) | omega))))⟩


end Go.Proofs.Ythemmckchmpicaa
