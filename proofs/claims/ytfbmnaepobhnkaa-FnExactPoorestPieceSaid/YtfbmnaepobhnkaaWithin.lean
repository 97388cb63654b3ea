/-
  Contract: how many nuts are within a part, of the program, by its table of corners.
-/
import Derived.Test.YtfbmnaepobhnkaaIsPart
import Derived.Laws.Rows
import Derived.Deep.QuietTactic
import Derived.BigQuiet
namespace Go.Proofs.Ytfbmnaepobhnkaa
open Go.RowKit

set_option maxRecDepth 100000 in
set_option maxHeartbeats 4000000 in
theorem within_any (cs : Array Value) (x y a b : Nat) (p q r s : Int) (w : World) (hx : x + a ≤ 8) (hy : y + b ≤ 8)
    (hp : cs[(y + b) * 9 + (x + a)]? = some (.int .i64 p)) (hq : cs[y * 9 + (x + a)]? = some (.int .i64 q)) (hr : cs[(y + b) * 9 + x]? = some (.int .i64 r)) (hs : cs[y * 9 + x]? = some (.int .i64 s))
    (bp : 0 ≤ p ∧ p ≤ 1000) (bq : 0 ≤ q ∧ q ≤ 1000) (br : 0 ≤ r ∧ r ≤ 1000) (bs : 0 ≤ s ∧ s ≤ 1000) :
    Calls Try.prog 41 #[.agg cs, part4 x y a b] w fun e w' => e = .returned (.int .i64 (p - q - r + s)) ∧ Below w.heap.size w w' := by
  have hcell : ∀ (ob : Obj) (k : Nat) (v : Value), cs[k]? = some v → ((w.alloc (.cells cs 64)).alloc ob).cell? ⟨w.heap.size, k, none⟩ = some v := by
    intro ob k v h
    rw [World.cell?_alloc_lt _ _ _ (by simp)]
    simp only [World.cell?, World.alloc]
    simpa using h
  have cp := fun ob => hcell ob _ _ hp
  have cq := fun ob => hcell ob _ _ hq
  have cr := fun ob => hcell ob _ _ hr
  have cS := fun ob => hcell ob _ _ hs
  obtain ⟨bp1, bp2⟩ := bp
  obtain ⟨bq1, bq2⟩ := bq
  obtain ⟨br1, br2⟩ := br
  obtain ⟨bs1, bs2⟩ := bs
  have e1 : ((y : Int) + b).toNat = y + b := by omega
  have e2 : ((x : Int) + a).toNat = x + a := by omega
  have ht : ∀ (k : Nat) (v : Value), #[Value.int .i64 x, .int .i64 y, .int .i64 a, .int .i64 b][k]? = some v → ((w.alloc (.cells cs 64)).alloc (.cells #[.int .i64 x, .int .i64 y, .int .i64 a, .int .i64 b] 70)).cell? ⟨w.heap.size + 1, k, none⟩ = some v := by
    intro k v h
    simp only [World.cell?, World.alloc]
    rw [show w.heap.size + 1 = (w.heap.push (.cells cs 64)).size by simp, Array.getElem?_push_size]
    exact h
  have t0 := ht 0 _ rfl
  have t1 := ht 1 _ rfl
  have t2 := ht 2 _ rfl
  have t3 := ht 3 _ rfl
  clear ht
  clear hcell hp hq hr hs
  go_enter Try.func41, Try.ntmps41
  go_wp2
  go_quiet (fail)
  go_wp2
  go_quiet (fail)
  go_wp2
  go_ret
  exact ⟨rfl, by (repeat (first | (with_reducible exact Below.refl _ _) | (with_reducible assumption) | (with_reducible refine Below.drew ?_) | ((with_reducible refine balloc ?_ _ ?_); · (first | (simp; done) | (simp; omega) | omega)) | ((with_reducible refine bset ?_ _ ?_); · (first | (simp; done) | (simp; omega) | omega)) | (with_reducible refine bdrewN _ ?_) | ((with_reducible refine bcall ?_ (by assumption) ?_); · (first | (simp; done) | (simp; omega) | omega))))⟩

end Go.Proofs.Ytfbmnaepobhnkaa
