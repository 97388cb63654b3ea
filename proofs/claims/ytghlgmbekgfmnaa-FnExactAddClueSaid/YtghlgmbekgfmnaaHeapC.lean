/-
  Contracts: HeapOfChomp, WinsChomp of the model; isWon, WinsChomp of the program.
-/
import Derived.Test.YtghlgmbekgfmnaaHeapS
import Derived.Test.YtghlgmbekgfmnaaHeapF
namespace Go.Proofs.Ytghlgmbekgfmnaa
open Go.RowKit
set_option linter.unusedVariables false

theorem TabC.look {tbl : List Int} {H W : Nat} (hH : H ≤ 6) (hW : W ≤ 6) (h : TabC tbl (chs H W []) (chs H W []).length) {l : List Int} (hl : ChOK l) (h1 : l.length ≤ H) (h2 : l.getD 0 0 ≤ W) : tbl.getD (keyI l).toNat 0 = (gr l : Nat) + 1 := by
  obtain ⟨i, hi, e⟩ := List.getElem_of_mem ((mem_all hH hW).2 ⟨hl, h1, h2⟩)
  have := h i hi hi
  rwa [e] at this


def winR (l : List Int) : Bool := chB l && decide (0 < grI l)



theorem grI_ne {l : List Int} (hl : ChOK l) : (grI l != 0) = decide (0 < grI l) := by
  unfold grI
  by_cases h : gr l = 0
  · simp [h]
  · have h1 : decide ((0 : Int) < ((gr l : Nat) : Int)) = true := by simp; omega
    rw [h1]
    simp
    omega
set_option maxRecDepth 100000 in
set_option maxHeartbeats 1000000 in
theorem isWon_any (K : Nat → Prop) (km q1 q2 q3 : Nat) (l : List Int) (f : Nat → Int) (S : List (List Int)) (w : World) (hl : ChOK l) (hf : f = fl l) (hm : HM K w km q1 q2 q3 heapV grI S) :
    Calls Try.prog 103 #[arrF f, numV q1 q2 q3] w fun e w' => e = .returned (.bool (decide (0 < grI l))) ∧ (∃ S', HM K w' km q1 q2 q3 heapV grI S') ∧ Chg K w w' := by
  have hbl : Below w.heap.size w (w.alloc (.cells #[.int .i64 (f 0), .int .i64 (f 1), .int .i64 (f 2), .int .i64 (f 3), .int .i64 (f 4), .int .i64 (f 5)] 73)) := (Below.refl _ _).alloc (Nat.le_refl _) _
  obtain ⟨c0, c1, c2, c3, c4, c5⟩ := (BoxF.new w f).cells
  have HH := Lib.hid (heapOf_any K km q1 q2 q3 l f S _ hl hf (hm.below hbl (Nat.le_refl _)))
  have HBL := Lib.hid (Chg.of_below (K := K) hbl (Nat.le_refl _))
  rw [← grI_ne hl]
  clear hbl hm hf
  generalize grI l = gv at *
  go_enter Try.func103, Try.ntmps103
  go_wp2_with fail
  refine (HH.out).mono ?_; rintro e w2 ⟨rfl, ⟨S2, hm2⟩, hch⟩
  have HM2 := Lib.hid hm2
  have HC2 := Lib.hid (HBL.out.trans hch)
  clear hm2 hch HH
  go_wp2
  go_ret
  exact ⟨rfl, ⟨S2, HM2.out⟩, HC2.out⟩


end Go.Proofs.Ytghlgmbekgfmnaa
