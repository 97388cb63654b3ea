/-
  Contracts: PlayChomp and ChompAt of the program.
-/
import Derived.Test.YtghlgmbekgfmnaaMovesS
import Derived.StillTailTactics
namespace Go.Proofs.Ytghlgmbekgfmnaa
open Go.RowKit
set_option linter.unusedVariables false

/-- the chomp behind the first k bites, if all of them can be made -/
def plK (l : List Int) (R : Nat → List Int) : Nat → Option (List Int)
  | 0 => some l
  | k + 1 => stepM (plK l R k) (R k)
theorem plK_none {l : List Int} {R : Nat → List Int} {k n : Nat} (h : plK l R k = none) (hkn : k ≤ n) : plK l R n = none := by
  induction n with
  | zero => have : k = 0 := by omega
            subst this; exact h
  | succ n ih =>
    by_cases e : k = n + 1
    · subst e; exact h
    · simp only [plK, ih (by omega)]; rfl
theorem plK_ok {l : List Int} (hl : ChOK l) {R : Nat → List Int} : ∀ {k : Nat} {r : List Int}, plK l R k = some r → ChOK r := by
  intro k
  induction k with
  | zero => intro r h; simp only [plK, Option.some.injEq] at h; subst h; exact hl
  | succ k ih =>
    intro r h
    simp only [plK, stepM, Option.bind_eq_some_iff] at h
    obtain ⟨q, hq, h2⟩ := h
    split at h2
    · rename_i hc
      simp only [Option.some.injEq] at h2
      subst h2
      exact biteL_ok (ih hq) hc.2
    · cases h2
def plO (l : List Int) (R : Nat → List Int) (n : Nat) : Option (List Int) := if chB l = true ∧ n ≤ 36 then plK l R n else none
def plB (l : List Int) (R : Nat → List Int) (n : Nat) : Bool := (plO l R n).isSome
def plR (l : List Int) (R : Nat → List Int) (n : Nat) : List Int := (plO l R n).getD []
theorem pl_no {l : List Int} {R : Nat → List Int} {n : Nat} (h : plO l R n = none) : plB l R n = false ∧ plR l R n = [] := by simp [plB, plR, h]
theorem pl_yes {l r : List Int} {R : Nat → List Int} {n : Nat} (h : plO l R n = some r) : plB l R n = true ∧ plR l R n = r := by simp [plB, plR, h]
theorem length_plR (l : List Int) (R : Nat → List Int) (n : Nat) : (plR l R n).length ≤ 6 := by
  unfold plR
  rcases h : plO l R n with _ | r
  · simp
  · unfold plO at h
    split at h
    · rename_i hc
      exact (plK_ok (chB_true.1 hc.1) h).2.1
    · cases h
theorem biteL_fun {l : List Int} (hl : ChOK l) {x y : Int} (h : canC l x y = true) : eatF (fun j => l.getD j 0) x y.toNat = fun j => (biteL l x y).getD j 0 := funext fun j => (biteL_at hl h j).symm

theorem BoxF.store6 {w : World} {g : Nat} {f : Nat → Int} (h : BoxF w g f) (f' : Nat → Int) : BoxF ((((((w.setCell ⟨g, 0, none⟩ (.int .i64 (f' 0))).setCell ⟨g, 1, none⟩ (.int .i64 (f' 1))).setCell ⟨g, 2, none⟩ (.int .i64 (f' 2))).setCell ⟨g, 3, none⟩ (.int .i64 (f' 3))).setCell ⟨g, 4, none⟩ (.int .i64 (f' 4))).setCell ⟨g, 5, none⟩ (.int .i64 (f' 5))) g f' := by
  have h0 := (h.set (k := 0) (by omega) (f' 0)).1
  have h1 := (h0.set (k := 1) (by omega) (f' 1)).1
  have h2 := (h1.set (k := 2) (by omega) (f' 2)).1
  have h3 := (h2.set (k := 3) (by omega) (f' 3)).1
  have h4 := (h3.set (k := 4) (by omega) (f' 4)).1
  have h5 := (h4.set (k := 5) (by omega) (f' 5)).1
  refine h5.congr fun j hj => ?_
  rcases (show j = 0 ∨ j = 1 ∨ j = 2 ∨ j = 3 ∨ j = 4 ∨ j = 5 by omega) with rfl | rfl | rfl | rfl | rfl | rfl <;> simp


end Go.Proofs.Ytghlgmbekgfmnaa
