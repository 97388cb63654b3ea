/-
  Words for chomps: which lists of numbers are chomps. Nothing of the program is named here.
-/
import Derived.Test.YtghlgmbekgfmnaaStrs
namespace Go.Proofs.Ytghlgmbekgfmnaa
open Go.RowKit
set_option linter.unusedVariables false

/-- how many squares row k may have at most -/
def lim (l : List Int) (k : Nat) : Int := if k = 0 then 6 else l.getD (k - 1) 0
def ChOK (l : List Int) : Prop := 1 ≤ l.length ∧ l.length ≤ 6 ∧ ∀ k, k < l.length → 1 ≤ l.getD k 0 ∧ l.getD k 0 ≤ lim l k
instance (l : List Int) : Decidable (ChOK l) := by unfold ChOK; infer_instance
def chB (l : List Int) : Bool := decide (ChOK l)
theorem chB_true {l : List Int} : chB l = true ↔ ChOK l := by simp [chB]
theorem chB_false {l : List Int} : chB l = false ↔ ¬ ChOK l := by simp [chB]

theorem ChOK.le6 {l : List Int} (h : ChOK l) : ∀ k, l.getD k 0 ≤ 6 := by
  intro k
  by_cases hk : k < l.length
  · induction k with
    | zero => have := (h.2.2 0 hk).2; simpa [lim] using this
    | succ k ih => have a := (h.2.2 (k + 1) hk).2; have b := ih (by omega); simp only [lim, Nat.add_one_ne_zero, if_false, Nat.add_sub_cancel] at a; omega
  · simp [List.getD, List.getElem?_eq_none (show l.length ≤ k by omega)]
theorem getD_past {l : List Int} {k : Nat} (h : l.length ≤ k) : l.getD k 0 = 0 := by simp [List.getD, List.getElem?_eq_none h]
theorem ChOK.ge0 {l : List Int} (h : ChOK l) : ∀ k, 0 ≤ l.getD k 0 := by
  intro k
  by_cases hk : k < l.length
  · have := (h.2.2 k hk).1; omega
  · rw [getD_past (by omega)]; omega
theorem ChOK.ge1 {l : List Int} (h : ChOK l) {k : Nat} (hk : k < l.length) : 1 ≤ l.getD k 0 := (h.2.2 k hk).1
theorem ChOK.step {l : List Int} (h : ChOK l) (k : Nat) : l.getD (k + 1) 0 ≤ l.getD k 0 := by
  by_cases hk : k + 1 < l.length
  · have a := (h.2.2 (k + 1) hk).2; simpa [lim] using a
  · rw [getD_past (by omega)]; exact h.ge0 k
theorem ChOK.anti {l : List Int} (h : ChOK l) {k j : Nat} (hkj : k ≤ j) : l.getD j 0 ≤ l.getD k 0 := by
  induction j with
  | zero => have : k = 0 := by omega
            subst this; omega
  | succ j ih =>
    by_cases e : k = j + 1
    · subst e; omega
    · have := ih (by omega); have := h.step j; omega
theorem getD_lt {l : List Int} {k : Nat} (h : k < l.length) : l.getD k 0 = l[k] := by simp [List.getD, List.getElem?_eq_getElem h]

/-- the rules that the model asks -/
theorem chB_of_all {l : List Int} (h1 : 1 ≤ l.length) (h2 : l.length ≤ 6) (h3 : ∀ k, k < l.length → 1 ≤ l.getD k 0 ∧ l.getD k 0 ≤ 6) (h4 : ∀ k, 1 ≤ k → k < l.length → l.getD k 0 ≤ l.getD (k - 1) 0) : chB l = true := by
  rw [chB_true]
  refine ⟨h1, h2, fun k hk => ⟨(h3 k hk).1, ?_⟩⟩
  unfold lim
  split
  · exact (h3 k hk).2
  · exact h4 k (by omega) hk
theorem chB_not_len {l : List Int} (h : ¬ (1 ≤ l.length ∧ l.length ≤ 6)) : chB l = false := by
  rw [chB_false]; intro q; exact h ⟨q.1, q.2.1⟩
theorem chB_not_in {l : List Int} {k : Nat} (hk : k < l.length) (h : ¬ (1 ≤ l.getD k 0 ∧ l.getD k 0 ≤ 6)) : chB l = false := by
  rw [chB_false]; intro q; exact h ⟨q.ge1 hk, q.le6 k⟩
theorem chB_not_step {l : List Int} {k : Nat} (hk : k < l.length) (h1 : 1 ≤ k) (h : l.getD (k - 1) 0 < l.getD k 0) : chB l = false := by
  rw [chB_false]; intro q
  have := q.step (k - 1)
  rw [show k - 1 + 1 = k by omega] at this
  omega
theorem chB_not_lim {l : List Int} {k : Nat} (hk : k < l.length) (h : ¬ (1 ≤ l.getD k 0 ∧ l.getD k 0 ≤ lim l k)) : chB l = false := by
  rw [chB_false]; intro q; exact h (q.2.2 k hk)

theorem sum_takeI {l : List Int} {k : Nat} (hk : k < l.length) : (l.take (k + 1)).sum = (l.take k).sum + l[k] := by
  rw [List.take_succ_eq_append_getElem hk, List.sum_append]
  simp
theorem sumI_bound {l : List Int} (h : ChOK l) : ∀ k, k ≤ l.length → (k : Int) ≤ (l.take k).sum ∧ (l.take k).sum ≤ 6 * k := by
  intro k
  induction k with
  | zero => intro _; simp
  | succ k ih =>
    intro hk
    have a := ih (by omega)
    have b := h.ge1 (k := k) (by omega)
    have c := h.le6 k
    rw [getD_lt (by omega)] at b c
    rw [sum_takeI (by omega)]
    omega
theorem sumI_36 {l : List Int} (h : ChOK l) : 1 ≤ l.sum ∧ l.sum ≤ 36 := by
  have := sumI_bound h l.length (Nat.le_refl _)
  rw [List.take_length] at this
  have := h.1; have := h.2.1
  omega

/-- the six cells of a chomp -/
def pad6 (l : List Int) : List Int := [l.getD 0 0, l.getD 1 0, l.getD 2 0, l.getD 3 0, l.getD 4 0, l.getD 5 0]
def zero6 : List Int := [0, 0, 0, 0, 0, 0]

end Go.Proofs.Ytghlgmbekgfmnaa
