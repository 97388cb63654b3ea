/-
  Words and contracts: weights: AreWeights, the model's skGood and skSum, the program's sumOf and isUpTo. Conditions: none.
-/
import Derived.Test.YtghlgmbekgfmnabDoorIKit
import Derived.Test.YtghlgmbekgfmnabDoorOpenI
namespace Go.Proofs.YtghlgmbekgfmnabDoor
open Go.RowKit
set_option linter.unusedVariables false
set_option linter.unusedSimpArgs false

theorem inB_trueW {n a b : Int} (h : inB n a b = true) : a ≤ n ∧ n ≤ b := by simpa [inB] using h
/-- all numbers of a list lie between two -/
def allIn (a b : Int) (L : List Int) : Bool := L.all fun n => inB n a b
theorem allIn_mem {a b : Int} {L : List Int} (h : allIn a b L = true) : ∀ z ∈ L, a ≤ z ∧ z ≤ b := fun z hz => inB_trueW (List.all_eq_true.1 h z hz)
theorem allIn_take {a b : Int} {L : List Int} {k : Nat} (h : k < L.length) : allIn a b (L.take (k + 1)) = (allIn a b (L.take k) && inB L[k] a b) := by
  unfold allIn
  rw [List.take_succ_eq_append_getElem h, List.all_append]; simp
theorem allIn_no {a b : Int} {L : List Int} {k : Nat} (h : k < L.length) (hb : inB L[k] a b = false) : allIn a b L = false := by
  cases e : allIn a b L
  · rfl
  · rw [show inB L[k] a b = true from List.all_eq_true.1 e _ (List.getElem_mem h)] at hb; cases hb
/-- the list is weights -/
def wtB (L : List Int) : Bool := inB L.length 1 12 && allIn 1 1000 L
theorem wtB_true {L : List Int} (h : wtB L = true) : 1 ≤ L.length ∧ L.length ≤ 12 ∧ ∀ z ∈ L, 1 ≤ z ∧ z ≤ 1000 := by
  simp only [wtB, Bool.and_eq_true] at h
  have := inB_trueW h.1
  exact ⟨by omega, by omega, allIn_mem h.2⟩
theorem sumW_bound {l : List Int} (h : ∀ z ∈ l, 0 ≤ z ∧ z ≤ 1000) : 0 ≤ l.sum ∧ l.sum ≤ 1000 * l.length := by
  induction l with
  | nil => simp
  | cons a l ih =>
    have h1 := h a (by simp)
    have h2 := ih (fun z hz => h z (by simp [hz]))
    simp
    omega
theorem sum_takeW {l : List Int} {k : Nat} (hk : k < l.length) : (l.take (k + 1)).sum = (l.take k).sum + l[k] := by
  rw [List.take_succ_eq_append_getElem hk, List.sum_append]
  simp

set_option maxHeartbeats 400000 in
theorem upToW_any (n m : Int) (w : World) :
    Calls Tryd.prog 48 #[.int .i64 n, .int .i64 m] w fun e w' => e = .returned (.bool (inB n 1 m)) ∧ w = w' := by
  by_cases h1 : 1 ≤ n <;> by_cases h2 : n ≤ m
  all_goals
    go_enter Tryd.func48, Tryd.ntmps48
    go_wp2
    go_ret
    exact ⟨by simp [inB, h1, h2], rfl⟩







end Go.Proofs.YtghlgmbekgfmnabDoor
