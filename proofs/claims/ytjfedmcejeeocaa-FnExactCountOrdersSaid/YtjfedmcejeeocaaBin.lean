/-
  Words for orders: binomials, capped. Nothing of the program is named here.
-/
import Derived.Test.YtjfedmcejeeocaaTreesW
namespace Go.Proofs.Ytjfedmcejeeocaa
open Go.RowKit
set_option linter.unusedVariables false

def bin : Nat → Nat → Nat
  | _, 0 => 1
  | 0, _ + 1 => 0
  | n + 1, k + 1 => bin n k + bin n (k + 1)
theorem bin_zero (n : Nat) : bin n 0 = 1 := by cases n <;> rfl
theorem bin_succ (n k : Nat) : bin (n + 1) (k + 1) = bin n k + bin n (k + 1) := rfl
theorem bin_big : ∀ (n k : Nat), n < k → bin n k = 0
  | 0, k + 1, _ => rfl
  | n + 1, k + 1, h => by rw [bin_succ, bin_big n k (by omega), bin_big n (k + 1) (by omega)]
theorem bin_self : ∀ n, bin n n = 1
  | 0 => rfl
  | n + 1 => by rw [bin_succ, bin_self n, bin_big n (n + 1) (by omega)]
theorem bin_sym : ∀ (s a b : Nat), a + b = s → bin (a + b) a = bin (a + b) b
  | s, 0, b, _ => by rw [bin_zero, Nat.zero_add, bin_self]
  | s, a + 1, 0, _ => by rw [Nat.add_zero, bin_self, bin_zero]
  | 0, a + 1, b + 1, h => by omega
  | s + 1, a + 1, b + 1, h => by
    have h1 := bin_sym s a (b + 1) (by omega)
    have h2 := bin_sym s (a + 1) b (by omega)
    have e : a + 1 + (b + 1) = (a + (b + 1)) + 1 := by omega
    have e2 : a + (b + 1) = a + 1 + b := by omega
    rw [e, bin_succ, bin_succ, h1]
    rw [e2] at h1 ⊢
    rw [h2]
    omega
theorem bin_mul : ∀ (n k : Nat), (n + 1) * bin n k = bin (n + 1) (k + 1) * (k + 1)
  | 0, 0 => rfl
  | 0, k + 1 => by rw [bin_succ]; simp [bin]
  | n + 1, 0 => by
    have h := bin_mul n 0
    rw [bin_succ, bin_zero]
    rw [bin_zero] at h
    omega
  | n + 1, k + 1 => by
    have h1 := bin_mul n k
    have h2 := bin_mul n (k + 1)
    have e1 := bin_succ n k
    have e2 := bin_succ (n + 1) (k + 1)
    generalize bin (n + 1) (k + 1) = p at *
    generalize bin (n + 1) (k + 1 + 1) = q at *
    rw [e2]
    rw [e1] at h1 ⊢
    generalize bin n k = x at *
    generalize bin n (k + 1) = y at *
    simp only [Nat.add_mul, Nat.mul_add, Nat.one_mul, Nat.mul_one] at h1 h2 ⊢
    omega
theorem bin_grow (n k : Nat) : bin n k ≤ bin (n + 1) (k + 1) := by rw [bin_succ]; omega
theorem bin_pos : ∀ (n k : Nat), k ≤ n → 1 ≤ bin n k
  | n, 0, _ => by rw [bin_zero]; omega
  | n + 1, k + 1, h => by have := bin_pos n k (by omega); rw [bin_succ]; omega

def capN (v : Nat) : Nat := if v ≤ 1000000000000000 then v else 1000000000000001
theorem capN_add (x y : Nat) : capN (capN x + capN y) = capN (x + y) := by unfold capN; (repeat' split) <;> omega
/-- the exact step of the product -/
theorem bin_step {m i : Nat} (hi : 1 ≤ i) : bin (m + (i - 1)) (i - 1) * (m + i) / i = bin (m + i) i := by
  obtain ⟨k, rfl⟩ : ∃ k, i = k + 1 := ⟨i - 1, by omega⟩
  have h := bin_mul (m + k) k
  rw [Nat.add_sub_cancel, show m + (k + 1) = m + k + 1 by omega, Nat.mul_comm, h]
  exact Nat.mul_div_cancel _ (by omega)
theorem bin_up {m i j : Nat} (h : i ≤ j) : bin (m + i) i ≤ bin (m + j) j := by
  induction j with
  | zero => have : i = 0 := by omega
            subst this; exact Nat.le_refl _
  | succ j ih =>
    by_cases e : i = j + 1
    · subst e; exact Nat.le_refl _
    · have h1 := ih (by omega)
      have h2 := bin_grow (m + j) j
      exact Nat.le_trans h1 h2

end Go.Proofs.Ytjfedmcejeeocaa
