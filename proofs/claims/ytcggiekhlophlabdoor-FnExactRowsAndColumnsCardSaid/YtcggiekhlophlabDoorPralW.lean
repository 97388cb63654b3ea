/-
  Words for pralines: for how many of them tasters and rounds are enough; the least number with a property. Nothing of the program is named here.
-/
import Derived.Test.YtcggiekhlophlabDoorBase
import Derived.IntWalk
namespace Go.Proofs.YtcggiekhlophlabDoor
open Go.RowKit
set_option linter.unusedVariables false

/-- the least number from k on, of at most n, of which f holds -/
def lst (f : Nat → Bool) : Nat → Nat → Nat
  | 0, k => k
  | n + 1, k => if f k then k else lst f n (k + 1)
theorem lst_eq (f : Nat → Bool) : ∀ (n s k : Nat), s ≤ k → k ≤ s + n → (∀ j, s ≤ j → j < k → f j = false) → (k < s + n → f k = true) → lst f n s = k
  | 0, s, k, h1, h2, h3, h4 => by simp [lst]; omega
  | n + 1, s, k, h1, h2, h3, h4 => by
    unfold lst
    by_cases e : s = k
    · subst e
      rw [if_pos (h4 (by omega))]
    · rw [if_neg (by rw [h3 s (Nat.le_refl _) (by omega)]; simp)]
      exact lst_eq f n (s + 1) k (by omega) (by omega) (fun j hj hk => h3 j (by omega) hk) (fun h => h4 (by omega))

/-- for how many pralines so many rounds and tasters are enough -/
def roomN (r t : Nat) : Nat := min ((r + 1) ^ t) 1000000
theorem roomN_zero (r : Nat) : roomN r 0 = 1 := by simp [roomN]
theorem roomN_le (r t : Nat) : roomN r t ≤ 1000000 := Nat.min_le_right _ _
theorem roomN_pos (r t : Nat) : 1 ≤ roomN r t := by
  have := Nat.pow_pos (n := t) (show 0 < r + 1 by omega)
  unfold roomN; omega
theorem roomN_succ (r t : Nat) : roomN r (t + 1) = min (roomN r t * (r + 1)) 1000000 := by
  unfold roomN
  rw [Nat.pow_succ]
  by_cases h : (r + 1) ^ t ≤ 1000000
  · rw [Nat.min_eq_left h]
  · rw [Nat.min_eq_right (by omega : 1000000 ≤ (r + 1) ^ t), Nat.min_eq_right (Nat.le_trans (by omega : 1000000 ≤ (r + 1) ^ t) (Nat.le_mul_of_pos_right _ (by omega))), Nat.min_eq_right (Nat.le_mul_of_pos_right _ (by omega))]
theorem roomN_up (r : Nat) {s t : Nat} (h : s ≤ t) : roomN r s ≤ roomN r t := by
  have := Nat.pow_le_pow_right (show 0 < r + 1 by omega) h
  unfold roomN; omega
theorem roomN_upR {r q : Nat} (t : Nat) (h : r ≤ q) : roomN r t ≤ roomN q t := by
  have := Nat.pow_le_pow_left (show r + 1 ≤ q + 1 by omega) t
  unfold roomN; omega
theorem roomN_20 {r t : Nat} (hr : 1 ≤ r) (ht : 20 ≤ t) : roomN r t = 1000000 := by
  have h1 := Nat.pow_le_pow_left (show 2 ≤ r + 1 by omega) 20
  have h2 := Nat.pow_le_pow_right (show 0 < r + 1 by omega) ht
  unfold roomN; omega
theorem roomN_one (r : Nat) : roomN r 1 = min (r + 1) 1000000 := by simp [roomN]

/-- the powers that the model goes through -/
theorem room_end {r k t : Nat} (hk : k ≤ t) (h : k = t ∨ 1000000 ≤ (r + 1) ^ k) : min ((r + 1) ^ k) 1000000 = roomN r t := by
  rcases h with rfl | h
  · rfl
  · have := Nat.pow_le_pow_right (show 0 < r + 1 by omega) hk
    unfold roomN; omega

/-- the least number of tasters -/
def tfV (p r : Nat) : Nat := lst (fun k => decide (p ≤ roomN r k)) 20 0
theorem tfV_eq {p r k : Nat} (hr : 1 ≤ r) (hp : p ≤ 1000000) (hk : k ≤ 20) (h1 : ∀ j, j < k → roomN r j < p) (h2 : p ≤ roomN r k) : tfV p r = k := by
  unfold tfV
  refine lst_eq _ 20 0 k (by omega) (by omega) (fun j _ hj => by have := h1 j hj; simp; omega) (fun _ => by simpa using h2)
/-- the least number of rounds -/
def rfV (p t : Nat) : Nat := lst (fun k => decide (p ≤ roomN k t)) p 0
theorem rfV_eq {p t k : Nat} (hk : k ≤ p) (h1 : ∀ j, j < k → roomN j t < p) (h2 : p ≤ roomN k t) : rfV p t = k := by
  unfold rfV
  exact lst_eq _ p 0 k (by omega) (by omega) (fun j _ hj => by have := h1 j hj; simp; omega) (fun _ => by simpa using h2)

def tfOk (p r : Int) : Bool := inB p 1 1000000 && inB r 1 20
def tfN (p r : Int) : Int := if tfOk p r then (tfV p.toNat r.toNat : Nat) else 0
def rfN (p t : Int) : Int := if tfOk p t then (rfV p.toNat t.toNat : Nat) else 0
def mpOk (t r : Int) : Bool := inB t 1 20 && inB r 1 20
def mpN (t r : Int) : Int := if mpOk t r then (roomN r.toNat t.toNat : Nat) else 0
theorem inB_nat {x : Int} {m : Nat} (h : inB x 1 (m : Int) = true) : ∃ a : Nat, x = a ∧ 1 ≤ a ∧ a ≤ m := by
  simp [inB] at h
  exact ⟨x.toNat, by omega, by omega, by omega⟩
theorem inB_true {x a b : Int} (h : inB x a b = true) : a ≤ x ∧ x ≤ b := by simpa [inB] using h

/-- enough of all -/
def beB (p t r : Int) : Bool := inB p 1 1000000 && (mpOk t r && decide (p ≤ mpN t r))
def brN (p t r : Int) : Int := if beB p t r then min (p - 1) r else 0

end Go.Proofs.YtcggiekhlophlabDoor
