/-
  Words for results of weighings. Nothing of the program is named here.
-/
import Derived.Test.YtcggiekhlophlaaWeigh
namespace Go.Proofs.Ytcggiekhlophlaa
open Go.RowKit
set_option linter.unusedVariables false

/-- the results with n suspects, of which number k is the heavier one -/
def resL : Nat → Nat → Nat → List UInt8
  | 0, _, _ => []
  | f + 1, n, k => if n ≤ 1 then [] else if k < panN n then 108 :: resL f (panN n) k else if k < 2 * panN n then 114 :: resL f (panN n) (k - panN n) else 61 :: resL f (n - 2 * panN n) (k - 2 * panN n)
theorem resL_fuel : ∀ (f g n k : Nat), n ≤ f → n ≤ g → resL f n k = resL g n k
  | 0, 0, n, k, _, _ => rfl
  | 0, g + 1, n, k, h, _ => by
    have : n = 0 := by omega
    subst this; simp [resL]
  | f + 1, 0, n, k, _, h => by
    have : n = 0 := by omega
    subst this; simp [resL]
  | f + 1, g + 1, n, k, h1, h2 => by
    unfold resL
    by_cases e : n ≤ 1
    · rw [if_pos e, if_pos e]
    · have a := panN_lt (n := n) (by omega)
      have b := panN_pos (n := n) (by omega)
      rw [if_neg e, if_neg e, resL_fuel f g (panN n) k (by omega) (by omega), resL_fuel f g (panN n) (k - panN n) (by omega) (by omega), resL_fuel f g (n - 2 * panN n) (k - 2 * panN n) (by omega) (by omega)]
def rsL (n k : Nat) : List UInt8 := resL n n k
theorem rsL_one {n k : Nat} (h : n ≤ 1) : rsL n k = [] := by
  unfold rsL
  cases n with
  | zero => rfl
  | succ n => unfold resL; rw [if_pos h]
theorem rsL_step {n k : Nat} (h : 2 ≤ n) : rsL n k = if k < panN n then 108 :: rsL (panN n) k else if k < 2 * panN n then 114 :: rsL (panN n) (k - panN n) else 61 :: rsL (n - 2 * panN n) (k - 2 * panN n) := by
  obtain ⟨m, rfl⟩ : ∃ m, n = m + 1 := ⟨n - 1, by omega⟩
  have a := panN_lt h
  have b := panN_pos h
  unfold rsL
  rw [resL, if_neg (by omega), resL_fuel m (panN (m + 1)) _ k (by omega) (by omega), resL_fuel m (panN (m + 1)) _ (k - panN (m + 1)) (by omega) (by omega), resL_fuel m (m + 1 - 2 * panN (m + 1)) _ (k - 2 * panN (m + 1)) (by omega) (by omega)]
theorem rsL_l {n k : Nat} (h : 2 ≤ n) (h1 : k < panN n) : rsL n k = 108 :: rsL (panN n) k := by rw [rsL_step h, if_pos h1]
theorem rsL_r {n k : Nat} (h : 2 ≤ n) (h1 : ¬ k < panN n) (h2 : k < 2 * panN n) : rsL n k = 114 :: rsL (panN n) (k - panN n) := by rw [rsL_step h, if_neg h1, if_pos h2]
theorem rsL_e {n k : Nat} (h : 2 ≤ n) (h2 : ¬ k < 2 * panN n) : rsL n k = 61 :: rsL (n - 2 * panN n) (k - 2 * panN n) := by rw [rsL_step h, if_neg (by omega), if_neg h2]

def lrL : Nat → Nat → Nat
  | 0, _ => 0
  | f + 1, n => if n ≤ 1 then 0 else 1 + max (lrL f (panN n)) (lrL f (n - 2 * panN n))
theorem lrL_fuel : ∀ (f g n : Nat), n ≤ f → n ≤ g → lrL f n = lrL g n
  | 0, 0, n, _, _ => rfl
  | 0, g + 1, n, h, _ => by
    have : n = 0 := by omega
    subst this; simp [lrL]
  | f + 1, 0, n, _, h => by
    have : n = 0 := by omega
    subst this; simp [lrL]
  | f + 1, g + 1, n, h1, h2 => by
    unfold lrL
    by_cases e : n ≤ 1
    · rw [if_pos e, if_pos e]
    · have a := panN_lt (n := n) (by omega)
      have b := panN_pos (n := n) (by omega)
      rw [if_neg e, if_neg e, lrL_fuel f g (panN n) (by omega) (by omega), lrL_fuel f g (n - 2 * panN n) (by omega) (by omega)]
/-- the greatest number of results -/
def lrN (n : Nat) : Nat := lrL n n
theorem lrN_one {n : Nat} (h : n ≤ 1) : lrN n = 0 := by
  unfold lrN
  cases n with
  | zero => rfl
  | succ n => unfold lrL; rw [if_pos h]
theorem lrN_step {n : Nat} (h : 2 ≤ n) : lrN n = 1 + max (lrN (panN n)) (lrN (n - 2 * panN n)) := by
  obtain ⟨m, rfl⟩ : ∃ m, n = m + 1 := ⟨n - 1, by omega⟩
  have a := panN_lt h
  have b := panN_pos h
  unfold lrN
  rw [lrL, if_neg (by omega), lrL_fuel m (panN (m + 1)) _ (by omega) (by omega), lrL_fuel m (m + 1 - 2 * panN (m + 1)) _ (by omega) (by omega)]
theorem lrN_le : ∀ (f n : Nat), n ≤ f → lrN n ≤ n
  | 0, n, h => by rw [lrN_one (by omega)]; omega
  | f + 1, n, h => by
    by_cases e : n ≤ 1
    · rw [lrN_one e]; omega
    · have a := panN_lt (n := n) (by omega)
      have b := panN_pos (n := n) (by omega)
      have c := lrN_le f (panN n) (by omega)
      have d := lrN_le f (n - 2 * panN n) (by omega)
      rw [lrN_step (by omega)]
      omega
theorem rsL_le : ∀ (f n k : Nat), n ≤ f → (rsL n k).length ≤ lrN n
  | 0, n, k, h => by rw [rsL_one (by omega)]; simp
  | f + 1, n, k, h => by
    by_cases e : n ≤ 1
    · rw [rsL_one e]; simp
    · have a := panN_lt (n := n) (by omega)
      have b := panN_pos (n := n) (by omega)
      have c1 := rsL_le f (panN n) k (by omega)
      have c2 := rsL_le f (panN n) (k - panN n) (by omega)
      have d := rsL_le f (n - 2 * panN n) (k - 2 * panN n) (by omega)
      rw [lrN_step (by omega), rsL_step (by omega)]
      split
      · simp only [List.length_cons]; omega
      · split
        · simp only [List.length_cons]; omega
        · simp only [List.length_cons]; omega
theorem rsL_at : ∀ (f n : Nat), n ≤ f → 1 ≤ n → ∃ k, k < n ∧ (rsL n k).length = lrN n
  | 0, n, h, h1 => by omega
  | f + 1, n, h, h1 => by
    by_cases e : n ≤ 1
    · exact ⟨0, by omega, by rw [rsL_one e, lrN_one e]; rfl⟩
    · have a := panN_lt (n := n) (by omega)
      have b := panN_pos (n := n) (by omega)
      have c := panN_two (n := n) (by omega)
      rw [lrN_step (by omega)]
      by_cases q : lrN (n - 2 * panN n) ≤ lrN (panN n)
      · obtain ⟨k, hk, hl⟩ := rsL_at f (panN n) (by omega) b
        refine ⟨k, by omega, ?_⟩
        rw [rsL_l (by omega) hk, List.length_cons, hl]; omega
      · have : 1 ≤ n - 2 * panN n := by
          by_cases z : n - 2 * panN n = 0
          · rw [z, lrN_one (by omega)] at q; omega
          · omega
        obtain ⟨k, hk, hl⟩ := rsL_at f (n - 2 * panN n) (by omega) this
        refine ⟨2 * panN n + k, by omega, ?_⟩
        rw [rsL_e (by omega) (by omega), List.length_cons, show 2 * panN n + k - 2 * panN n = k by omega, hl]; omega
/-- the greatest number of the results of the first j -/
def mxR (n : Nat) : Nat → Nat
  | 0 => 0
  | j + 1 => max (mxR n j) (rsL n j).length
theorem mxR_le (n : Nat) : ∀ j, mxR n j ≤ lrN n
  | 0 => Nat.zero_le _
  | j + 1 => by have := mxR_le n j; have := rsL_le n n j (Nat.le_refl _); unfold mxR; omega
theorem mxR_ge (n : Nat) : ∀ j k, k < j → (rsL n k).length ≤ mxR n j
  | 0, k, h => by omega
  | j + 1, k, h => by
    unfold mxR
    by_cases e : k = j
    · subst e; omega
    · have := mxR_ge n j k (by omega); omega
theorem mxR_all {n : Nat} (h : 1 ≤ n) : mxR n n = lrN n := by
  obtain ⟨k, hk, hl⟩ := rsL_at n n (Nat.le_refl _) h
  have := mxR_ge n n k hk
  have := mxR_le n n
  omega

def txt (l : List UInt8) : ByteArray := ⟨l.toArray⟩
theorem txt_add (l : List UInt8) (b : UInt8) : txt (l ++ [b]) = txt l ++ ByteArray.mk #[b] := by
  apply ByteArray.ext
  simp [txt]
theorem size_txt (l : List UInt8) : (txt l).size = l.length := by
  show l.toArray.size = _
  simp

def rsB (p h : Int) : Bool := inB p 1 1000 && inB h 0 (p - 1)
def rsN (p h : Int) : ByteArray := if rsB p h then txt (rsL p.toNat h.toNat) else ByteArray.mk #[]
theorem rsN_no {p h : Int} (e : rsB p h = false) : rsN p h = ByteArray.mk #[] := by simp [rsN, e]
def loN (p : Int) : Int := if inB p 1 1000 then (lrN p.toNat : Nat) else 0
end Go.Proofs.Ytcggiekhlophlaa
