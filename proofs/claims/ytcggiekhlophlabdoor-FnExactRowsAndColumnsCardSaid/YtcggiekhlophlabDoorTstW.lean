/-
  Words for tests of pralines in groups. Nothing of the program is named here.
-/
import Derived.Test.YtcggiekhlophlabDoorPralW
import Derived.Lib.IndexLaws
namespace Go.Proofs.YtcggiekhlophlabDoor
open Go.RowKit
set_option linter.unusedVariables false

/-- whether there is a bitter one -/
def hasX (l : List UInt8) : Bool := decide (0 ≤ Lib.indexByte l 120)
theorem indexByte_lt : ∀ (l : List UInt8) (c : UInt8), Lib.indexByte l c = -1 ∨ 0 ≤ Lib.indexByte l c := fun l c => by
  have := Lib.indexByte_ge l c; omega
theorem hasX_iff (l : List UInt8) : hasX l = true ↔ (120 : UInt8) ∈ l := by
  unfold hasX
  rw [decide_eq_true_eq]
  constructor
  · intro h
    obtain ⟨o, ho⟩ : ∃ o : Nat, Lib.indexByte l 120 = o := ⟨(Lib.indexByte l 120).toNat, by omega⟩
    have := (Lib.indexByte_some ho).1
    exact List.mem_of_getElem? this
  · intro h
    rcases indexByte_lt l 120 with e | e
    · obtain ⟨k, hk⟩ := List.mem_iff_getElem?.1 h
      exact absurd hk (Lib.indexByte_none e k)
    · exact e
/-- the tests of one group -/
def tgL (l : List UInt8) : Nat := if 1 < l.length ∧ hasX l = true then 1 + l.length else 1
theorem tgL_le (l : List UInt8) : 1 ≤ tgL l ∧ tgL l ≤ 1 + l.length := by unfold tgL; split <;> omega
/-- the tests of all groups -/
def tbF (g : Nat) : Nat → List UInt8 → Nat
  | 0, _ => 0
  | f + 1, l => if l.length = 0 then 0 else tgL (l.take g) + tbF g f (l.drop g)
theorem tbF_fuel (g : Nat) (hg : 1 ≤ g) : ∀ (f e : Nat) (l : List UInt8), l.length ≤ f → l.length ≤ e → tbF g f l = tbF g e l
  | 0, 0, l, _, _ => rfl
  | 0, e + 1, l, h, _ => by
    have z : l.length = 0 := by omega
    simp only [tbF, if_pos z]
  | f + 1, 0, l, _, h => by
    have z : l.length = 0 := by omega
    simp only [tbF, if_pos z]
  | f + 1, e + 1, l, h1, h2 => by
    unfold tbF
    by_cases z : l.length = 0
    · rw [if_pos z, if_pos z]
    · rw [if_neg z, if_neg z, tbF_fuel g hg f e (l.drop g) (by simp; omega) (by simp; omega)]
def tbL' (g : Nat) (l : List UInt8) : Nat := tbF g l.length l
theorem tb_nil (g : Nat) : tbL' g [] = 0 := rfl
theorem tb_step {g : Nat} (hg : 1 ≤ g) {l : List UInt8} (h : l.length ≠ 0) : tbL' g l = tgL (l.take g) + tbL' g (l.drop g) := by
  obtain ⟨m, hm⟩ : ∃ m, l.length = m + 1 := ⟨l.length - 1, by omega⟩
  unfold tbL'
  rw [hm, tbF, if_neg h, tbF_fuel g hg m (l.drop g).length (l.drop g) (by simp; omega) (Nat.le_refl _)]
theorem tb_le {g : Nat} (hg : 1 ≤ g) : ∀ (f : Nat) (l : List UInt8), l.length ≤ f → tbL' g l ≤ 2 * l.length
  | 0, l, h => by
    have : l = [] := List.eq_nil_of_length_eq_zero (by omega)
    subst this; simp [tb_nil]
  | f + 1, l, h => by
    by_cases z : l.length = 0
    · have : l = [] := List.eq_nil_of_length_eq_zero z
      subst this; simp [tb_nil]
    · rw [tb_step hg z]
      have h1 := tgL_le (l.take g)
      have h2 := tb_le hg f (l.drop g) (by simp; omega)
      simp only [List.length_take, List.length_drop] at h1 h2
      omega
/-- groups without a bitter one -/
theorem tb_no {g : Nat} (hg : 1 ≤ g) : ∀ (f : Nat) (l : List UInt8), l.length ≤ f → (120 : UInt8) ∉ l → tbL' g l = (l.length + g - 1) / g
  | 0, l, h, _ => by
    have : l = [] := List.eq_nil_of_length_eq_zero (by omega)
    subst this
    rw [tb_nil]
    simp only [List.length_nil]
    rw [Nat.div_eq_of_lt (by omega)]
  | f + 1, l, h, hx => by
    by_cases z : l.length = 0
    · have : l = [] := List.eq_nil_of_length_eq_zero z
      subst this
      rw [tb_nil]
      simp only [List.length_nil]
      rw [Nat.div_eq_of_lt (by omega)]
    · have hxt : hasX (l.take g) = false := by
        cases e : hasX (l.take g)
        · rfl
        · exact absurd (List.mem_of_mem_take ((hasX_iff _).1 e)) hx
      rw [tb_step hg z, tb_no hg f (l.drop g) (by simp; omega) (fun e => hx (List.mem_of_mem_drop e))]
      simp only [tgL, hxt, List.length_drop]
      simp
      by_cases c : l.length ≤ g
      · rw [Nat.div_eq_of_lt (by omega)]
        have : (l.length + g - 1) / g = 1 := by
          apply Nat.div_eq_of_lt_le <;> omega
        omega
      · rw [show l.length + g - 1 = (l.length - g + g - 1) + g by omega, Nat.add_div_right _ (by omega)]
        omega
/-- the most tests with one bitter one -/
def worstN (p g : Nat) : Nat := if 1 < min g p then (p + g - 1) / g + min g p else (p + g - 1) / g
def worstL (p : Nat) : List UInt8 := 120 :: List.replicate (p - 1) 111
theorem tb_worst {p g : Nat} (hp : 1 ≤ p) (hg : 1 ≤ g) : tbL' g (worstL p) = worstN p g := by
  have hl : (worstL p).length = p := by simp [worstL]; omega
  rw [tb_step hg (by omega)]
  have hd : (120 : UInt8) ∉ (worstL p).drop g := by
    obtain ⟨q, rfl⟩ : ∃ q, g = q + 1 := ⟨g - 1, by omega⟩
    simp only [worstL, List.drop_succ_cons, List.drop_replicate]
    intro e
    have := List.eq_of_mem_replicate e
    exact absurd this (by decide)
  have ht : hasX ((worstL p).take g) = true := by
    rw [hasX_iff]
    obtain ⟨q, rfl⟩ : ∃ q, g = q + 1 := ⟨g - 1, by omega⟩
    simp [worstL]
  rw [tb_no hg _ _ (Nat.le_refl _) hd]
  simp only [tgL, ht, List.length_take, List.length_drop, hl, and_true]
  unfold worstN
  have hdiv : (p + g - 1) / g = 1 + (p - g + g - 1) / g := by
    by_cases c : p ≤ g
    · rw [show p - g + g - 1 = g - 1 by omega, Nat.div_eq_of_lt (show g - 1 < g by omega)]
      apply Nat.div_eq_of_lt_le <;> omega
    · rw [show p + g - 1 = (p - g + g - 1) + g by omega, Nat.add_div_right _ (by omega)]
      omega
  rw [hdiv]
  split <;> omega
theorem worstN_le {p g : Nat} : worstN p g ≤ p + g + p := by
  have h := Nat.div_le_self (p + g - 1) g
  unfold worstN
  split <;> omega
end Go.Proofs.YtcggiekhlophlabDoor
