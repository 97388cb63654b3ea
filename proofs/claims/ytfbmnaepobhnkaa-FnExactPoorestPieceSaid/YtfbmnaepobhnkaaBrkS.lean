/-
  Words: the breaks of a part, one after the other: what they lead to.
-/
import Derived.Test.YtfbmnaepobhnkaaFewW
import Derived.Test.YtfbmnaepobhnkaaPieceW
import Derived.Test.YtfbmnaepobhnkaaBop
namespace Go.Proofs.Ytfbmnaepobhnkaa
open Go.RowKit
set_option linter.unusedVariables false

/-- a part of a part that comes before it -/
def SubP (x y a b x' y' a' b' : Nat) : Prop := 1 ≤ a' ∧ 1 ≤ b' ∧ x ≤ x' ∧ x' + a' ≤ x + a ∧ y ≤ y' ∧ y' + b' ≤ y + b ∧ (a' < a ∨ a' = a ∧ b' < b)
def brokenK (g : G4) (x y a b k : Nat) : Nat := if k ≤ a - 1 then downF g x y a b k (a * b) else acrF g x y a b (k - (a - 1)) (downF g x y a b (a - 1) (a * b))
theorem brokenK_all (g : G4) (x y a b : Nat) : brokenK g x y a b ((a - 1) + (b - 1)) = brokenF g x y a b := by
  unfold brokenK brokenF
  by_cases h : b - 1 = 0
  · rw [if_pos (by omega), h]; rfl
  · rw [if_neg (by omega), show a - 1 + (b - 1) - (a - 1) = b - 1 by omega]
def prK (ss : List ByteArray) (x y a b t k : Nat) (m : Int) : Int := if k ≤ a - 1 then prD ss x y a b t k m else prA ss x y a b t (k - (a - 1)) (prD ss x y a b t (a - 1) m)
theorem prK_all (ss : List ByteArray) (x y a b t : Nat) (m : Int) : prK ss x y a b t ((a - 1) + (b - 1)) m = prA ss x y a b t (b - 1) (prD ss x y a b t (a - 1) m) := by
  unfold prK
  by_cases h : b - 1 = 0
  · rw [if_pos (by omega), h]; rfl
  · rw [if_neg (by omega), show a - 1 + (b - 1) - (a - 1) = b - 1 by omega]
theorem brk_step (ss : List ByteArray) (x y a b k : Nat) (ha : 1 ≤ a) (hb : 1 ≤ b) (h : k < (brkL x y a b).length) : ∃ x1 y1 a1 b1 x2 y2 a2 b2 : Nat,
    (brkL x y a b)[k] = (((x1 : Int), (y1 : Int), (a1 : Int), (b1 : Int)), ((x2 : Int), (y2 : Int), (a2 : Int), (b2 : Int))) ∧ SubP x y a b x1 y1 a1 b1 ∧ SubP x y a b x2 y2 a2 b2
    ∧ (∀ g : G4, brokenK g x y a b (k + 1) = min (brokenK g x y a b k) (g x1 y1 a1 b1 + g x2 y2 a2 b2))
    ∧ ∀ (t : Nat) (m : Int), prK ss x y a b t (k + 1) m = combP (pr ss x1 y1 a1 b1) (pr ss x2 y2 a2 b2) t (t - 1) (prK ss x y a b t k m) := by
  rw [length_brkL] at h
  by_cases hk : k < a - 1
  · refine ⟨x, y, k + 1, b, x + (k + 1), y, a - (k + 1), b, ?_, ?_, ?_, fun g => ?_, fun t m => ?_⟩
    · have h2 : k < (downL x y a b (a - 1)).length := by rw [length_downL]; exact hk
      simp only [brkL]
      rw [List.getElem_append_left h2, downL_at]
    · unfold SubP; omega
    · unfold SubP; omega
    · unfold brokenK
      rw [if_pos (by omega), if_pos (by omega)]
      rfl
    · unfold prK
      rw [if_pos (by omega), if_pos (by omega)]
      rfl
  · obtain ⟨i, rfl⟩ : ∃ i, k = (a - 1) + i := ⟨k - (a - 1), by omega⟩
    refine ⟨x, y, a, i + 1, x, y + (i + 1), a, b - (i + 1), ?_, ?_, ?_, fun g => ?_, fun t m => ?_⟩
    · have h3 : i < (acrL x y a b (b - 1)).length := by rw [length_acrL]; omega
      have e := acrL_at x y a b (b - 1) i h3
      simp only [brkL]
      rw [List.getElem_append_right (by rw [length_downL]; omega)]
      simp only [length_downL, Nat.add_sub_cancel_left]
      exact e
    · unfold SubP; omega
    · unfold SubP; omega
    · unfold brokenK
      rw [if_neg (by omega), show a - 1 + i + 1 - (a - 1) = i + 1 by omega]
      by_cases e : i = 0
      · subst e
        rw [if_pos (by omega)]
        rfl
      · rw [if_neg (by omega), show a - 1 + i - (a - 1) = i by omega]
        rfl
    · unfold prK
      rw [if_neg (by omega), show a - 1 + i + 1 - (a - 1) = i + 1 by omega]
      by_cases e : i = 0
      · subst e
        rw [if_pos (by omega)]
        rfl
      · rw [if_neg (by omega), show a - 1 + i - (a - 1) = i by omega]
        rfl
theorem brokenK_le {g : G4} {x y a b : Nat} : ∀ k : Nat, k ≤ (a - 1) + (b - 1) → brokenK g x y a b k ≤ a * b := by
  have hd : ∀ k, downF g x y a b k (a * b) ≤ a * b := by
    intro k
    induction k with
    | zero => exact Nat.le_refl _
    | succ k ih => simp only [downF]; omega
  have hc : ∀ k s, s ≤ a * b → acrF g x y a b k s ≤ a * b := by
    intro k s hs
    induction k with
    | zero => exact hs
    | succ k ih => simp only [acrF]; omega
  intro k _
  unfold brokenK
  split
  · exact hd k
  · exact hc _ _ (hd _)

end Go.Proofs.Ytfbmnaepobhnkaa
