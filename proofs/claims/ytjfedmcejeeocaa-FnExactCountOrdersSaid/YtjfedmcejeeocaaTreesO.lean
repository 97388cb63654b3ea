/-
  Words for counted orders: the recurrence of orders, that its numbers stay in range, and that it has one solution.
-/
import Derived.Test.YtjfedmcejeeocaaCTrees
import Derived.Test.YtjfedmcejeeocaaBin
import Derived.Test.YtjfedmcejeeocaaMerge
import Derived.Test.YtjfedmcejeeocaaChoose
namespace Go.Proofs.Ytjfedmcejeeocaa
open Go.RowKit Go.Maps
set_option linter.unusedVariables false

def binC (a b : Nat) : Int := ((capN (bin (a + b) a) : Nat) : Int)
theorem binC_in (a b : Nat) : InR (binC a b) := by
  have h1 := bin_pos (a + b) a (by omega)
  unfold binC capN InR
  split <;> omega
/-- the orders of both parts, put together -/
def tO (M : Nat → Nat → Int) (a b c d : Nat) : Int := timesC (timesC (M a b) (M c d)) (binC (a * b - 1) (c * d - 1))
theorem tO_in {M : Nat → Nat → Int} {a b c d : Nat} (h1 : InR (M a b)) (h2 : InR (M c d)) : InR (tO M a b c d) := timesC_in (timesC_in h1 h2) (binC_in _ _)
def downO (M : Nat → Nat → Int) (x y : Nat) : Nat → Int → Int
  | 0, s => s
  | k + 1, s => capS (downO M x y k s + tO M (k + 1) y (x - (k + 1)) y)
def acrossO (M : Nat → Nat → Int) (x y : Nat) : Nat → Int → Int
  | 0, s => s
  | k + 1, s => capS (acrossO M x y k s + tO M x (k + 1) x (y - (k + 1)))
def stepO (M : Nat → Nat → Int) (x y : Nat) : Int := if x = 1 ∧ y = 1 then 1 else acrossO M x y (y - 1) (downO M x y (x - 1) 0)
theorem downO_in {M : Nat → Nat → Int} {x y : Nat} (hM : GoodM M x y) (hy : 1 ≤ y) : ∀ (k : Nat) (s : Int), k + 1 ≤ x → 0 ≤ s → s ≤ 1000000000000001 → 0 ≤ downO M x y k s ∧ downO M x y k s ≤ 1000000000000001 ∧ (1 ≤ k ∨ 1 ≤ s → 1 ≤ downO M x y k s)
  | 0, s, _, h0, h1 => ⟨h0, h1, fun h => h.elim (fun h => absurd h (by omega)) id⟩
  | k + 1, s, hk, h0, h1 => by
    obtain ⟨a1, a2, a3⟩ := downO_in hM hy k s (by omega) h0 h1
    have ht := tO_in (hM (k + 1) y (by omega) (by omega) hy (Nat.le_refl _) (by omega)) (hM (x - (k + 1)) y (by omega) (by omega) hy (Nat.le_refl _) (by omega))
    have hc := capS_in (s := downO M x y k s + tO M (k + 1) y (x - (k + 1)) y) (by have := ht.1; omega)
    exact ⟨hc.1, hc.2.1, fun _ => hc.2.2 (by have := ht.1; omega)⟩
theorem acrossO_in {M : Nat → Nat → Int} {x y : Nat} (hM : GoodM M x y) (hx : 1 ≤ x) : ∀ (k : Nat) (s : Int), k + 1 ≤ y → 0 ≤ s → s ≤ 1000000000000001 → 0 ≤ acrossO M x y k s ∧ acrossO M x y k s ≤ 1000000000000001 ∧ (1 ≤ k ∨ 1 ≤ s → 1 ≤ acrossO M x y k s)
  | 0, s, _, h0, h1 => ⟨h0, h1, fun h => h.elim (fun h => absurd h (by omega)) id⟩
  | k + 1, s, hk, h0, h1 => by
    obtain ⟨a1, a2, a3⟩ := acrossO_in hM hx k s (by omega) h0 h1
    have ht := tO_in (hM x (k + 1) hx (Nat.le_refl _) (by omega) (by omega) (by omega)) (hM x (y - (k + 1)) hx (Nat.le_refl _) (by omega) (by omega) (by omega))
    have hc := capS_in (s := acrossO M x y k s + tO M x (k + 1) x (y - (k + 1))) (by have := ht.1; omega)
    exact ⟨hc.1, hc.2.1, fun _ => hc.2.2 (by have := ht.1; omega)⟩
theorem stepO_in {M : Nat → Nat → Int} {x y : Nat} (hM : GoodM M x y) (hx : 1 ≤ x) (hy : 1 ≤ y) : InR (stepO M x y) := by
  unfold stepO
  split
  · unfold InR; omega
  · rename_i h
    obtain ⟨a1, a2, a3⟩ := downO_in hM hy (x - 1) 0 (by omega) (by omega) (by omega)
    obtain ⟨b1, b2, b3⟩ := acrossO_in hM hx (y - 1) _ (by omega) a1 a2
    refine ⟨b3 ?_, b2⟩
    by_cases e : 1 ≤ y - 1
    · exact .inl e
    · exact .inr (a3 (.inl (by omega)))
/-- M solves the recurrence within W, H -/
def RecO (M : Nat → Nat → Int) (W H : Nat) : Prop := ∀ x y, 1 ≤ x → x ≤ W → 1 ≤ y → y ≤ H → M x y = stepO M x y
theorem downO_congr {M N : Nat → Nat → Int} {x y : Nat} (h : ∀ a, 1 ≤ a → a < x → M a y = N a y) : ∀ (k : Nat) (s : Int), k + 1 ≤ x → downO M x y k s = downO N x y k s
  | 0, _, _ => rfl
  | k + 1, s, hk => by
    simp only [downO, tO]
    rw [downO_congr h k s (by omega), h (k + 1) (by omega) (by omega), h (x - (k + 1)) (by omega) (by omega)]
theorem acrossO_congr {M N : Nat → Nat → Int} {x y : Nat} (h : ∀ b, 1 ≤ b → b < y → M x b = N x b) : ∀ (k : Nat) (s : Int), k + 1 ≤ y → acrossO M x y k s = acrossO N x y k s
  | 0, _, _ => rfl
  | k + 1, s, hk => by
    simp only [acrossO, tO]
    rw [acrossO_congr h k s (by omega), h (k + 1) (by omega) (by omega), h (y - (k + 1)) (by omega) (by omega)]
theorem stepO_congr {M N : Nat → Nat → Int} {x y : Nat} (hx : 1 ≤ x) (hy : 1 ≤ y) (h1 : ∀ a, 1 ≤ a → a < x → M a y = N a y) (h2 : ∀ b, 1 ≤ b → b < y → M x b = N x b) : stepO M x y = stepO N x y := by
  unfold stepO
  rw [downO_congr h1 (x - 1) 0 (by omega), acrossO_congr h2 (y - 1) _ (by omega)]
theorem rec_oneO {M N : Nat → Nat → Int} {W H : Nat} (hM : RecO M W H) (hN : RecO N W H) : ∀ (s x y : Nat), x + y ≤ s → 1 ≤ x → x ≤ W → 1 ≤ y → y ≤ H → M x y = N x y
  | 0, x, y, hs, hx, _, _, _ => by omega
  | s + 1, x, y, hs, hx, hxW, hy, hyH => by
    rw [hM x y hx hxW hy hyH, hN x y hx hxW hy hyH]
    exact stepO_congr hx hy (fun a h1 h2 => rec_oneO hM hN s a y (by omega) h1 (by omega) hy hyH) (fun b h1 h2 => rec_oneO hM hN s x b (by omega) hx hxW h1 (by omega))

end Go.Proofs.Ytjfedmcejeeocaa
