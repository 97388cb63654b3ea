/-
  Words: the numbers of strips, as the one solution of their recurrence. Nothing of the program is named here.
-/
import Derived.Test.YtcocdidkkcjbgaaDoorSm
import Derived.Test.YtcocdidkkcjbgaaDoorMexS
namespace Go.Proofs.YtcocdidkkcjbgaaDoor
open Go.RowKit
set_option linter.unusedVariables false

section
variable (pr : Int → Int → Int) (ch : List Int → Int) (l : Int) (u : Bool)
/-- the numbers of the pairs of a strip's moves, by those of shorter ones -/
def pairsL (F : Nat → Int) (n : Nat) : List Int := (smL n l u).map fun t => pr (F t.toNat) (F (n - t.toNat))
def svF : Nat → Nat → Int
  | 0, _ => 0
  | f + 1, n => ch (pairsL pr l u (svF f) n)
def sV (n : Nat) : Int := svF pr ch l u 61 n
end
theorem smL_in {n : Nat} {l : Int} {u : Bool} {t : Int} (h : t ∈ smL n l u) : 1 ≤ t ∧ 2 * t ≤ n := by
  obtain ⟨a, b, _⟩ := mem_smT h
  omega
theorem pairsL_congr {pr : Int → Int → Int} {l : Int} {u : Bool} {F G : Nat → Int} {n : Nat} (h : ∀ k, 1 ≤ k → k < n → F k = G k) : pairsL pr l u F n = pairsL pr l u G n := by
  unfold pairsL
  refine List.map_congr_left fun t ht => ?_
  have := smL_in ht
  rw [h t.toNat (by omega) (by omega), h (n - t.toNat) (by omega) (by omega)]
theorem svF_stable {pr : Int → Int → Int} {ch : List Int → Int} {l : Int} {u : Bool} : ∀ (f g n : Nat), n ≤ f → n ≤ g → 1 ≤ n → svF pr ch l u f n = svF pr ch l u g n
  | 0, _, n, h, _, h1 => by omega
  | f + 1, 0, n, _, h, h1 => by omega
  | f + 1, g + 1, n, h1, h2, h3 => by
    simp only [svF]
    rw [pairsL_congr fun k hk hkn => svF_stable f g k (by omega) (by omega) hk]
theorem sV_eq {pr : Int → Int → Int} {ch : List Int → Int} {l : Int} {u : Bool} {n : Nat} (hn : n ≤ 60) : sV pr ch l u n = ch (pairsL pr l u (sV pr ch l u) n) := by
  unfold sV
  rw [show svF pr ch l u 61 n = ch (pairsL pr l u (svF pr ch l u 60) n) from rfl]
  rw [pairsL_congr fun k hk hkn => svF_stable 60 61 k (by omega) (by omega) hk]
theorem length_pairsL (pr : Int → Int → Int) (l : Int) (u : Bool) (F : Nat → Int) (n : Nat) (hn : n ≤ 60) : (pairsL pr l u F n).length ≤ 30 := by
  unfold pairsL
  rw [List.length_map]
  exact length_smL _ _ _ (by omega)
theorem pairsL_take (pr : Int → Int → Int) (l : Int) (u : Bool) (F : Nat → Int) (n : Nat) {k : Nat} (hk : k < (smL n l u).length) :
    (pairsL pr l u F n).take (k + 1) = (pairsL pr l u F n).take k ++ [pr (F ((smL n l u)[k]).toNat) (F (n - ((smL n l u)[k]).toNat))] := by
  unfold pairsL
  rw [List.take_succ_eq_append_getElem (by simpa using hk)]
  simp

/-- the value of a strip -/
def xr (a b : Int) : Int := ((a.toNat ^^^ b.toNat : Nat) : Int)
def mx (L : List Int) : Int := (mexL L : Nat)
abbrev vS (l : Int) (u : Bool) (n : Nat) : Int := sV xr mx l u n
theorem mexF_le2 (L : List Int) : mexL L ≤ L.length + 1 := by have := mexF_le L (L.length + 1) 0; unfold mexL; omega
theorem svF_in {l : Int} {u : Bool} : ∀ (f n : Nat), n ≤ 60 → 0 ≤ svF xr mx l u f n ∧ svF xr mx l u f n ≤ 31
  | 0, n, _ => by simp [svF]
  | f + 1, n, h => by
    simp only [svF, mx]
    have := mexF_le2 (pairsL xr l u (svF xr mx l u f) n)
    have := length_pairsL xr l u (svF xr mx l u f) n h
    omega
theorem vS_in {l : Int} {u : Bool} {n : Nat} (h : n ≤ 60) : 0 ≤ vS l u n ∧ vS l u n ≤ 31 := svF_in 61 n h
theorem smT_short {n l : Int} {u : Bool} (h : n ≤ 1) : smL n l u = [] := by
  unfold smL
  rw [show (n / 2).toNat = 0 by omega]
  rfl
theorem vS_0 (l : Int) (u : Bool) : vS l u 0 = 0 := by
  show sV xr mx l u 0 = 0
  rw [sV_eq (by omega), pairsL, smT_short (by simp)]
  rfl
end Go.Proofs.YtcocdidkkcjbgaaDoor
