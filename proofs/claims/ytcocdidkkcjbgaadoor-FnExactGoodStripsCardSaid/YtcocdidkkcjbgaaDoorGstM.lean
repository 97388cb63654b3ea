/-
  Words: the good moves of strips, as list: by the model's loop and by the program's.
-/
import Derived.Test.YtcocdidkkcjbgaaDoorAreS
import Derived.Test.YtcocdidkkcjbgaaDoorPrR
namespace Go.Proofs.YtcocdidkkcjbgaaDoor
open Go.RowKit

/-- behind the move of a strip x at t the strips are lost -/
def gsB (a : Int) (l : Int) (u : Bool) (x t : Int) : Bool := decide (xr a (vS l u x.toNat) = xr (vS l u t.toNat) (vS l u (x.toNat - t.toNat)))
/-- the good moves of the strip x with index i at places up to k -/
def gsT (a l : Int) (u : Bool) (x i : Int) (k : Nat) : List (Int × Int) := ((smT x l u k).filter (gsB a l u x)).map fun t => (i, t)
def gs1 (a l : Int) (u : Bool) (x i : Int) : List (Int × Int) := gsT a l u x i (x / 2).toNat
def gsK (a l : Int) (u : Bool) (L : List Int) : Nat → List (Int × Int)
  | 0 => []
  | k + 1 => gsK a l u L k ++ gs1 a l u (L.getD k 0) k
def gsR (L : List Int) (l : Int) (u : Bool) : List (Int × Int) := if okSS L l then gsK (xsA l u L) l u L L.length else []
theorem gsR_no {L : List Int} {l : Int} {u : Bool} (h : okSS L l = false) : gsR L l u = [] := by simp [gsR, h]
theorem gsR_yes {L : List Int} {l : Int} {u : Bool} (h : okSS L l = true) : gsR L l u = gsK (xsA l u L) l u L L.length := by simp [gsR, h]
theorem gsT_yes {a l : Int} {u : Bool} {x i : Int} {k : Nat} (h : canS x ((k : Int) + 1) l u = true) (hg : gsB a l u x ((k : Int) + 1) = true) : gsT a l u x i (k + 1) = gsT a l u x i k ++ [(i, (k : Int) + 1)] := by
  unfold gsT
  rw [smT_yes h, List.filter_append, List.map_append]; simp [hg]
theorem gsT_bad {a l : Int} {u : Bool} {x i : Int} {k : Nat} (hg : gsB a l u x ((k : Int) + 1) = false) : gsT a l u x i (k + 1) = gsT a l u x i k := by
  unfold gsT
  cases h : canS x ((k : Int) + 1) l u
  · rw [smT_no h]
  · rw [smT_yes h, List.filter_append, List.map_append]; simp [hg]
theorem gsT_no {a l : Int} {u : Bool} {x i : Int} {k : Nat} (h : canS x ((k : Int) + 1) l u = false) : gsT a l u x i (k + 1) = gsT a l u x i k := by
  unfold gsT
  rw [smT_no h]
theorem gs1_take {a l : Int} {u : Bool} {x i : Int} {j : Nat} (hj : j < (smL x l u).length) : (((smL x l u).take (j + 1)).filter (gsB a l u x)).map (fun t => (i, t)) = (((smL x l u).take j).filter (gsB a l u x)).map (fun t => (i, t)) ++ (if gsB a l u x (smL x l u)[j] then [(i, (smL x l u)[j])] else []) := by
  rw [List.take_succ_eq_append_getElem hj, List.filter_append, List.map_append]
  cases hg : gsB a l u x (smL x l u)[j] <;> simp [hg]
theorem gsT_length {a l : Int} {u : Bool} {x i : Int} (k : Nat) : (gsT a l u x i k).length ≤ k := by
  unfold gsT
  rw [List.length_map]
  exact Nat.le_trans (List.length_filter_le _ _) (length_smT _ _ _ _)
theorem xr_zero {a b c d : Int} : xr (xr (xr a b) c) d = 0 ↔ xr a b = xr c d := by
  unfold xr
  simp only [Int.toNat_natCast]
  constructor
  · intro h
    have h' : a.toNat ^^^ b.toNat ^^^ c.toNat ^^^ d.toNat = 0 := by omega
    rw [Nat.xor_assoc (a.toNat ^^^ b.toNat)] at h'
    have h2 := congrArg (· ^^^ (c.toNat ^^^ d.toNat)) h'
    simp only [Nat.xor_assoc, Nat.xor_self, Nat.xor_zero, Nat.zero_xor] at h2
    rw [h2]
  · intro h
    have h' : a.toNat ^^^ b.toNat = c.toNat ^^^ d.toNat := by omega
    rw [h', Nat.xor_assoc, Nat.xor_self]; rfl
end Go.Proofs.YtcocdidkkcjbgaaDoor
