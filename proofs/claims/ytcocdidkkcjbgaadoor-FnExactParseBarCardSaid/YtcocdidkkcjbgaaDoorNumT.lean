/-
  Words: numbers below 100 as digits, read back by the model's reading, by the library's and by its cut. Nothing of the program is named here but the seat's words.
-/
import Derived.Test.YtcocdidkkcjbgaaDoorNumD
import Derived.Test.YtcocdidkkcjbgaaDoorSplitW
import Derived.Lib.IndexMore
import Derived.Lib.AtoiAll
namespace Go.Proofs.YtcocdidkkcjbgaaDoor
open Go.RowKit

def digL (n : Nat) : List UInt8 := if n < 10 then [UInt8.ofNat (48 + n)] else [UInt8.ofNat (48 + n / 10), UInt8.ofNat (48 + n % 10)]
theorem decDigits_digL {n : Nat} (h : n < 100) : Lib.decDigits n = digL n := by
  unfold digL
  split
  · rename_i h1; rw [Lib.decDigits, dif_pos h1]
  · rename_i h1
    rw [Lib.decDigits, dif_neg h1, Lib.decDigits, dif_pos (by omega)]
    rfl
theorem decS_digL {n : Nat} (h : n < 100) : (decS n).data.toList = digL n := by simp [decS, decDigits_digL h]
theorem decS_mkS {n : Nat} (h : n < 100) : decS n = mkS (digL n) := by simp [decS, decDigits_digL h, mkS]

theorem digL_dig : ∀ n : Fin 100, (digL n.val).all (fun c => decide (48 ≤ c.toNat ∧ c.toNat ≤ 57)) = true := by decide +kernel
theorem digL_no (c : UInt8) (hc : c.toNat < 48 ∨ 57 < c.toNat) (n : Nat) (hn : n < 100) : c ∉ digL n := by
  intro hm
  have h := List.all_eq_true.1 (digL_dig ⟨n, hn⟩) c hm
  simp only [decide_eq_true_eq] at h
  omega
theorem atoi_digL : ∀ n : Fin 100, Lib.atoiAll (digL n.val) = .ok (n.val : Int) := by decide +kernel
theorem readZ_digL : ∀ n : Fin 100, readZ (mkS (digL n.val)) = (n.val : Int) := by decide +kernel
theorem readZ_decS {n : Nat} (h : n < 100) : readZ (decS n) = n := by rw [decS_mkS h]; exact readZ_digL ⟨n, h⟩
theorem atoi_decS {n : Nat} (h : n < 100) : Lib.atoiAll (decS n).data.toList = .ok (n : Int) := by rw [decS_digL h]; exact atoi_digL ⟨n, h⟩

theorem index_byte {c : UInt8} : ∀ (l r : List UInt8), c ∉ l → Lib.index (l ++ c :: r) [c] = l.length
  | [], r, _ => by simp [Lib.index, List.isPrefixOf]
  | b :: l, r, h => by
    have h1 : c ≠ b := fun e => h (by simp [e])
    have h2 : c ∉ l := fun e => h (by simp [e])
    have ih := index_byte l r h2
    have hb : (c == b) = false := by simpa using h1
    simp only [List.cons_append, Lib.index, List.isPrefixOf, hb, Bool.false_and, ih]
    have : ((l.length : Int) == -1) = false := by simp
    rw [this]
    simp
theorem cut_byte {c : UInt8} (l r : List UInt8) (h : c ∉ l) : Lib.cut (l ++ c :: r) [c] = (l, r, true) := by
  unfold Lib.cut
  rw [index_byte l r h, if_pos (by omega)]
  simp

theorem ba_append (a b : ByteArray) : (a ++ b).data.toList = a.data.toList ++ b.data.toList := by simp

end Go.Proofs.YtcocdidkkcjbgaaDoor
