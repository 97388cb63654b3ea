/-
  Words: '^' on the integers that are no less than 0; the number of one heap of a bar. Nothing of the program is named here.
-/
import Derived.Test.YtcocdidkkcjbgaaDoorWords
import Derived.Laws.Bits64
namespace Go.Proofs.YtcocdidkkcjbgaaDoor
open Go.RowKit

theorem bx_i64 (a b : Nat) (ha : a < 9223372036854775808) (hb : b < 9223372036854775808) : bits .xor .i64 (a : Int) (b : Int) = ((a ^^^ b : Nat) : Int) := by
  have hx : a ^^^ b < 2 ^ 63 := Nat.xor_lt_two_pow (by omega) (by omega)
  have h1 : (BitVec.ofInt 64 (a : Int)).toNat = a := by
    rw [BitVec.ofInt_natCast, BitVec.toNat_ofNat]; exact Nat.mod_eq_of_lt (by omega)
  have h2 : (BitVec.ofInt 64 (b : Int)).toNat = b := by
    rw [BitVec.ofInt_natCast, BitVec.toNat_ofNat]; exact Nat.mod_eq_of_lt (by omega)
  show IntKind.i64.wrap ((BitVec.ofInt 64 (a : Int) ^^^ BitVec.ofInt 64 (b : Int)).toNat : Int) = _
  rw [BitVec.toNat_xor, h1, h2]
  exact IntWalk.i64_in _ (by omega)

/-- the number of one heap of a bar -/
def hpN (x y : Int) : Nat := (x - 1).toNat ^^^ (y - 1).toNat
theorem hpN_lt {x y : Int} (h : barB x y = true) : hpN x y < 16 := by
  obtain ⟨h1, h2, h3, h4⟩ := barB_true h
  exact Nat.xor_lt_two_pow (n := 4) (by omega) (by omega)
theorem hp_bits {x y : Int} (h : barB x y = true) : bits .xor .i64 (x - 1) (y - 1) = ((hpN x y : Nat) : Int) := by
  obtain ⟨h1, h2, h3, h4⟩ := barB_true h
  obtain ⟨p, hp⟩ : ∃ p : Nat, x - 1 = p := ⟨(x - 1).toNat, by omega⟩
  obtain ⟨q, hq⟩ : ∃ q : Nat, y - 1 = q := ⟨(y - 1).toNat, by omega⟩
  unfold hpN
  rw [hp, hq, bx_i64 _ _ (by omega) (by omega)]
  rfl
theorem xor_lt16 {a b : Nat} (ha : a < 16) (hb : b < 16) : a ^^^ b < 16 := Nat.xor_lt_two_pow (n := 4) ha hb

def hpP (p : Int × Int) : Nat := hpN p.1 p.2
end Go.Proofs.YtcocdidkkcjbgaaDoor
