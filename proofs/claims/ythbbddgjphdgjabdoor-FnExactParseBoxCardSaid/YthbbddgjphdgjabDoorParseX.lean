/-
  Contracts: ParseBox of the model and of the program. Conditions: a text of at most 2^20 bytes; the library's own variables hold something of their types.
-/
import Derived.Test.YthbbddgjphdgjabDoorBoxT
import Derived.Test.YthbbddgjphdgjabDoorSplit
import Derived.Test.YthbbddgjphdgjabDoorAtoi
namespace Go.Proofs.YthbbddgjphdgjabDoor
open Go.RowKit
set_option linter.unusedVariables false

theorem boxS_list {x y z : Nat} (hx : x < 100) (hy : y < 100) (hz : z < 100) : boxS x y z = mkS (digL x ++ 42 :: (digL y ++ 42 :: digL z)) := by
  apply ByteArray.ext
  apply Array.ext'
  simp only [boxS, ba_append, decS_digL hx, decS_digL hy, decS_digL hz, mkS, stS]
  simp
theorem no42 {n : Nat} (h : n < 100) : (42 : UInt8) ∉ digL n := digL_no 42 (.inl (by decide)) n h
theorem size_mkS (l : List UInt8) : (mkS l).size = l.length := by simp [mkS, ByteArray.size]
theorem boxS_size {x y z : Nat} (hx : x < 100) (hy : y < 100) (hz : z < 100) : (boxS x y z).size ≤ 8 := by
  have h1 := size_decS hx
  have h2 := size_decS hy
  have h3 := size_decS hz
  have h4 : stS.size = 1 := rfl
  simp only [boxS, ByteArray.size_append]
  omega
theorem boxS_split {x y z : Nat} (hx : x < 100) (hy : y < 100) (hz : z < 100) : splitL (boxS x y z) 42 = [decS x, decS y, decS z] := by
  rw [boxS_list hx hy hz, decS_mkS hx, decS_mkS hy, decS_mkS hz]
  have e : (mkS (digL x ++ 42 :: (digL y ++ 42 :: digL z))).data.toList = digL x ++ 42 :: (digL y ++ 42 :: digL z) := by simp [mkS]
  rw [splitL, e, spl_cut _ _ _ (no42 hx), spl_cut _ _ _ (no42 hy), spl_end _ _ (no42 hz)]
  simp

/-- what ParseBox answers at a text -/
def PS (s : ByteArray) (x y z : Int) (ok : Bool) : Prop :=
  (ok = true ∧ boxB x y z = true ∧ s = boxS x.toNat y.toNat z.toNat) ∨ (ok = false ∧ x = 0 ∧ y = 0 ∧ z = 0 ∧ ∀ a b c : Nat, boxB a b c = true → s ≠ boxS a b c)

theorem boxS_inj {a b c x y z : Nat} (h1 : boxB a b c = true) (h2 : boxB x y z = true) (e : boxS a b c = boxS x y z) : a = x ∧ b = y ∧ c = z := by
  have k1 := boxB_true h1
  have k2 := boxB_true h2
  have e' := congrArg (fun s => splitL s 42) e
  simp only [boxS_split (show a < 100 by omega) (show b < 100 by omega) (show c < 100 by omega), boxS_split (show x < 100 by omega) (show y < 100 by omega) (show z < 100 by omega)] at e'
  injection e' with e1 e'
  injection e' with e2 e'
  injection e' with e3 _
  have f : ∀ {p q : Nat}, p < 100 → q < 100 → decS p = decS q → p = q := fun {p q} hp hq e => by
    have := congrArg readZ e
    rw [readZ_decS hp, readZ_decS hq] at this
    omega
  exact ⟨f (by omega) (by omega) e1, f (by omega) (by omega) e2, f (by omega) (by omega) e3⟩

theorem PS_one {s : ByteArray} {x y z x' y' z' : Int} {ok ok' : Bool} (h : PS s x y z ok) (h' : PS s x' y' z' ok') : x = x' ∧ y = y' ∧ z = z' ∧ ok = ok' := by
  rcases h with ⟨rfl, hb, hs⟩ | ⟨rfl, rfl, rfl, rfl, hn⟩ <;> rcases h' with ⟨rfl, hb', hs'⟩ | ⟨rfl, rfl, rfl, rfl, hn'⟩
  · have k1 := boxB_true hb
    have k2 := boxB_true hb'
    have e := boxS_inj (a := x.toNat) (b := y.toNat) (c := z.toNat) (x := x'.toNat) (y := y'.toNat) (z := z'.toNat) (by rw [Int.toNat_of_nonneg (by omega), Int.toNat_of_nonneg (by omega), Int.toNat_of_nonneg (by omega)]; exact hb) (by rw [Int.toNat_of_nonneg (by omega), Int.toNat_of_nonneg (by omega), Int.toNat_of_nonneg (by omega)]; exact hb') (hs.symm.trans hs')
    exact ⟨by omega, by omega, by omega, rfl⟩
  · have k1 := boxB_true hb
    exact absurd hs (hn' _ _ _ (by rw [Int.toNat_of_nonneg (by omega), Int.toNat_of_nonneg (by omega), Int.toNat_of_nonneg (by omega)]; exact hb))
  · have k1 := boxB_true hb'
    exact absurd hs' (hn _ _ _ (by rw [Int.toNat_of_nonneg (by omega), Int.toNat_of_nonneg (by omega), Int.toNat_of_nonneg (by omega)]; exact hb'))
  · exact ⟨rfl, rfl, rfl, rfl⟩

/-- a triple that is taken for the text's where the text is one -/
theorem PS_of {s : ByteArray} {x y z : Int} (hT : ∀ a b c : Nat, boxB a b c = true → s = boxS a b c → x = a ∧ y = b ∧ z = c) :
    (boxB x y z = true ∧ s = boxS x.toNat y.toNat z.toNat → PS s x y z true) ∧ (¬ (boxB x y z = true ∧ s = boxS x.toNat y.toNat z.toNat) → PS s 0 0 0 false) := by
  refine ⟨fun h => .inl ⟨rfl, h.1, h.2⟩, fun h => .inr ⟨rfl, rfl, rfl, rfl, fun a b c hB e => h ?_⟩⟩
  obtain ⟨rfl, rfl, rfl⟩ := hT a b c hB e
  exact ⟨hB, e⟩

end Go.Proofs.YthbbddgjphdgjabDoor
