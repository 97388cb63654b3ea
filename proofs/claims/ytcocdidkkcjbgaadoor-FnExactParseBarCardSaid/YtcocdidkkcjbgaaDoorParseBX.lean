/-
  Words: the texts of bars; what ParseBar answers. Nothing of the program is named here but the seat's words.
-/
import Derived.Test.YtcocdidkkcjbgaaDoorBarText
import Derived.Test.YtcocdidkkcjbgaaDoorSplit
import Derived.Test.YtcocdidkkcjbgaaDoorAtoi
namespace Go.Proofs.YtcocdidkkcjbgaaDoor
open Go.RowKit
set_option linter.unusedVariables false

theorem barS_list {x y : Nat} (hx : x < 100) (hy : y < 100) : barS x y = mkS (digL x ++ 120 :: digL y) := by
  apply ByteArray.ext
  apply Array.ext'
  simp only [barS, ba_append, decS_digL hx, decS_digL hy, mkS, xS]
  simp
theorem no120 {n : Nat} (h : n < 100) : (120 : UInt8) ∉ digL n := digL_no 120 (.inr (by decide)) n h
theorem size_mkS (l : List UInt8) : (mkS l).size = l.length := by simp [mkS, ByteArray.size]
theorem barS_size {x y : Nat} (hx : x < 100) (hy : y < 100) : (barS x y).size ≤ 5 := by
  have h1 := size_decS hx
  have h2 := size_decS hy
  have h4 : xS.size = 1 := rfl
  simp only [barS, ByteArray.size_append]
  omega
theorem barS_split {x y : Nat} (hx : x < 100) (hy : y < 100) : splitL (barS x y) 120 = [decS x, decS y] := by
  rw [barS_list hx hy, decS_mkS hx, decS_mkS hy]
  have e : (mkS (digL x ++ 120 :: digL y)).data.toList = digL x ++ 120 :: digL y := by simp [mkS]
  rw [splitL, e, spl_cut _ _ _ (no120 hx), spl_end _ _ (no120 hy)]
  simp

/-- what ParseBar answers at a text -/
def PB (s : ByteArray) (x y : Int) (ok : Bool) : Prop :=
  (ok = true ∧ barB x y = true ∧ s = barS x.toNat y.toNat) ∨ (ok = false ∧ x = 0 ∧ y = 0 ∧ ∀ a b : Nat, barB a b = true → s ≠ barS a b)

theorem barS_inj {a b x y : Nat} (h1 : barB a b = true) (h2 : barB x y = true) (e : barS a b = barS x y) : a = x ∧ b = y := by
  have k1 := barB_true h1
  have k2 := barB_true h2
  have e' := congrArg (fun s => splitL s 120) e
  simp only [barS_split (show a < 100 by omega) (show b < 100 by omega), barS_split (show x < 100 by omega) (show y < 100 by omega)] at e'
  injection e' with e1 e'
  injection e' with e2 _
  have f : ∀ {p q : Nat}, p < 100 → q < 100 → decS p = decS q → p = q := fun {p q} hp hq e => by
    have := congrArg readZ e
    rw [readZ_decS hp, readZ_decS hq] at this
    omega
  exact ⟨f (by omega) (by omega) e1, f (by omega) (by omega) e2⟩

theorem PB_one {s : ByteArray} {x y x' y' : Int} {ok ok' : Bool} (h : PB s x y ok) (h' : PB s x' y' ok') : x = x' ∧ y = y' ∧ ok = ok' := by
  rcases h with ⟨rfl, hb, hs⟩ | ⟨rfl, rfl, rfl, hn⟩ <;> rcases h' with ⟨rfl, hb', hs'⟩ | ⟨rfl, rfl, rfl, hn'⟩
  · have k1 := barB_true hb
    have k2 := barB_true hb'
    have e := barS_inj (a := x.toNat) (b := y.toNat) (x := x'.toNat) (y := y'.toNat) (by rw [Int.toNat_of_nonneg (by omega), Int.toNat_of_nonneg (by omega)]; exact hb) (by rw [Int.toNat_of_nonneg (by omega), Int.toNat_of_nonneg (by omega)]; exact hb') (hs.symm.trans hs')
    exact ⟨by omega, by omega, rfl⟩
  · have k1 := barB_true hb
    exact absurd hs (hn' _ _ (by rw [Int.toNat_of_nonneg (by omega), Int.toNat_of_nonneg (by omega)]; exact hb))
  · have k1 := barB_true hb'
    exact absurd hs' (hn _ _ (by rw [Int.toNat_of_nonneg (by omega), Int.toNat_of_nonneg (by omega)]; exact hb'))
  · exact ⟨rfl, rfl, rfl⟩

/-- a pair that is taken for the text's where the text is one -/
theorem PB_of {s : ByteArray} {x y : Int} (hT : ∀ a b : Nat, barB a b = true → s = barS a b → x = a ∧ y = b) :
    (barB x y = true ∧ s = barS x.toNat y.toNat → PB s x y true) ∧ (¬ (barB x y = true ∧ s = barS x.toNat y.toNat) → PB s 0 0 false) := by
  refine ⟨fun h => .inl ⟨rfl, h.1, h.2⟩, fun h => .inr ⟨rfl, rfl, rfl, fun a b hB e => h ?_⟩⟩
  obtain ⟨rfl, rfl⟩ := hT a b hB e
  exact ⟨hB, e⟩

end Go.Proofs.YtcocdidkkcjbgaaDoor
