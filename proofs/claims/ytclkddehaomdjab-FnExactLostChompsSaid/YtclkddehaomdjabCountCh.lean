/-
  Contracts: CountChomps and ChompOfRank of the model and of the program.
-/
import Derived.Test.YtclkddehaomdjabListS
import Derived.Test.YtclkddehaomdjabListI
namespace Go.Proofs.Ytclkddehaomdjab
open Go.RowKit
set_option linter.unusedVariables false

def sideB (x : Int) : Bool := decide (1 ≤ x ∧ x ≤ 6)
set_option maxHeartbeats 400000 in
theorem isChompSide_any (x : Int) (w : World) :
    Calls Try.prog 36 #[.int .i64 x] w fun e w' => e = .returned (.bool (sideB x)) ∧ w = w' := by
  by_cases h1 : 1 ≤ x <;> by_cases h2 : x ≤ 6
  all_goals
    go_enter Try.func36, Try.ntmps36
    go_wp2
    go_ret
    exact ⟨by simp [sideB, h1, h2], rfl⟩
set_option maxHeartbeats 400000 in
theorem cmSides_any (x y : Int) (w : World) :
    Calls Try.prog 34 #[.int .i64 x, .int .i64 y] w fun e w' => e = .returned (.bool (sideB x && sideB y)) ∧ w = w' := by
  have e1 : inB x 1 6 = sideB x := rfl
  have e2 : inB y 1 6 = sideB y := rfl
  cases h1 : sideB x
  · rw [h1] at e1
    go_enter Try.func34, Try.ntmps34
    go_wp2_with fail
    refine (l1In_any _ _ _ _).mono ?_; rintro e wx ⟨rfl, rfl⟩
    rw [e1]
    go_wp2
    go_ret
    exact ⟨rfl, rfl⟩
  · rw [h1] at e1
    go_enter Try.func34, Try.ntmps34
    go_wp2_with fail
    refine (l1In_any _ _ _ _).mono ?_; rintro e wx ⟨rfl, rfl⟩
    rw [e1]
    go_wp2_with fail
    refine (l1In_any _ _ _ _).mono ?_; rintro e wx ⟨rfl, rfl⟩
    rw [e2]
    go_wp2
    go_ret
    exact ⟨by simp, rfl⟩

def cntV (x y : Int) : Int := if (sideB x && sideB y) = true then ((chs y.toNat x.toNat []).length : Nat) else 0
theorem sides_nat {x y : Int} (h : (sideB x && sideB y) = true) : ∃ a b : Nat, x = a ∧ y = b ∧ 1 ≤ a ∧ a ≤ 6 ∧ 1 ≤ b ∧ b ≤ 6 := by
  simp only [sideB, Bool.and_eq_true, decide_eq_true_eq] at h
  exact ⟨x.toNat, y.toNat, by omega, by omega, by omega, by omega, by omega, by omega⟩

set_option maxHeartbeats 1000000 in
theorem sCountChomps_any (x y : Int) (w : World) :
    Calls Try.prog 11 #[.int .i64 x, .int .i64 y] w fun e w' => e = .returned (.tuple #[.int .i64 (cntV x y), .bool (sideB x && sideB y)]) ∧ Below w.heap.size w w' := by
  cases h : (sideB x && sideB y)
  · rw [show cntV x y = 0 by simp only [cntV, h]; rfl]
    go_enter Try.func11, Try.ntmps11
    go_wp2_with fail
    refine (cmSides_any _ _ _).mono ?_; rintro e wx ⟨rfl, rfl⟩
    rw [h]
    go_wp2
    go_ret2
    exact ⟨rfl, Below.refl _ _⟩
  · have hV : cntV x y = ((chs y.toNat x.toNat []).length : Nat) := by simp only [cntV, h]; rfl
    obtain ⟨a, b, rfl, rfl, h1, h2, h3, h4⟩ := sides_nat h
    have HV := Lib.hid hV
    have HA := Lib.hid (fun wx => cmAll_any a b wx h2 h4)
    clear hV
    go_enter Try.func11, Try.ntmps11
    go_wp2_with fail
    refine (cmSides_any _ _ _).mono ?_; rintro e wx ⟨rfl, rfl⟩
    rw [h]
    go_wp2_with fail
    refine (HA.out _).mono ?_; rintro e w1 ⟨A', m', c', rfl, hL, hss, hb1⟩
    have HL := Lib.hid hL
    clear hL hss
    go_wp2
    go_ret2
    exact ⟨by rw [HV.out]; simp only [Int.toNat_natCast]; rw [HL.out]; rfl, hb1⟩

set_option maxHeartbeats 1000000 in
theorem countChomps_any (x y : Int) (w : World) :
    Calls Try.prog 12 #[.int .i64 x, .int .i64 y] w fun e w' => e = .returned (.tuple #[.int .i64 (cntV x y), .bool (sideB x && sideB y)]) ∧ Below w.heap.size w w' := by
  cases h : (sideB x && sideB y)
  · rw [show cntV x y = 0 by simp only [cntV, h]; rfl]
    cases h1 : sideB x
    · go_enter Try.func12, Try.ntmps12
      go_wp2_with fail
      refine (isChompSide_any _ _).mono ?_; rintro e wx ⟨rfl, rfl⟩
      rw [h1]
      go_wp2
      go_ret2
      exact ⟨rfl, Below.refl _ _⟩
    · have h2 : sideB y = false := by simpa [h1] using h
      go_enter Try.func12, Try.ntmps12
      go_wp2_with fail
      refine (isChompSide_any _ _).mono ?_; rintro e wx ⟨rfl, rfl⟩
      rw [h1]
      go_wp2_with fail
      refine (isChompSide_any _ _).mono ?_; rintro e wx ⟨rfl, rfl⟩
      rw [h2]
      go_wp2
      go_ret2
      exact ⟨rfl, Below.refl _ _⟩
  · have hV : cntV x y = ((chs y.toNat x.toNat []).length : Nat) := by simp only [cntV, h]; rfl
    have hx : sideB x = true := by simp only [Bool.and_eq_true] at h; exact h.1
    have hy : sideB y = true := by simp only [Bool.and_eq_true] at h; exact h.2
    obtain ⟨a, b, rfl, rfl, h1, h2, h3, h4⟩ := sides_nat h
    have HV := Lib.hid hV
    have HA := Lib.hid (fun wx => chompsWithin_any a b wx h2 h4)
    clear hV h
    go_enter Try.func12, Try.ntmps12
    go_wp2_with fail
    refine (isChompSide_any _ _).mono ?_; rintro e wx ⟨rfl, rfl⟩
    rw [hx]
    go_wp2_with fail
    refine (isChompSide_any _ _).mono ?_; rintro e wx ⟨rfl, rfl⟩
    rw [hy]
    go_wp2_with fail
    refine (HA.out _).mono ?_; rintro e w1 ⟨A', m', c', rfl, hL, hss, hb1⟩
    have HL := Lib.hid hL
    clear hL hss
    go_wp2
    go_ret2
    exact ⟨by rw [HV.out]; simp only [Int.toNat_natCast]; rw [HL.out]; rfl, hb1⟩

end Go.Proofs.Ytclkddehaomdjab
