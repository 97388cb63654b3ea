/-
  Contracts: the model's small functions of counted ways: brTimes, brBoth (orders not told), l1Least.
-/
import Derived.Test.YtjfedmcejeeocaaCountW
namespace Go.Proofs.Ytjfedmcejeeocaa
open Go.RowKit Go.Maps
set_option linter.unusedVariables false

set_option maxHeartbeats 1000000 in
theorem leastC_any (a : Int) (w : World) (ha : -1000000000000000000 ≤ a) (hb : a ≤ 1000000000000000000000000000000) :
    Calls Try.prog 42 #[.int .i64 a, .int .i64 1000000000000001] w fun e w' => e = .returned (.int .i64 (capS a)) ∧ w = w' := by
  go_enter Try.func42, Try.ntmps42
  go_wp2
  all_goals
    rename_i h
    go_ret
    exact ⟨ret_int (by unfold capS; split <;> omega), rfl⟩

theorem timesM_hi {a b : Int} (ha : 0 < a) (h : 1000000000000001 / a < b) : timesC a b = 1000000000000001 := by
  have := (Int.ediv_lt_iff_lt_mul ha).1 h
  rw [Int.mul_comm] at this
  exact if_neg (by omega)
theorem timesM_lo {a b : Int} (ha : 0 < a) (h : b ≤ 1000000000000001 / a) : timesC a b = capS (a * b) ∧ a * b ≤ 1000000000000001 := by
  have := (Int.le_ediv_iff_mul_le ha).1 h
  rw [Int.mul_comm] at this
  refine ⟨?_, this⟩
  unfold timesC capS
  split <;> rfl

set_option maxHeartbeats 1000000 in
theorem brTimes_any (a b : Int) (w : World) (ha : InR a) (hb : InR b) :
    Calls Try.prog 51 #[.int .i64 a, .int .i64 b] w fun e w' => e = .returned (.int .i64 (timesC a b)) ∧ w = w' := by
  obtain ⟨a1, a2⟩ := ha
  obtain ⟨b1, b2⟩ := hb
  have ha0 : (a == 0) = false := by simp; omega
  have hap : decide (0 < a) = true := decide_eq_true (by omega)
  by_cases h : 1000000000000001 / a < b
  · have e := timesM_hi (b := b) (by omega) h
    have hd : decide (1000000000000001 / a < b) = true := decide_eq_true h
    go_enter Try.func51, Try.ntmps51
    go_wp2
    go_ret
    exact ⟨ret_int e.symm, rfl⟩
  · have e := timesM_lo (b := b) (by omega) (by omega : b ≤ 1000000000000001 / a)
    have hd : decide (1000000000000001 / a < b) = false := decide_eq_false h
    have h0 : 0 ≤ a * b := Int.mul_nonneg (by omega) (by omega)
    have hw : IntKind.i64.wrap (a * b) = a * b := IntWalk.i64_in _ (by omega)
    have hw2 : wrap64 (a * b) = a * b := IntWalk.wrap64_in _ (by omega)
    have HE := Lib.hid e.1
    have h1 := e.2
    clear e
    go_enter Try.func51, Try.ntmps51
    go_wp2_with fail
    refine (leastC_any _ _ (by omega) (by omega)).mono ?_; rintro e wx ⟨rfl, rfl⟩
    go_wp2
    go_ret
    exact ⟨ret_int HE.out.symm, rfl⟩

set_option maxHeartbeats 1000000 in
theorem brBoth_no (a b s t : Int) (w : World) (ha : InR a) (hb : InR b) :
    Calls Try.prog 43 #[.int .i64 a, .int .i64 b, .int .i64 s, .int .i64 t, .bool false] w fun e w' => e = .returned (.int .i64 (timesC a b)) ∧ w = w' := by
  go_enter Try.func43, Try.ntmps43
  go_wp2_with fail
  refine (brTimes_any _ _ _ ha hb).mono ?_; rintro e wx ⟨rfl, rfl⟩
  go_wp2
  go_ret
  exact ⟨rfl, rfl⟩

end Go.Proofs.Ytjfedmcejeeocaa
