/-
  Contract: the program's mergesOf.
-/
import Derived.Test.YtjfedmcejeeocaaBin
namespace Go.Proofs.Ytjfedmcejeeocaa
open Go.RowKit Go.Maps
set_option linter.unusedVariables false

set_option maxRecDepth 100000 in
set_option maxHeartbeats 2000000 in
theorem mergesOf_lt (a b : Nat) (w : World) (ha : a ≤ 200) (hb : b ≤ 200) (hc : a < b) :
    Calls Try.prog 54 #[.int .i64 a, .int .i64 b] w fun e w' => e = .returned (.int .i64 (capN (bin (b + a) a) : Nat)) ∧ w = w' := by
  have hci : (a : Int) < (b : Int) := by omega
  go_enter Try.func54, Try.ntmps54
  go_wp2
  go_loop [7, 8] (fun v i => ∃ k : Nat, k ≤ a ∧ i = .int .i64 ((k : Int) + 1) ∧ v = .int .i64 (bin (b + k) k : Nat) ∧ bin (b + k) k ≤ 1000000000000000) (fun _ i => a + 1 - (intOf i).toNat)
  case atStart => exact ⟨0, Nat.zero_le _, rfl, by rw [bin_zero]; rfl, by rw [bin_zero]; omega⟩
  case round =>
    obtain ⟨k, hk, rfl, rfl, hle⟩ := hrel
    by_cases hlt : k < a
    · have hlti : (k : Int) + 1 ≤ (a : Int) := by omega
      have hstep := bin_step (m := b) (i := k + 1) (by omega)
      rw [Nat.add_sub_cancel] at hstep
      have hup := bin_up (m := b) (i := k + 1) (j := a) (by omega)
      have hz : ((k : Int) + 1 == 0) = false := by simp; omega
      have hmul : bin (b + k) k * (b + (k + 1)) ≤ 1000000000000000 * 500 := Nat.mul_le_mul hle (by omega)
      have hq : (((bin (b + k) k : Nat) : Int) * ((b : Int) + ((k : Int) + 1))).tdiv ((k : Int) + 1) = ((bin (b + (k + 1)) (k + 1) : Nat) : Int) := by
        rw [← hstep, Int.tdiv_eq_ediv_of_nonneg (Int.mul_nonneg (by omega) (by omega))]
        simp
      have hB5 : bin (b + (k + 1)) (k + 1) ≤ 1000000000000000 * 500 := by rw [← hstep]; exact Nat.le_trans (Nat.div_le_self _ _) hmul
      have hw : IntKind.i64.wrap (((bin (b + k) k : Nat) : Int) * ((b : Int) + ((k : Int) + 1))) = ((bin (b + k) k : Nat) : Int) * ((b : Int) + ((k : Int) + 1)) := IntWalk.i64_in _ (by
        have h1 : ((bin (b + k) k * (b + (k + 1)) : Nat) : Int) = ((bin (b + k) k : Nat) : Int) * ((b : Int) + ((k : Int) + 1)) := by simp
        rw [← h1]
        omega)
      have hw2 : wrap64 (((bin (b + k) k : Nat) : Int) * ((b : Int) + ((k : Int) + 1))) = ((bin (b + k) k : Nat) : Int) * ((b : Int) + ((k : Int) + 1)) := IntWalk.wrap64_in _ (by
        have h1 : ((bin (b + k) k * (b + (k + 1)) : Nat) : Int) = ((bin (b + k) k : Nat) : Int) * ((b : Int) + ((k : Int) + 1)) := by simp
        rw [← h1]
        omega)
      have HUP := Lib.hid hup
      clear hstep hup hmul
      generalize bin (b + k) k = B at *
      generalize hB' : bin (b + (k + 1)) (k + 1) = B' at *
      have HB' := Lib.hid hB'
      clear hB'
      have wq : wrap64 (B' : Int) = (B' : Int) := IntWalk.wrap64_in _ (by omega)
      have wq2 : IntKind.i64.wrap (B' : Int) = (B' : Int) := IntWalk.i64_in _ (by omega)
      by_cases hgt : 1000000000000000 < B'
      · have hgt' : decide ((1000000000000000 : Int) < (B' : Int)) = true := decide_eq_true (by omega)
        have hcap : capN (bin (b + a) a) = 1000000000000001 := if_neg (by have := HUP.out; omega)
        have HCAP := Lib.hid hcap
        clear hcap
        go_wp2
        go_ret
        exact ⟨by rw [HCAP.out]; rfl, rfl⟩
      · have hgt' : decide ((1000000000000000 : Int) < (B' : Int)) = false := decide_eq_false (by omega)
        go_wp2
        go_round
        case rel => exact ⟨k + 1, by omega, by go_num, by rw [HB'.out], by rw [HB'.out]; omega⟩
        case measure => simp [intOf]; omega
    · have hke : k = a := by omega
      subst hke
      have hnle : decide ((k : Int) + 1 ≤ (k : Int)) = false := by simp; omega
      have hcap : capN (bin (b + k) k) = bin (b + k) k := if_pos hle
      have HC := Lib.hid hcap
      clear hcap
      go_wp2
      go_ret
      exact ⟨by rw [HC.out]; rfl, rfl⟩

set_option maxRecDepth 100000 in
set_option maxHeartbeats 2000000 in
theorem mergesOf_gt (a b : Nat) (w : World) (ha : a ≤ 200) (hb : b ≤ 200) (hc : b < a) :
    Calls Try.prog 54 #[.int .i64 a, .int .i64 b] w fun e w' => e = .returned (.int .i64 (capN (bin (a + b) b) : Nat)) ∧ w = w' := by
  have hci : (b : Int) < (a : Int) := by omega
  go_enter Try.func54, Try.ntmps54
  go_wp2
  go_loop [7, 8] (fun v i => ∃ k : Nat, k ≤ b ∧ i = .int .i64 ((k : Int) + 1) ∧ v = .int .i64 (bin (a + k) k : Nat) ∧ bin (a + k) k ≤ 1000000000000000) (fun _ i => b + 1 - (intOf i).toNat)
  case atStart => exact ⟨0, Nat.zero_le _, rfl, by rw [bin_zero]; rfl, by rw [bin_zero]; omega⟩
  case round =>
    obtain ⟨k, hk, rfl, rfl, hle⟩ := hrel
    by_cases hlt : k < b
    · have hlti : (k : Int) + 1 ≤ (b : Int) := by omega
      have hstep := bin_step (m := a) (i := k + 1) (by omega)
      rw [Nat.add_sub_cancel] at hstep
      have hup := bin_up (m := a) (i := k + 1) (j := b) (by omega)
      have hz : ((k : Int) + 1 == 0) = false := by simp; omega
      have hmul : bin (a + k) k * (a + (k + 1)) ≤ 1000000000000000 * 500 := Nat.mul_le_mul hle (by omega)
      have hq : (((bin (a + k) k : Nat) : Int) * ((a : Int) + ((k : Int) + 1))).tdiv ((k : Int) + 1) = ((bin (a + (k + 1)) (k + 1) : Nat) : Int) := by
        rw [← hstep, Int.tdiv_eq_ediv_of_nonneg (Int.mul_nonneg (by omega) (by omega))]
        simp
      have hB5 : bin (a + (k + 1)) (k + 1) ≤ 1000000000000000 * 500 := by rw [← hstep]; exact Nat.le_trans (Nat.div_le_self _ _) hmul
      have hw : IntKind.i64.wrap (((bin (a + k) k : Nat) : Int) * ((a : Int) + ((k : Int) + 1))) = ((bin (a + k) k : Nat) : Int) * ((a : Int) + ((k : Int) + 1)) := IntWalk.i64_in _ (by
        have h1 : ((bin (a + k) k * (a + (k + 1)) : Nat) : Int) = ((bin (a + k) k : Nat) : Int) * ((a : Int) + ((k : Int) + 1)) := by simp
        rw [← h1]
        omega)
      have hw2 : wrap64 (((bin (a + k) k : Nat) : Int) * ((a : Int) + ((k : Int) + 1))) = ((bin (a + k) k : Nat) : Int) * ((a : Int) + ((k : Int) + 1)) := IntWalk.wrap64_in _ (by
        have h1 : ((bin (a + k) k * (a + (k + 1)) : Nat) : Int) = ((bin (a + k) k : Nat) : Int) * ((a : Int) + ((k : Int) + 1)) := by simp
        rw [← h1]
        omega)
      have HUP := Lib.hid hup
      clear hstep hup hmul
      generalize bin (a + k) k = B at *
      generalize hB' : bin (a + (k + 1)) (k + 1) = B' at *
      have HB' := Lib.hid hB'
      clear hB'
      have wq : wrap64 (B' : Int) = (B' : Int) := IntWalk.wrap64_in _ (by omega)
      have wq2 : IntKind.i64.wrap (B' : Int) = (B' : Int) := IntWalk.i64_in _ (by omega)
      by_cases hgt : 1000000000000000 < B'
      · have hgt' : decide ((1000000000000000 : Int) < (B' : Int)) = true := decide_eq_true (by omega)
        have hcap : capN (bin (a + b) b) = 1000000000000001 := if_neg (by have := HUP.out; omega)
        have HCAP := Lib.hid hcap
        clear hcap
        go_wp2
        go_ret
        exact ⟨by rw [HCAP.out]; rfl, rfl⟩
      · have hgt' : decide ((1000000000000000 : Int) < (B' : Int)) = false := decide_eq_false (by omega)
        go_wp2
        go_round
        case rel => exact ⟨k + 1, by omega, by go_num, by rw [HB'.out], by rw [HB'.out]; omega⟩
        case measure => simp [intOf]; omega
    · have hke : k = b := by omega
      subst hke
      have hnle : decide ((k : Int) + 1 ≤ (k : Int)) = false := by simp; omega
      have hcap : capN (bin (a + k) k) = bin (a + k) k := if_pos hle
      have HC := Lib.hid hcap
      clear hcap
      go_wp2
      go_ret
      exact ⟨by rw [HC.out]; rfl, rfl⟩

set_option maxRecDepth 100000 in
set_option maxHeartbeats 2000000 in
theorem mergesOf_eq (a : Nat) (w : World) (ha : a ≤ 200) :
    Calls Try.prog 54 #[.int .i64 a, .int .i64 a] w fun e w' => e = .returned (.int .i64 (capN (bin (a + a) a) : Nat)) ∧ w = w' := by
  go_enter Try.func54, Try.ntmps54
  go_wp2
  go_loop [7, 8] (fun v i => ∃ k : Nat, k ≤ a ∧ i = .int .i64 ((k : Int) + 1) ∧ v = .int .i64 (bin (a + k) k : Nat) ∧ bin (a + k) k ≤ 1000000000000000) (fun _ i => a + 1 - (intOf i).toNat)
  case atStart => exact ⟨0, Nat.zero_le _, rfl, by rw [bin_zero]; rfl, by rw [bin_zero]; omega⟩
  case round =>
    obtain ⟨k, hk, rfl, rfl, hle⟩ := hrel
    by_cases hlt : k < a
    · have hlti : (k : Int) + 1 ≤ (a : Int) := by omega
      have hstep := bin_step (m := a) (i := k + 1) (by omega)
      rw [Nat.add_sub_cancel] at hstep
      have hup := bin_up (m := a) (i := k + 1) (j := a) (by omega)
      have hz : ((k : Int) + 1 == 0) = false := by simp; omega
      have hmul : bin (a + k) k * (a + (k + 1)) ≤ 1000000000000000 * 500 := Nat.mul_le_mul hle (by omega)
      have hq : (((bin (a + k) k : Nat) : Int) * ((a : Int) + ((k : Int) + 1))).tdiv ((k : Int) + 1) = ((bin (a + (k + 1)) (k + 1) : Nat) : Int) := by
        rw [← hstep, Int.tdiv_eq_ediv_of_nonneg (Int.mul_nonneg (by omega) (by omega))]
        simp
      have hB5 : bin (a + (k + 1)) (k + 1) ≤ 1000000000000000 * 500 := by rw [← hstep]; exact Nat.le_trans (Nat.div_le_self _ _) hmul
      have hw : IntKind.i64.wrap (((bin (a + k) k : Nat) : Int) * ((a : Int) + ((k : Int) + 1))) = ((bin (a + k) k : Nat) : Int) * ((a : Int) + ((k : Int) + 1)) := IntWalk.i64_in _ (by
        have h1 : ((bin (a + k) k * (a + (k + 1)) : Nat) : Int) = ((bin (a + k) k : Nat) : Int) * ((a : Int) + ((k : Int) + 1)) := by simp
        rw [← h1]
        omega)
      have hw2 : wrap64 (((bin (a + k) k : Nat) : Int) * ((a : Int) + ((k : Int) + 1))) = ((bin (a + k) k : Nat) : Int) * ((a : Int) + ((k : Int) + 1)) := IntWalk.wrap64_in _ (by
        have h1 : ((bin (a + k) k * (a + (k + 1)) : Nat) : Int) = ((bin (a + k) k : Nat) : Int) * ((a : Int) + ((k : Int) + 1)) := by simp
        rw [← h1]
        omega)
      have HUP := Lib.hid hup
      clear hstep hup hmul
      generalize bin (a + k) k = B at *
      generalize hB' : bin (a + (k + 1)) (k + 1) = B' at *
      have HB' := Lib.hid hB'
      clear hB'
      have wq : wrap64 (B' : Int) = (B' : Int) := IntWalk.wrap64_in _ (by omega)
      have wq2 : IntKind.i64.wrap (B' : Int) = (B' : Int) := IntWalk.i64_in _ (by omega)
      by_cases hgt : 1000000000000000 < B'
      · have hgt' : decide ((1000000000000000 : Int) < (B' : Int)) = true := decide_eq_true (by omega)
        have hcap : capN (bin (a + a) a) = 1000000000000001 := if_neg (by have := HUP.out; omega)
        have HCAP := Lib.hid hcap
        clear hcap
        go_wp2
        go_ret
        exact ⟨by rw [HCAP.out]; rfl, rfl⟩
      · have hgt' : decide ((1000000000000000 : Int) < (B' : Int)) = false := decide_eq_false (by omega)
        go_wp2
        go_round
        case rel => exact ⟨k + 1, by omega, by go_num, by rw [HB'.out], by rw [HB'.out]; omega⟩
        case measure => simp [intOf]; omega
    · have hke : k = a := by omega
      subst hke
      have hnle : decide ((k : Int) + 1 ≤ (k : Int)) = false := by simp; omega
      have hcap : capN (bin (k + k) k) = bin (k + k) k := if_pos hle
      have HC := Lib.hid hcap
      clear hcap
      go_wp2
      go_ret
      exact ⟨by rw [HC.out]; rfl, rfl⟩

theorem mergesOf_any (a b : Nat) (w : World) (ha : a ≤ 200) (hb : b ≤ 200) :
    Calls Try.prog 54 #[.int .i64 a, .int .i64 b] w fun e w' => e = .returned (.int .i64 (capN (bin (a + b) a) : Nat)) ∧ w = w' := by
  rcases Nat.lt_trichotomy a b with h | h | h
  · have e := mergesOf_lt a b w ha hb h
    rw [Nat.add_comm b a] at e
    exact e
  · subst h
    exact mergesOf_eq a w ha
  · have e := mergesOf_gt a b w ha hb h
    rw [← bin_sym (a + b) a b rfl] at e
    exact e

end Go.Proofs.Ytjfedmcejeeocaa
