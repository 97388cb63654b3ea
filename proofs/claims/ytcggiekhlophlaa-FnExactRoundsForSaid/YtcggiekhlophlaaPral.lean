/-
  Contracts: MostPralines, TastersFor and BitterRounds of the program and of the model. Conditions: none.
-/
import Derived.Test.YtcggiekhlophlaaPralW
import Derived.Test.YtcggiekhlophlaaMinMax
namespace Go.Proofs.Ytcggiekhlophlaa
open Go.RowKit
set_option linter.unusedVariables false
set_option linter.unusedSimpArgs false

set_option maxHeartbeats 400000 in
theorem upTo_any (n m : Int) (w : World) :
    Calls Try.prog 46 #[.int .i64 n, .int .i64 m] w fun e w' => e = .returned (.bool (inB n 1 m)) ∧ w = w' := by
  by_cases h1 : 1 ≤ n <;> by_cases h2 : n ≤ m
  all_goals
    go_enter Try.func46, Try.ntmps46
    go_wp2
    go_ret
    exact ⟨by simp [inB, h1, h2], rfl⟩

set_option maxHeartbeats 1000000 in
theorem mostP_any (t r : Nat) (ht : t ≤ 20) (hr : r ≤ 1000000) (w : World) :
    Calls Try.prog 47 #[.int .i64 t, .int .i64 r] w fun e w' => e = .returned (.int .i64 (roomN r t : Nat)) ∧ w = w' := by
  go_enter Try.func47, Try.ntmps47
  go_wp2
  go_loop [5, 7] (fun m i => ∃ k : Nat, k ≤ t ∧ i = .int .i64 k ∧ m = .int .i64 (roomN r k : Nat)) (fun _ i => t - (intOf i).toNat)
  case atStart => exact ⟨0, Nat.zero_le _, rfl, by rw [roomN_zero]; rfl⟩
  case round =>
    obtain ⟨k, hk, rfl, rfl⟩ := hrel
    by_cases hlt : k < t
    · have HS := Lib.hid (roomN_succ r k)
      have hm := roomN_le r k
      have hq : roomN r k * (r + 1) ≤ 1000001000000 := Nat.mul_le_mul hm (show r + 1 ≤ 1000001 by omega)
      obtain ⟨q, hqq⟩ : ∃ q, q = roomN r k * (r + 1) := ⟨_, rfl⟩
      have HQ := Lib.hid hqq
      rw [← hqq] at hq
      have e1 : wrap64 (((roomN r k : Nat) : Int) * ((r : Int) + 1)) = (q : Int) := by
        rw [IntWalk.wrap64_in _ (by have : ((roomN r k : Nat) : Int) * ((r : Int) + 1) = (q : Int) := by (rw [hqq]; push_cast; rfl)
                                    omega)]
        rw [hqq]; push_cast; rfl
      clear hqq
      generalize roomN r k = m at *
      go_wp2
      go_round
      case rel => exact ⟨k + 1, by omega, by go_num, by rw [HS.out, ← HQ.out]; congr 1; omega⟩
      case measure => simp [intOf]; omega
    · have : k = t := by omega
      subst this
      go_wp2
      go_ret
      exact ⟨rfl, rfl⟩

set_option maxRecDepth 100000 in
set_option maxHeartbeats 1000000 in
theorem bxRoom_any (t r : Nat) (ht : t ≤ 20) (hr : r ≤ 1000000) (w : World) :
    Calls Try.prog 45 #[.int .i64 t, .int .i64 r] w fun e w' => e = .returned (.int .i64 (roomN r t : Nat)) ∧ w = w' := by
  go_enter Try.func45, Try.ntmps45
  go_wp2
  go_loop [0, 5] (fun i m => ∃ k p : Nat, k ≤ t ∧ i = .int .i64 ((t - k : Nat) : Int) ∧ m = .int .i64 (p : Int) ∧ Hid (p = (r + 1) ^ k) ∧ p ≤ 1000001000000) (fun i _ => (intOf i).toNat)
  case atStart => exact ⟨0, 1, Nat.zero_le _, rfl, rfl, by simp [Hid], by omega⟩
  case round =>
    obtain ⟨k, p, hk, rfl, rfl, HP, hp⟩ := hrel
    obtain ⟨s, hs⟩ : ∃ s : Nat, t - k = s := ⟨_, rfl⟩
    rw [hs]
    by_cases hlt : 0 < s
    · have HSS : Hid (t - (k + 1) = s - 1) := by simp only [Hid]; omega
      have hkt : k < t := by omega
      have hs20 : s ≤ 20 := by omega
      clear hs
      by_cases hm : p < 1000000
      · have hq : p * (r + 1) ≤ 1000001000000 := Nat.mul_le_mul (show p ≤ 1000000 by omega) (show r + 1 ≤ 1000001 by omega)
        obtain ⟨q, hqq⟩ : ∃ q, q = p * (r + 1) := ⟨_, rfl⟩
        have HQ : Hid (q = (r + 1) ^ (k + 1)) := by simp only [Hid]; rw [hqq, HP.out, Nat.pow_succ]
        rw [← hqq] at hq
        have e1 : wrap64 ((p : Int) * ((r : Int) + 1)) = (q : Int) := by
          rw [IntWalk.wrap64_in _ (by have : (p : Int) * ((r : Int) + 1) = (q : Int) := by (rw [hqq]; push_cast; rfl)
                                      omega)]
          rw [hqq]; push_cast; rfl
        have hmi : (p : Int) < 1000000 := by omega
        clear hqq hm
        go_wp2
        go_round
        case rel => exact ⟨k + 1, q, by omega, by rw [HSS.out]; go_num, by rw [e1], HQ, hq⟩
        case measure => simp [intOf]; omega
      · have HE : Hid (min p 1000000 = roomN r t) := by simp only [Hid]; rw [HP.out]; exact room_end hk (.inr (by rw [← HP.out]; omega))
        have hmi : ¬ (p : Int) < 1000000 := by omega
        clear hm
        go_wp2_with fail
        refine (l1Least_min _ _ _).mono ?_; rintro e wx ⟨rfl, rfl⟩
        go_wp2
        go_ret
        exact ⟨ret_int (by rw [← HE.out]; omega), rfl⟩
    · have HE : Hid (min p 1000000 = roomN r t) := by simp only [Hid]; rw [HP.out]; exact room_end hk (.inl (by omega))
      go_wp2_with fail
      refine (l1Least_min _ _ _).mono ?_; rintro e wx ⟨rfl, rfl⟩
      go_wp2
      go_ret
      exact ⟨ret_int (by rw [← HE.out]; omega), rfl⟩

theorem mpOk_no {p : Prop} (t r : Int) (h1 : inB t 1 20 = false → mpOk t r = false → p) (h2 : inB t 1 20 = true → inB r 1 20 = false → mpOk t r = false → p) (h3 : inB t 1 20 = true → inB r 1 20 = true → mpOk t r = true → p) : p := by
  cases a : inB t 1 20
  · exact h1 a (by simp [mpOk, a])
  · cases b : inB r 1 20
    · exact h2 a b (by simp [mpOk, b])
    · exact h3 a b (by simp [mpOk, a, b])
theorem mpN_no {t r : Int} (h : mpOk t r = false) : mpN t r = 0 := by simp [mpN, h]

set_option maxHeartbeats 1000000 in
theorem most_any (t r : Int) (w : World) :
    Calls Try.prog 20 #[.int .i64 t, .int .i64 r] w fun e w' => e = .returned (.tuple #[.int .i64 (mpN t r), .bool (mpOk t r)]) ∧ Below w.heap.size w w' := by
  refine mpOk_no t r (fun h1 h => ?_) (fun h1 h2 h => ?_) (fun h1 h2 h => ?_)
  case refine_3 =>
    obtain ⟨T, rfl, t1, t2⟩ := inB_nat (m := 20) h1
    obtain ⟨R, rfl, r1, r2⟩ := inB_nat (m := 20) h2
    have hv : mpN (T : Int) (R : Int) = (roomN R T : Nat) := by simp [mpN, h]
    rw [hv, h]
    have HM := Lib.hid (fun wx => mostP_any T R t2 (by omega) wx)
    generalize roomN R T = q at *
    clear hv h
    go_enter Try.func20, Try.ntmps20
    go_wp2_with first | (go_at_call 46; refine (upTo_any _ _ _).mono ?_; rintro e wx ⟨rfl, rfl⟩; first | rw [h1] | rw [h2]) | (go_at_call 47; refine (HM.out _).mono ?_; rintro e wx ⟨rfl, rfl⟩)
    go_ret2
    exact ⟨rfl, Below.refl _ _⟩
  all_goals
    rw [mpN_no h, h]
    go_enter Try.func20, Try.ntmps20
    go_wp2_with (go_at_call 46; refine (upTo_any _ _ _).mono ?_; rintro e wx ⟨rfl, rfl⟩; first | rw [h1] | rw [h2])
    go_ret2
    exact ⟨rfl, Below.refl _ _⟩

set_option maxHeartbeats 1000000 in
theorem bxBoth_any (t r : Int) (w : World) :
    Calls Try.prog 50 #[.int .i64 t, .int .i64 r] w fun e w' => e = .returned (.bool (mpOk t r)) ∧ w = w' := by
  refine mpOk_no t r (fun h1 h => ?_) (fun h1 h2 h => ?_) (fun h1 h2 h => ?_)
  all_goals
    rw [h]
    go_enter Try.func50, Try.ntmps50
    go_wp2_with (go_at_call 44; refine (l1In_any _ _ _ _).mono ?_; rintro e wx ⟨rfl, rfl⟩; first | rw [h1] | rw [h2])
    go_ret
    exact ⟨rfl, rfl⟩

set_option maxHeartbeats 1000000 in
theorem sMost_any (t r : Int) (w : World) :
    Calls Try.prog 19 #[.int .i64 t, .int .i64 r] w fun e w' => e = .returned (.tuple #[.int .i64 (mpN t r), .bool (mpOk t r)]) ∧ Below w.heap.size w w' := by
  cases h : mpOk t r
  · rw [mpN_no h]
    go_enter Try.func19, Try.ntmps19
    go_wp2_with (go_at_call 50; refine (bxBoth_any _ _ _).mono ?_; rintro e wx ⟨rfl, rfl⟩; rw [h])
    go_ret2
    exact ⟨rfl, Below.refl _ _⟩
  · have h' := h
    simp only [mpOk, Bool.and_eq_true] at h'
    obtain ⟨T, rfl, t1, t2⟩ := inB_nat (m := 20) h'.1
    obtain ⟨R, rfl, r1, r2⟩ := inB_nat (m := 20) h'.2
    have hv : mpN (T : Int) (R : Int) = (roomN R T : Nat) := by simp [mpN, h]
    rw [hv]
    have HM := Lib.hid (fun wx => bxRoom_any T R t2 (by omega) wx)
    generalize roomN R T = q at *
    clear hv h'
    go_enter Try.func19, Try.ntmps19
    go_wp2_with first | (go_at_call 50; refine (bxBoth_any _ _ _).mono ?_; rintro e wx ⟨rfl, rfl⟩; rw [h]) | (go_at_call 45; refine (HM.out _).mono ?_; rintro e wx ⟨rfl, rfl⟩)
    go_ret2
    exact ⟨rfl, Below.refl _ _⟩

set_option maxHeartbeats 400000 in
theorem bxPralines_any (n : Int) (w : World) :
    Calls Try.prog 43 #[.int .i64 n] w fun e w' => e = .returned (.bool (inB n 1 1000000)) ∧ w = w' := by
  go_enter Try.func43, Try.ntmps43
  go_wp2_with (go_at_call 44; refine (l1In_any _ _ _ _).mono ?_; rintro e wx ⟨rfl, rfl⟩)
  go_ret
  exact ⟨rfl, rfl⟩
end Go.Proofs.Ytcggiekhlophlaa
