/-
  Contracts: LongestResults of the program. Conditions: none.
-/
import Derived.Test.YtcggiekhlophlaaResM
namespace Go.Proofs.Ytcggiekhlophlaa
open Go.RowKit
set_option linter.unusedVariables false
set_option linter.unusedSimpArgs false

set_option maxRecDepth 100000 in
set_option maxHeartbeats 1000000 in
theorem longestP_any : ∀ (f n : Nat), n ≤ f → n ≤ 1000 → ∀ (w : World),
    Calls Try.prog 66 #[.int .i64 n] w fun e w' => e = .returned (.int .i64 (lrN n : Nat)) ∧ w = w' := by
  intro f
  induction f with
  | zero =>
    intro n hf hn w
    have hn1 : (n : Int) ≤ 1 := by omega
    rw [lrN_one (by omega)]
    go_enter Try.func66, Try.ntmps66
    go_wp2
    go_ret
    exact ⟨rfl, rfl⟩
  | succ f ih =>
    intro n hf hn w
    by_cases h1 : n ≤ 1
    · have hn1 : (n : Int) ≤ 1 := by omega
      rw [lrN_one h1]
      go_enter Try.func66, Try.ntmps66
      go_wp2
      go_ret
      exact ⟨rfl, rfl⟩
    · have h2 : 2 ≤ n := by omega
      have q1 := panN_pos h2
      have q2 := panN_two h2
      have q3 := panN_lt h2
      have HG := Lib.hid (fun wx => groupsP_any n hn wx)
      have HA := Lib.hid (fun wx => ih (panN n) (by omega) (by omega) wx)
      have HB : Hid (∀ wx, Calls Try.prog 66 #[.int .i64 ((n : Int) - 2 * (panN n : Nat))] wx fun e w' => e = .returned (.int .i64 (lrN (n - 2 * panN n) : Nat)) ∧ wx = w') := by
        simp only [Hid]
        intro wx
        have h := ih (n - 2 * panN n) (by omega) (by omega) wx
        rw [show ((n - 2 * panN n : Nat) : Int) = (n : Int) - 2 * (panN n : Nat) by omega] at h
        exact h
      have l1 := lrN_le _ (panN n) (Nat.le_refl _)
      have l2 := lrN_le _ (n - 2 * panN n) (Nat.le_refl _)
      have hn1 : ¬ (n : Int) ≤ 1 := by omega
      rw [lrN_step h2]
      clear ih
      generalize lrN (n - 2 * panN n) = b at *
      generalize lrN (panN n) = a at *
      generalize panN n = q at *
      have ha : a ≤ 1000 := by omega
      have hb : b ≤ 1000 := by omega
      by_cases hc : a < b
      · have hci : (a : Int) < (b : Int) := by omega
        have HV : Hid (1 + max a b = 1 + b) := by simp only [Hid]; omega
        go_enter Try.func66, Try.ntmps66
        go_wp2_with fail
        refine (HG.out _).mono ?_; rintro e wx ⟨rfl, rfl⟩
        go_wp2_with fail
        refine (HA.out _).mono ?_; rintro e wx ⟨rfl, rfl⟩
        go_wp2_with fail
        refine (HB.out _).mono ?_; rintro e wx ⟨rfl, rfl⟩
        go_wp2
        go_ret
        exact ⟨ret_int (by omega), rfl⟩
      · have hci : ¬ (a : Int) < (b : Int) := by omega
        have HV : Hid (1 + max a b = 1 + a) := by simp only [Hid]; omega
        go_enter Try.func66, Try.ntmps66
        go_wp2_with fail
        refine (HG.out _).mono ?_; rintro e wx ⟨rfl, rfl⟩
        go_wp2_with fail
        refine (HA.out _).mono ?_; rintro e wx ⟨rfl, rfl⟩
        go_wp2_with fail
        refine (HB.out _).mono ?_; rintro e wx ⟨rfl, rfl⟩
        go_wp2
        go_ret
        exact ⟨ret_int (by omega), rfl⟩

set_option maxHeartbeats 1000000 in
theorem longestR_any (p : Int) (w : World) :
    Calls Try.prog 42 #[.int .i64 p] w fun e w' => e = .returned (.tuple #[.int .i64 (loN p), .bool (inB p 1 1000)]) ∧ Below w.heap.size w w' := by
  cases h1 : inB p 1 1000
  · rw [show loN p = 0 by simp [loN, h1]]
    go_enter Try.func42, Try.ntmps42
    go_wp2_with (go_at_call 46; refine (upToW_any _ _ _).mono ?_; rintro e wx ⟨rfl, rfl⟩; rw [h1])
    go_ret2
    exact ⟨rfl, Below.refl _ _⟩
  · obtain ⟨P, rfl, p1, p2⟩ := inB_nat (m := 1000) h1
    rw [show loN (P : Int) = (lrN P : Nat) by simp [loN, h1]]
    have HL := Lib.hid (fun wx => longestP_any P P (Nat.le_refl _) p2 wx)
    generalize lrN P = q at *
    go_enter Try.func42, Try.ntmps42
    go_wp2_with first | (go_at_call 46; refine (upToW_any _ _ _).mono ?_; rintro e wx ⟨rfl, rfl⟩; rw [h1]) | (go_at_call 66; refine (HL.out _).mono ?_; rintro e wx ⟨rfl, rfl⟩)
    go_ret2
    exact ⟨rfl, Below.refl _ _⟩
end Go.Proofs.Ytcggiekhlophlaa
