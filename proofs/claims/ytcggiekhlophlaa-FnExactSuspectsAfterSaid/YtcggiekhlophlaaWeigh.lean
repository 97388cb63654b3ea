/-
  Contracts: WeighingsFor and WeighGroups of the program and of the model. Conditions: none.
-/
import Derived.Test.YtcggiekhlophlaaPralW
import Derived.Test.YtcggiekhlophlaaWords
namespace Go.Proofs.Ytcggiekhlophlaa
open Go.RowKit
set_option linter.unusedVariables false
set_option linter.unusedSimpArgs false

set_option maxHeartbeats 400000 in
theorem upToW_any (n m : Int) (w : World) :
    Calls Try.prog 46 #[.int .i64 n, .int .i64 m] w fun e w' => e = .returned (.bool (inB n 1 m)) ∧ w = w' := by
  by_cases h1 : 1 ≤ n <;> by_cases h2 : n ≤ m
  all_goals
    go_enter Try.func46, Try.ntmps46
    go_wp2
    go_ret
    exact ⟨by simp [inB, h1, h2], rfl⟩
set_option maxHeartbeats 400000 in
theorem bxWeighed_any (n : Int) (w : World) :
    Calls Try.prog 58 #[.int .i64 n] w fun e w' => e = .returned (.bool (inB n 1 1000)) ∧ w = w' := by
  go_enter Try.func58, Try.ntmps58
  go_wp2_with (go_at_call 44; refine (l1In_any _ _ _ _).mono ?_; rintro e wx ⟨rfl, rfl⟩)
  go_ret
  exact ⟨rfl, rfl⟩

def wgV (p : Nat) : Nat := lst (fun k => decide (p ≤ 3 ^ k)) 7 0
theorem wgV_eq {p k : Nat} (hp : p ≤ 1000) (hk : k ≤ 7) (h1 : ∀ j, j < k → 3 ^ j < p) (h2 : p ≤ 3 ^ k) : wgV p = k := by
  unfold wgV
  refine lst_eq _ 7 0 k (by omega) (by omega) (fun j _ hj => by have := h1 j hj; simp; omega) (fun _ => by simpa using h2)
def wgN (p : Int) : Int := if inB p 1 1000 then (wgV p.toNat : Nat) else 0
theorem wgN_no {p : Int} (h : inB p 1 1000 = false) : wgN p = 0 := by simp [wgN, h]
theorem wgN_yes {p : Nat} (h : inB (p : Int) 1 1000 = true) : wgN (p : Int) = (wgV p : Nat) := by simp [wgN, h]

set_option maxRecDepth 100000 in
set_option maxHeartbeats 1000000 in
theorem weighings_any (p : Int) (w : World) :
    Calls Try.prog 34 #[.int .i64 p] w fun e w' => e = .returned (.tuple #[.int .i64 (wgN p), .bool (inB p 1 1000)]) ∧ Below w.heap.size w w' := by
  cases h : inB p 1 1000
  · rw [wgN_no h]
    go_enter Try.func34, Try.ntmps34
    go_wp2_with (go_at_call 46; refine (upToW_any _ _ _).mono ?_; rintro e wx ⟨rfl, rfl⟩; rw [h])
    go_ret2
    exact ⟨rfl, Below.refl _ _⟩
  · obtain ⟨P, rfl, p1, p2⟩ := inB_nat (m := 1000) h
    rw [wgN_yes h]
    have HP2 := Lib.hid p2
    clear p2
    go_enter Try.func34, Try.ntmps34
    go_wp2_with (go_at_call 46; refine (upToW_any _ _ _).mono ?_; rintro e wx ⟨rfl, rfl⟩; rw [h])
    go_loop [4, 5] (fun i m => ∃ k q : Nat, k ≤ 7 ∧ i = .int .i64 k ∧ m = .int .i64 (q : Int) ∧ q ≤ 3000 ∧ Hid (q = 3 ^ k) ∧ Hid (∀ j, j < k → 3 ^ j < P)) (fun i _ => 7 - (intOf i).toNat)
    case atStart => exact ⟨0, 1, Nat.zero_le _, rfl, rfl, by omega, rfl, fun j hj => by omega⟩
    case round =>
      obtain ⟨k, q, hk, rfl, rfl, hq3, hq, hj⟩ := hrel
      by_cases hlt : q < P
      · have hk7 : k < 7 := by
          have := HP2.out
          have : k ≠ 7 := by rintro rfl; have := hq.out; simp at this; omega
          omega
        have hj2 : Hid (∀ j, j < k + 1 → 3 ^ j < P) := fun j hjj => by
          by_cases e : j = k
          · rw [e, ← hq.out]; exact hlt
          · exact hj.out j (by omega)
        have hli : (q : Int) < (P : Int) := by omega
        have hq4 : q < 1000 := by have := HP2.out; omega
        have hqi : (q : Int) < 1000 := by omega
        have HQ : Hid (q * 3 = 3 ^ (k + 1)) := by simp only [Hid]; rw [hq.out, Nat.pow_succ]
        have HQ3 : Hid (q * 3 ≤ 3000) := by simp only [Hid]; omega
        clear hlt hj hq4 hq3
        go_wp2
        go_round
        case rel => exact ⟨k + 1, q * 3, by omega, by go_num, by go_num, HQ3.out, HQ, hj2⟩
        case measure => simp [intOf]; omega
      · have HT := Lib.hid (wgV_eq HP2.out hk hj.out (by rw [← hq.out]; omega : P ≤ 3 ^ k))
        have hli : ¬ (q : Int) < (P : Int) := by omega
        clear hlt hj
        go_wp2
        go_ret2
        exact ⟨by rw [HT.out]; rfl, Below.refl _ _⟩

set_option maxRecDepth 100000 in
set_option maxHeartbeats 1000000 in
theorem sWeighings_any (p : Int) (w : World) :
    Calls Try.prog 33 #[.int .i64 p] w fun e w' => e = .returned (.tuple #[.int .i64 (wgN p), .bool (inB p 1 1000)]) ∧ Below w.heap.size w w' := by
  cases h : inB p 1 1000
  · rw [wgN_no h]
    go_enter Try.func33, Try.ntmps33
    go_wp2_with (go_at_call 58; refine (bxWeighed_any _ _).mono ?_; rintro e wx ⟨rfl, rfl⟩; rw [h])
    go_ret2
    exact ⟨rfl, Below.refl _ _⟩
  · obtain ⟨P, rfl, p1, p2⟩ := inB_nat (m := 1000) h
    rw [wgN_yes h]
    have HP2 := Lib.hid p2
    clear p2
    go_enter Try.func33, Try.ntmps33
    go_wp2_with (go_at_call 58; refine (bxWeighed_any _ _).mono ?_; rintro e wx ⟨rfl, rfl⟩; rw [h])
    go_loop [4, 5] (fun i m => ∃ k q : Nat, k ≤ 7 ∧ i = .int .i64 k ∧ m = .int .i64 (q : Int) ∧ q ≤ 3000 ∧ Hid (q = 3 ^ k) ∧ Hid (∀ j, j < k → 3 ^ j < P)) (fun i _ => 7 - (intOf i).toNat)
    case atStart => exact ⟨0, 1, Nat.zero_le _, rfl, rfl, by omega, rfl, fun j hj => by omega⟩
    case round =>
      obtain ⟨k, q, hk, rfl, rfl, hq3, hq, hj⟩ := hrel
      by_cases hlt : q < P
      · have hk7 : k < 7 := by
          have := HP2.out
          have : k ≠ 7 := by rintro rfl; have := hq.out; simp at this; omega
          omega
        have hj2 : Hid (∀ j, j < k + 1 → 3 ^ j < P) := fun j hjj => by
          by_cases e : j = k
          · rw [e, ← hq.out]; exact hlt
          · exact hj.out j (by omega)
        have hli : (q : Int) < (P : Int) := by omega
        have hq4 : q < 1000 := by have := HP2.out; omega
        have hqi : (q : Int) < 1000 := by omega
        have HQ : Hid (q * 3 = 3 ^ (k + 1)) := by simp only [Hid]; rw [hq.out, Nat.pow_succ]
        have HQ3 : Hid (q * 3 ≤ 3000) := by simp only [Hid]; omega
        clear hlt hj hq4 hq3
        go_wp2
        go_round
        case rel => exact ⟨k + 1, q * 3, by omega, by go_num, by go_num, HQ3.out, HQ, hj2⟩
        case measure => simp [intOf]; omega
      · have HT := Lib.hid (wgV_eq HP2.out hk hj.out (by rw [← hq.out]; omega : P ≤ 3 ^ k))
        have hli : ¬ (q : Int) < (P : Int) := by omega
        clear hlt hj
        go_wp2
        go_ret2
        exact ⟨by rw [HT.out]; rfl, Below.refl _ _⟩

/-- on each pan -/
def panN (n : Nat) : Nat := (n + 1) / 3
theorem panN_le (n : Nat) : 2 * panN n ≤ n + 1 := by unfold panN; omega
theorem panN_pos {n : Nat} (h : 2 ≤ n) : 1 ≤ panN n := by unfold panN; omega
theorem panN_two {n : Nat} (h : 2 ≤ n) : 2 * panN n ≤ n := by unfold panN; omega
theorem panN_out {n : Nat} (h : 2 ≤ n) : n - 2 * panN n < n := by unfold panN; omega
theorem panN_lt {n : Nat} (h : 2 ≤ n) : panN n < n := by unfold panN; omega
theorem panN_div (n : Nat) : ((n : Int) + 1) / 3 = (panN n : Nat) := by unfold panN; omega

set_option maxHeartbeats 400000 in
theorem bxPan_any (n : Nat) (hn : n ≤ 1000) (w : World) :
    Calls Try.prog 59 #[.int .i64 n] w fun e w' => e = .returned (.int .i64 (panN n : Nat)) ∧ w = w' := by
  have e1 := Lib.hid (panN_div n)
  go_enter Try.func59, Try.ntmps59
  go_wp2
  go_ret
  exact ⟨ret_int e1.out, rfl⟩
set_option maxHeartbeats 400000 in
theorem groupsP_any (n : Nat) (hn : n ≤ 1000) (w : World) :
    Calls Try.prog 60 #[.int .i64 n] w fun e w' => e = .returned (.tuple #[.int .i64 (panN n : Nat), .int .i64 ((n : Int) - 2 * (panN n : Nat))]) ∧ w = w' := by
  have e1 := Lib.hid (panN_div n)
  go_enter Try.func60, Try.ntmps60
  go_wp2
  go_ret2
  exact ⟨by show Ending.returned (.tuple #[.int .i64 (((n : Int) + 1) / 3), .int .i64 ((n : Int) - 2 * (((n : Int) + 1) / 3))]) = _; rw [e1.out], rfl⟩

def gpP (n : Int) : Int := if inB n 2 1000 then (panN n.toNat : Nat) else 0
def gpO (n : Int) : Int := if inB n 2 1000 then n - 2 * (panN n.toNat : Nat) else 0

set_option maxHeartbeats 1000000 in
theorem groups_any (n : Int) (w : World) :
    Calls Try.prog 36 #[.int .i64 n] w fun e w' => e = .returned (.tuple #[.int .i64 (gpP n), .int .i64 (gpO n), .bool (inB n 2 1000)]) ∧ Below w.heap.size w w' := by
  by_cases h1 : n < 2
  · have h : inB n 2 1000 = false := by simp [inB]; omega
    rw [show gpP n = 0 by simp [gpP, h], show gpO n = 0 by simp [gpO, h], h]
    go_enter Try.func36, Try.ntmps36
    go_wp2
    go_ret3
    exact ⟨rfl, Below.refl _ _⟩
  · by_cases h2 : n > 1000
    · have h : inB n 2 1000 = false := by simp [inB]; omega
      rw [show gpP n = 0 by simp [gpP, h], show gpO n = 0 by simp [gpO, h], h]
      go_enter Try.func36, Try.ntmps36
      go_wp2
      go_ret3
      exact ⟨rfl, Below.refl _ _⟩
    · have h : inB n 2 1000 = true := by simp [inB]; omega
      obtain ⟨N, rfl⟩ : ∃ N : Nat, n = N := ⟨n.toNat, by omega⟩
      rw [show gpP (N : Int) = (panN N : Nat) by simp [gpP, h], show gpO (N : Int) = (N : Int) - 2 * (panN N : Nat) by simp [gpO, h], h]
      have HG := Lib.hid (fun wx => groupsP_any N (by omega) wx)
      generalize panN N = q at *
      go_enter Try.func36, Try.ntmps36
      go_wp2_with (go_at_call 60; refine (HG.out _).mono ?_; rintro e wx ⟨rfl, rfl⟩)
      go_ret3
      exact ⟨rfl, Below.refl _ _⟩
set_option maxHeartbeats 1000000 in
theorem sGroups_any (n : Int) (w : World) :
    Calls Try.prog 35 #[.int .i64 n] w fun e w' => e = .returned (.tuple #[.int .i64 (gpP n), .int .i64 (gpO n), .bool (inB n 2 1000)]) ∧ Below w.heap.size w w' := by
  cases h : inB n 2 1000
  · rw [show gpP n = 0 by simp [gpP, h], show gpO n = 0 by simp [gpO, h]]
    go_enter Try.func35, Try.ntmps35
    go_wp2_with (go_at_call 44; refine (l1In_any _ _ _ _).mono ?_; rintro e wx ⟨rfl, rfl⟩; rw [h])
    go_ret3
    exact ⟨rfl, Below.refl _ _⟩
  · have h' := inB_true h
    obtain ⟨N, rfl⟩ : ∃ N : Nat, n = N := ⟨n.toNat, by omega⟩
    rw [show gpP (N : Int) = (panN N : Nat) by simp [gpP, h], show gpO (N : Int) = (N : Int) - 2 * (panN N : Nat) by simp [gpO, h]]
    have HG := Lib.hid (fun wx => bxPan_any N (by omega) wx)
    have hle : panN N ≤ 1000 := by have := panN_le N; omega
    generalize panN N = q at *
    go_enter Try.func35, Try.ntmps35
    go_wp2_with first | (go_at_call 44; refine (l1In_any _ _ _ _).mono ?_; rintro e wx ⟨rfl, rfl⟩; rw [h]) | (go_at_call 59; refine (HG.out _).mono ?_; rintro e wx ⟨rfl, rfl⟩)
    go_ret3
    exact ⟨rfl, Below.refl _ _⟩

end Go.Proofs.Ytcggiekhlophlaa
