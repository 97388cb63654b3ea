/-
  Contracts: chomps' sums: the model's cmSum, the program's sumOf, IsChomp, LeftSquares, MostChompMoves.
-/
import Derived.Test.YtclkddehaomdjaaArr
namespace Go.Proofs.Ytclkddehaomdjaa
open Go.RowKit
set_option linter.unusedVariables false

set_option maxHeartbeats 1000000 in
theorem isChomp_any (A : Option Addr) (n c : Nat) (l : List Int) (w : World) (hr : Rd w 1 A n (intCells l)) (hn : n ≤ 1000000000) :
    Calls Try.prog 17 #[.slice A n c] w fun e w' => e = .returned (.bool (chB l)) ∧ Below w.heap.size w w' := by
  go_enter Try.func17, Try.ntmps17
  go_wp2_with fail
  refine (chompOf_any _ _ _ _ _ hr hn).mono ?_; rintro e w1 ⟨rfl, hb1⟩; have s1 := hb1.size
  go_wp2
  go_ret
  exact ⟨rfl, by (repeat (first | (with_reducible exact Below.refl _ _) | (with_reducible assumption) | (with_reducible refine Below.drew ?_) | ((with_reducible refine balloc ?_ _ ?_); · (first | (simp; done) | (simp; omega) | omega)) | ((with_reducible refine bset ?_ _ ?_); · (first | (simp; done) | (simp; omega) | omega)) | (with_reducible refine bdrewN _ ?_) | ((with_reducible refine bcall ?_ (by assumption) ?_); · (first | (simp; done) | (simp; omega) | omega))))⟩

set_option maxRecDepth 100000 in
set_option maxHeartbeats 1000000 in
theorem cmSum_any (A : Option Addr) (n c : Nat) (l : List Int) (w : World) (hr : Rd w 1 A n (intCells l)) (hl : ChOK l) :
    Calls Try.prog 53 #[.slice A n c] w fun e w' => e = .returned (.int .i64 l.sum) ∧ w = w' := by
  have hll := hr.ilen
  have h6 := hl.2.1
  have HLL := Lib.hid hll
  have HB := Lib.hid (sumI_bound hl)
  have HL := Lib.hid hl
  clear hl
  go_enter Try.func53, Try.ntmps53
  go_wp2
  go_loop [3, 8] (fun s i => ∃ k : Nat, k ≤ n ∧ i = .int .i64 k ∧ s = .int .i64 (l.take k).sum) (fun _ i => n - (intOf i).toNat)
  case atStart => exact ⟨0, Nat.zero_le _, rfl, by simp⟩
  case round =>
    obtain ⟨k, hk, rfl, rfl⟩ := hrel
    by_cases hlt : k < n
    · obtain ⟨b1, o1, rfl, _, hx, p1⟩ := hr.num hlt
      have b2 := HB.out k (by omega)
      have b3 := HL.out.le6 k
      have b4 := HL.out.ge0 k
      rw [getD_lt hx] at b3 b4
      have HS := Lib.hid (sum_takeI hx)
      generalize (l.take k).sum = S at *
      generalize l[k] = z at *
      go_wp2
      go_round
      case rel => exact ⟨k + 1, by omega, by go_num, by rw [HS.out]⟩
      case measure => simp [intOf]; omega
    · go_wp2
      go_ret
      have : k = n := by omega
      subst this
      exact ⟨ret_int (by rw [List.take_of_length_le (by rw [HLL.out]; exact Nat.le_refl _)]), rfl⟩

set_option maxRecDepth 100000 in
set_option maxHeartbeats 1000000 in
theorem sumCh_any (A : Option Addr) (n c : Nat) (l : List Int) (w : World) (hr : Rd w 1 A n (intCells l)) (hl : ChOK l) :
    Calls Try.prog 54 #[.slice A n c] w fun e w' => e = .returned (.int .i64 l.sum) ∧ w = w' := by
  have hll := hr.ilen
  have h6 := hl.2.1
  have HLL := Lib.hid hll
  have HB := Lib.hid (sumI_bound hl)
  have HL := Lib.hid hl
  clear hl
  go_enter Try.func54, Try.ntmps54
  go_wp2
  go_loop [3, 8] (fun s i => ∃ k : Nat, k ≤ n ∧ i = .int .i64 k ∧ s = .int .i64 (l.take k).sum) (fun _ i => n - (intOf i).toNat)
  case atStart => exact ⟨0, Nat.zero_le _, rfl, by simp⟩
  case round =>
    obtain ⟨k, hk, rfl, rfl⟩ := hrel
    by_cases hlt : k < n
    · obtain ⟨b1, o1, rfl, _, hx, p1⟩ := hr.num hlt
      have b2 := HB.out k (by omega)
      have b3 := HL.out.le6 k
      have b4 := HL.out.ge0 k
      rw [getD_lt hx] at b3 b4
      have HS := Lib.hid (sum_takeI hx)
      generalize (l.take k).sum = S at *
      generalize l[k] = z at *
      go_wp2
      go_round
      case rel => exact ⟨k + 1, by omega, by go_num, by rw [HS.out]⟩
      case measure => simp [intOf]; omega
    · go_wp2
      go_ret
      have : k = n := by omega
      subst this
      exact ⟨ret_int (by rw [List.take_of_length_le (by rw [HLL.out]; exact Nat.le_refl _)]), rfl⟩

def leftV (l : List Int) : Int := if chB l then l.sum else 0
def mostV (l : List Int) : Int := if chB l then l.sum - 1 else 0

set_option maxHeartbeats 1000000 in
theorem leftSquares_any (A : Option Addr) (n c : Nat) (l : List Int) (w : World) (hr : Rd w 1 A n (intCells l)) (hn : n ≤ 1000000000) :
    Calls Try.prog 24 #[.slice A n c] w fun e w' => e = .returned (.tuple #[.int .i64 (leftV l), .bool (chB l)]) ∧ Below w.heap.size w w' := by
  cases hb : chB l
  · rw [show leftV l = 0 by simp [leftV, hb]]
    go_enter Try.func24, Try.ntmps24
    go_wp2_with fail
    refine (isChomp_any _ _ _ _ _ hr hn).mono ?_; rintro e w1 ⟨rfl, hb1⟩
    rw [hb]
    go_wp2
    go_ret2
    exact ⟨rfl, hb1⟩
  · rw [show leftV l = l.sum by simp [leftV, hb]]
    have HC := Lib.hid (chB_true.1 hb)
    go_enter Try.func24, Try.ntmps24
    go_wp2_with fail
    refine (isChomp_any _ _ _ _ _ hr hn).mono ?_; rintro e w1 ⟨rfl, hb1⟩
    rw [hb]
    go_wp2_with fail
    refine (sumCh_any _ _ _ l _ (hr.later hb1 (Nat.le_refl _)) HC.out).mono ?_; rintro e w2 ⟨rfl, rfl⟩
    go_wp2
    go_ret2
    exact ⟨rfl, hb1⟩

set_option maxHeartbeats 1000000 in
theorem sLeftSquares_any (A : Option Addr) (n c : Nat) (l : List Int) (w : World) (hr : Rd w 1 A n (intCells l)) (hn : n ≤ 1000000000) :
    Calls Try.prog 23 #[.slice A n c] w fun e w' => e = .returned (.tuple #[.int .i64 (leftV l), .bool (chB l)]) ∧ Below w.heap.size w w' := by
  cases hb : chB l
  · rw [show leftV l = 0 by simp [leftV, hb]]
    go_enter Try.func23, Try.ntmps23
    go_wp2_with fail
    refine (cmGood_any _ _ _ _ _ hr hn).mono ?_; rintro e w1 ⟨rfl, hb1⟩
    rw [hb]
    go_wp2
    go_ret2
    exact ⟨rfl, hb1⟩
  · rw [show leftV l = l.sum by simp [leftV, hb]]
    have HC := Lib.hid (chB_true.1 hb)
    go_enter Try.func23, Try.ntmps23
    go_wp2_with fail
    refine (cmGood_any _ _ _ _ _ hr hn).mono ?_; rintro e w1 ⟨rfl, hb1⟩
    rw [hb]
    go_wp2_with fail
    refine (cmSum_any _ _ _ l _ (hr.later hb1 (Nat.le_refl _)) HC.out).mono ?_; rintro e w2 ⟨rfl, rfl⟩
    go_wp2
    go_ret2
    exact ⟨rfl, hb1⟩

set_option maxHeartbeats 1000000 in
theorem mostMoves_any (A : Option Addr) (n c : Nat) (l : List Int) (w : World) (hr : Rd w 1 A n (intCells l)) (hn : n ≤ 1000000000) :
    Calls Try.prog 43 #[.slice A n c] w fun e w' => e = .returned (.tuple #[.int .i64 (mostV l), .bool (chB l)]) ∧ Below w.heap.size w w' := by
  cases hb : chB l
  · rw [show mostV l = 0 by simp [mostV, hb]]
    go_enter Try.func43, Try.ntmps43
    go_wp2_with fail
    refine (isChomp_any _ _ _ _ _ hr hn).mono ?_; rintro e w1 ⟨rfl, hb1⟩
    rw [hb]
    go_wp2
    go_ret2
    exact ⟨rfl, hb1⟩
  · rw [show mostV l = l.sum - 1 by simp [mostV, hb]]
    have HC := Lib.hid (chB_true.1 hb)
    have hs := sumI_36 HC.out
    obtain ⟨s1, s36⟩ := hs
    go_enter Try.func43, Try.ntmps43
    go_wp2_with fail
    refine (isChomp_any _ _ _ _ _ hr hn).mono ?_; rintro e w1 ⟨rfl, hb1⟩
    rw [hb]
    go_wp2_with fail
    refine (sumCh_any _ _ _ l _ (hr.later hb1 (Nat.le_refl _)) HC.out).mono ?_; rintro e w2 ⟨rfl, rfl⟩
    go_wp2
    go_ret2
    exact ⟨rfl, hb1⟩

set_option maxHeartbeats 1000000 in
theorem sMostMoves_any (A : Option Addr) (n c : Nat) (l : List Int) (w : World) (hr : Rd w 1 A n (intCells l)) (hn : n ≤ 1000000000) :
    Calls Try.prog 42 #[.slice A n c] w fun e w' => e = .returned (.tuple #[.int .i64 (mostV l), .bool (chB l)]) ∧ Below w.heap.size w w' := by
  cases hb : chB l
  · rw [show mostV l = 0 by simp [mostV, hb]]
    go_enter Try.func42, Try.ntmps42
    go_wp2_with fail
    refine (cmGood_any _ _ _ _ _ hr hn).mono ?_; rintro e w1 ⟨rfl, hb1⟩
    rw [hb]
    go_wp2
    go_ret2
    exact ⟨rfl, hb1⟩
  · rw [show mostV l = l.sum - 1 by simp [mostV, hb]]
    have HC := Lib.hid (chB_true.1 hb)
    have hs := sumI_36 HC.out
    obtain ⟨s1, s36⟩ := hs
    go_enter Try.func42, Try.ntmps42
    go_wp2_with fail
    refine (cmGood_any _ _ _ _ _ hr hn).mono ?_; rintro e w1 ⟨rfl, hb1⟩
    rw [hb]
    go_wp2_with fail
    refine (cmSum_any _ _ _ l _ (hr.later hb1 (Nat.le_refl _)) HC.out).mono ?_; rintro e w2 ⟨rfl, rfl⟩
    go_wp2
    go_ret2
    exact ⟨rfl, hb1⟩

end Go.Proofs.Ytclkddehaomdjaa
