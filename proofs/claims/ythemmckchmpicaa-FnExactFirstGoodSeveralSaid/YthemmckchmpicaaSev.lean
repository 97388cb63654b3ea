/-
  Contracts: several bars: whether they are, and their number of one heap, of the program and of the model; WinsSeveral.
-/
import Derived.Test.YthemmckchmpicaaHp
import Derived.Test.YthemmckchmpicaaBarsIn
import Derived.BigGuardPart
namespace Go.Proofs.Ythemmckchmpicaa
open Go.RowKit
set_option linter.unusedVariables false
set_option linter.unusedSimpArgs false

def allB (l : List (Int × Int)) : Bool := l.all fun p => barB p.1 p.2
def sevB (l : List (Int × Int)) : Bool := decide (1 ≤ l.length ∧ l.length ≤ 8) && allB l
def xorL : List (Int × Int) → Nat
  | [] => 0
  | p :: r => hpN p.1 p.2 ^^^ xorL r
def xorT (l : List (Int × Int)) (k : Nat) : Nat := xorL (l.take k).reverse
theorem xorT_succ {l : List (Int × Int)} {k : Nat} (h : k < l.length) : xorT l (k + 1) = xorT l k ^^^ hpN (l[k]).1 (l[k]).2 := by
  unfold xorT
  rw [List.take_succ_eq_append_getElem h, List.reverse_append]
  simp [xorL, Nat.xor_comm]
theorem allB_at {l : List (Int × Int)} (h : allB l = true) {k : Nat} (hk : k < l.length) : barB (l[k]).1 (l[k]).2 = true := by
  unfold allB at h
  exact List.all_eq_true.1 h _ (List.getElem_mem hk)
theorem xorT_lt {l : List (Int × Int)} (h : allB l = true) : ∀ k, k ≤ l.length → xorT l k < 16
  | 0, _ => by simp [xorT, xorL]
  | k + 1, hk => by
    rw [xorT_succ (by omega)]
    exact xor_lt16 (xorT_lt h k (by omega)) (hpN_lt (allB_at h (by omega)))
def xorA (l : List (Int × Int)) : Nat := xorT l l.length

theorem all_take {l : List (Int × Int)} {k : Nat} (h : k < l.length) : allB (l.take (k + 1)) = (allB (l.take k) && barB (l[k]).1 (l[k]).2) := by
  unfold allB
  rw [List.take_succ_eq_append_getElem h, List.all_append]; simp
theorem all_no {l : List (Int × Int)} {k : Nat} (h : k < l.length) (hb : barB (l[k]).1 (l[k]).2 = false) : allB l = false := by
  cases e : allB l
  · rfl
  · rw [allB_at e h] at hb; cases hb

set_option maxRecDepth 100000 in
set_option maxHeartbeats 4000000 in
theorem areKeptBars_any (A : Option Addr) (n c : Nat) (l : List (Int × Int)) (w : World) (hr : Rd w 2 A n (pairCells l)) (hn : n ≤ 4000000000) :
    Calls Try.prog 47 #[.slice A n c] w fun e w' => e = .returned (.bool (sevB l)) ∧ Below w.heap.size w w' := by
  have hl : l.length = n := by have := hr.1; rw [length_pairCells] at this; omega
  have HL := Lib.hid hl
  clear hl
  by_cases h1 : 1 ≤ n
  · by_cases h8 : n ≤ 8
    · have t1 : decide ((n : Int) < 1) = false := by simp; omega
      have t2 : decide ((8 : Int) < (n : Int)) = false := by simp; omega
      go_enter Try.func47, Try.ntmps47
      go_wp2
      go_loopw [15] (fun i wr => ∃ k : Nat, k ≤ n ∧ i = .int .i64 k ∧ Hid (allB (l.take k) = true) ∧ Below w.heap.size w wr) (fun i _ => n - (intOf i).toNat)
      case atStart => exact ⟨0, Nat.zero_le _, rfl, by simp [Hid, allB], Below.refl _ _⟩
      case round =>
        obtain ⟨k, hk, rfl, hA, hB⟩ := hrel
        have sB := hB.size
        by_cases hlt : k < n
        · obtain ⟨b, o, rfl, hbl, hx, p1, p2⟩ := (hr.later hB (Nat.le_refl _)).pair hlt
          have HS := Lib.hid (all_take hx)
          have HNo : Hid (barB (l[k]).1 (l[k]).2 = false → allB l = false) := fun h => all_no hx h
          generalize (l[k]).1 = x at *
          generalize (l[k]).2 = y at *
          cases hb : barB x y
          · have HF := Lib.hid (HNo.out hb)
            go_wp2_with fail
            refine (isBar_any _ _ _).mono ?_; rintro e w1 ⟨rfl, hb1⟩; have s1 := hb1.size; obtain ⟨hc1, hf1⟩ := bcell hb1; have z1_wr0 : wr.heap.size < w1.heap.size := (by have q := s1; first | omega | (simp at q; omega))
            go_wp2
            go_ret
            exact ⟨ret_bool (by simp [sevB, HF.out]), by (repeat (first | (with_reducible exact Below.refl _ _) | (with_reducible assumption) | (with_reducible refine Below.drew ?_) | ((with_reducible refine balloc ?_ _ ?_); · (first | (simp; done) | (simp; omega) | omega)) | ((with_reducible refine bset ?_ _ ?_); · (first | (simp; done) | (simp; omega) | omega)) | (with_reducible refine bdrewN _ ?_) | ((with_reducible refine bcall ?_ (by assumption) ?_); · (first | (simp; done) | (simp; omega) | omega))))⟩
          · have hA2 := HS.out
            rw [hb, hA.out] at hA2
            have HA2 := Lib.hid hA2
            clear hA2
            go_wp2_with fail
            refine (isBar_any _ _ _).mono ?_; rintro e w1 ⟨rfl, hb1⟩; have s1 := hb1.size; obtain ⟨hc1, hf1⟩ := bcell hb1; have z1_wr0 : wr.heap.size < w1.heap.size := (by have q := s1; first | omega | (simp at q; omega))
            go_wp2
            go_roundw
            case rel => exact ⟨k + 1, by omega, by go_num, HA2, by (repeat (first | (with_reducible exact Below.refl _ _) | (with_reducible assumption) | (with_reducible refine Below.drew ?_) | ((with_reducible refine balloc ?_ _ ?_); · (first | (simp; done) | (simp; omega) | omega)) | ((with_reducible refine bset ?_ _ ?_); · (first | (simp; done) | (simp; omega) | omega)) | (with_reducible refine bdrewN _ ?_) | ((with_reducible refine bcall ?_ (by assumption) ?_); · (first | (simp; done) | (simp; omega) | omega))))⟩
            case measure => simp [intOf]; omega
        · go_wp2
          go_ret
          have hA := hA.out
          have hL := HL.out
          rw [List.take_of_length_le (by omega)] at hA
          exact ⟨ret_bool (by simp [sevB, hA, hL, h1, h8]), hB⟩
    · have t1 : decide ((n : Int) < 1) = false := by simp; omega
      have t2 : decide ((8 : Int) < (n : Int)) = true := by simp; omega
      go_enter Try.func47, Try.ntmps47
      go_wp2
      go_ret
      have hL := HL.out
      exact ⟨ret_bool (by simp [sevB, hL, h8]), Below.refl _ _⟩
  · have t1 : decide ((n : Int) < 1) = true := by simp; omega
    go_enter Try.func47, Try.ntmps47
    go_wp2
    go_ret
    have hL := HL.out
    exact ⟨ret_bool (by simp [sevB, hL]; omega), Below.refl _ _⟩

set_option maxRecDepth 100000 in
set_option maxHeartbeats 4000000 in
theorem laBars_any (A : Option Addr) (n c : Nat) (l : List (Int × Int)) (w : World) (hr : Rd w 2 A n (pairCells l)) (hn : n ≤ 4000000000) :
    Calls Try.prog 45 #[.slice A n c] w fun e w' => e = .returned (.bool (sevB l)) ∧ Below w.heap.size w w' := by
  have hl : l.length = n := by have := hr.1; rw [length_pairCells] at this; omega
  have HL := Lib.hid hl
  clear hl
  by_cases hin : 1 ≤ n ∧ n ≤ 8
  · have hi : inB (n : Int) 1 8 = true := by simp [inB]; omega
    go_enter Try.func45, Try.ntmps45
    go_wp2_with fail
    refine (l1In_any _ _ _ _).mono ?_; rintro e wx ⟨rfl, rfl⟩
    go_wp2
    go_loopw [11] (fun i wr => ∃ k : Nat, k ≤ n ∧ i = .int .i64 k ∧ Hid (allB (l.take k) = true) ∧ Below w.heap.size w wr) (fun i _ => n - (intOf i).toNat)
    case atStart => exact ⟨0, Nat.zero_le _, rfl, by simp [Hid, allB], Below.refl _ _⟩
    case round =>
      obtain ⟨k, hk, rfl, hA, hB⟩ := hrel
      have sB := hB.size
      by_cases hlt : k < n
      · obtain ⟨b, o, rfl, hbl, hx, p1, p2⟩ := (hr.later hB (Nat.le_refl _)).pair hlt
        have HS := Lib.hid (all_take hx)
        have HNo : Hid (barB (l[k]).1 (l[k]).2 = false → allB l = false) := fun h => all_no hx h
        generalize (l[k]).1 = x at *
        generalize (l[k]).2 = y at *
        cases hb : barB x y
        · have HF := Lib.hid (HNo.out hb)
          go_wp2_with fail
          refine (brGood_any _ _ _).mono ?_; rintro e w1 ⟨rfl, hb1⟩; have s1 := hb1.size; obtain ⟨hc1, hf1⟩ := bcell hb1; have z1_wr0 : wr.heap.size < w1.heap.size := (by have q := s1; first | omega | (simp at q; omega))
          go_wp2
          go_ret
          exact ⟨ret_bool (by simp [sevB, HF.out]), by (repeat (first | (with_reducible exact Below.refl _ _) | (with_reducible assumption) | (with_reducible refine Below.drew ?_) | ((with_reducible refine balloc ?_ _ ?_); · (first | (simp; done) | (simp; omega) | omega)) | ((with_reducible refine bset ?_ _ ?_); · (first | (simp; done) | (simp; omega) | omega)) | (with_reducible refine bdrewN _ ?_) | ((with_reducible refine bcall ?_ (by assumption) ?_); · (first | (simp; done) | (simp; omega) | omega))))⟩
        · have hA2 := HS.out
          rw [hb, hA.out] at hA2
          have HA2 := Lib.hid hA2
          clear hA2
          go_wp2_with fail
          refine (brGood_any _ _ _).mono ?_; rintro e w1 ⟨rfl, hb1⟩; have s1 := hb1.size; obtain ⟨hc1, hf1⟩ := bcell hb1; have z1_wr0 : wr.heap.size < w1.heap.size := (by have q := s1; first | omega | (simp at q; omega))
          go_wp2
          go_roundw
          case rel => exact ⟨k + 1, by omega, by go_num, HA2, by (repeat (first | (with_reducible exact Below.refl _ _) | (with_reducible assumption) | (with_reducible refine Below.drew ?_) | ((with_reducible refine balloc ?_ _ ?_); · (first | (simp; done) | (simp; omega) | omega)) | ((with_reducible refine bset ?_ _ ?_); · (first | (simp; done) | (simp; omega) | omega)) | (with_reducible refine bdrewN _ ?_) | ((with_reducible refine bcall ?_ (by assumption) ?_); · (first | (simp; done) | (simp; omega) | omega))))⟩
          case measure => simp [intOf]; omega
      · go_wp2
        go_ret
        have hA := hA.out
        have hL := HL.out
        rw [List.take_of_length_le (by omega)] at hA
        exact ⟨ret_bool (by simp [sevB, hA, hL, hin]), hB⟩
  · have hi : inB (n : Int) 1 8 = false := by simp [inB]; omega
    go_enter Try.func45, Try.ntmps45
    go_wp2_with fail
    refine (l1In_any _ _ _ _).mono ?_; rintro e wx ⟨rfl, rfl⟩
    go_wp2
    go_ret
    have hL := HL.out
    exact ⟨ret_bool (by simp [sevB, hL, hin]), Below.refl _ _⟩

set_option maxRecDepth 100000 in
set_option maxHeartbeats 4000000 in
theorem heapOfSeveral_any (A : Option Addr) (n c : Nat) (l : List (Int × Int)) (w : World) (hr : Rd w 2 A n (pairCells l)) (hn : n ≤ 4000000000) (hA : allB l = true) :
    Calls Try.prog 48 #[.slice A n c] w fun e w' => e = .returned (.int .i64 (xorA l : Nat)) ∧ Below w.heap.size w w' := by
  have hl : l.length = n := by have := hr.1; rw [length_pairCells] at this; omega
  have HL := Lib.hid hl
  have HA := Lib.hid hA
  have HX := Lib.hid (xorT_lt hA)
  clear hl hA
  go_enter Try.func48, Try.ntmps48
  go_wp2
  go_loopw [3, 8] (fun s i wr => ∃ k : Nat, k ≤ n ∧ i = .int .i64 k ∧ s = .int .i64 (xorT l k : Nat) ∧ Below w.heap.size w wr) (fun _ i _ => n - (intOf i).toNat)
  case atStart => exact ⟨0, Nat.zero_le _, rfl, rfl, Below.refl _ _⟩
  case round =>
    obtain ⟨k, hk, rfl, rfl, hB⟩ := hrel
    have sB := hB.size
    by_cases hlt : k < n
    · obtain ⟨b, o, rfl, hbl, hx, p1, p2⟩ := (hr.later hB (Nat.le_refl _)).pair hlt
      have HE := Lib.hid (xorT_succ hx)
      have HBp := Lib.hid (allB_at HA.out hx)
      have h1 := HX.out k (by rw [HL.out]; exact hk)
      have h2 := hpN_lt HBp.out
      have X1 : bits .xor .i64 ((xorT l k : Nat) : Int) ((hpN (l[k]).1 (l[k]).2 : Nat) : Int) = ((xorT l k ^^^ hpN (l[k]).1 (l[k]).2 : Nat) : Int) := bx_i64 _ _ (by omega) (by omega)
      clear h1 h2
      generalize (l[k]).1 = x at *
      generalize (l[k]).2 = y at *
      generalize xorT l k = s at *
      go_wp2_with fail
      refine (keptHeap_any _ _ _ HBp.out).mono ?_; rintro e w1 ⟨rfl, hb1⟩; have s1 := hb1.size; obtain ⟨hc1, hf1⟩ := bcell hb1; have z1_wr0 : wr.heap.size < w1.heap.size := (by have q := s1; first | omega | (simp at q; omega))
      go_wp2
      go_roundw
      case rel => exact ⟨k + 1, by omega, by go_num, by rw [HE.out], by (repeat (first | (with_reducible exact Below.refl _ _) | (with_reducible assumption) | (with_reducible refine Below.drew ?_) | ((with_reducible refine balloc ?_ _ ?_); · (first | (simp; done) | (simp; omega) | omega)) | ((with_reducible refine bset ?_ _ ?_); · (first | (simp; done) | (simp; omega) | omega)) | (with_reducible refine bdrewN _ ?_) | ((with_reducible refine bcall ?_ (by assumption) ?_); · (first | (simp; done) | (simp; omega) | omega))))⟩
      case measure => simp [intOf]; omega
    · go_wp2
      go_ret
      obtain rfl : k = n := by omega
      exact ⟨ret_int (by rw [xorA, HL.out]), hB⟩

set_option maxRecDepth 100000 in
set_option maxHeartbeats 4000000 in
theorem laSeveral_any (A : Option Addr) (n c : Nat) (l : List (Int × Int)) (w : World) (hr : Rd w 2 A n (pairCells l)) (hn : n ≤ 4000000000) (hA : allB l = true) :
    Calls Try.prog 46 #[.slice A n c] w fun e w' => e = .returned (.int .i64 (xorA l : Nat)) ∧ Below w.heap.size w w' := by
  have hl : l.length = n := by have := hr.1; rw [length_pairCells] at this; omega
  have HL := Lib.hid hl
  have HA := Lib.hid hA
  have HX := Lib.hid (xorT_lt hA)
  clear hl hA
  go_enter Try.func46, Try.ntmps46
  go_wp2
  go_loopw [3, 8] (fun s i wr => ∃ k : Nat, k ≤ n ∧ i = .int .i64 k ∧ s = .int .i64 (xorT l k : Nat) ∧ Below w.heap.size w wr) (fun _ i _ => n - (intOf i).toNat)
  case atStart => exact ⟨0, Nat.zero_le _, rfl, rfl, Below.refl _ _⟩
  case round =>
    obtain ⟨k, hk, rfl, rfl, hB⟩ := hrel
    have sB := hB.size
    by_cases hlt : k < n
    · obtain ⟨b, o, rfl, hbl, hx, p1, p2⟩ := (hr.later hB (Nat.le_refl _)).pair hlt
      have HE := Lib.hid (xorT_succ hx)
      have HBp := Lib.hid (allB_at HA.out hx)
      have h1 := HX.out k (by rw [HL.out]; exact hk)
      have h2 := hpN_lt HBp.out
      have X1 : bits .xor .i64 ((xorT l k : Nat) : Int) ((hpN (l[k]).1 (l[k]).2 : Nat) : Int) = ((xorT l k ^^^ hpN (l[k]).1 (l[k]).2 : Nat) : Int) := bx_i64 _ _ (by omega) (by omega)
      clear h1 h2
      generalize (l[k]).1 = x at *
      generalize (l[k]).2 = y at *
      generalize xorT l k = s at *
      go_wp2_with fail
      refine (laHeap_any _ _ _ HBp.out).mono ?_; rintro e w1 ⟨rfl, hb1⟩; have s1 := hb1.size; obtain ⟨hc1, hf1⟩ := bcell hb1; have z1_wr0 : wr.heap.size < w1.heap.size := (by have q := s1; first | omega | (simp at q; omega))
      go_wp2
      go_roundw
      case rel => exact ⟨k + 1, by omega, by go_num, by rw [HE.out], by (repeat (first | (with_reducible exact Below.refl _ _) | (with_reducible assumption) | (with_reducible refine Below.drew ?_) | ((with_reducible refine balloc ?_ _ ?_); · (first | (simp; done) | (simp; omega) | omega)) | ((with_reducible refine bset ?_ _ ?_); · (first | (simp; done) | (simp; omega) | omega)) | (with_reducible refine bdrewN _ ?_) | ((with_reducible refine bcall ?_ (by assumption) ?_); · (first | (simp; done) | (simp; omega) | omega))))⟩
      case measure => simp [intOf]; omega
    · go_wp2
      go_ret
      obtain rfl : k = n := by omega
      exact ⟨ret_int (by rw [xorA, HL.out]), hB⟩

def wsB (l : List (Int × Int)) : Bool := sevB l && decide (xorA l ≠ 0)
theorem sevB_all {l : List (Int × Int)} (h : sevB l = true) : allB l = true := by simp [sevB] at h; exact h.2

set_option maxHeartbeats 1000000 in
theorem winsSeveral_any (A : Option Addr) (n c : Nat) (l : List (Int × Int)) (w : World) (hr : Rd w 2 A n (pairCells l)) (hn : n ≤ 4000000000) :
    Calls Try.prog 29 #[.slice A n c] w fun e w' => e = .returned (.tuple #[.bool (wsB l), .bool (sevB l)]) ∧ Below w.heap.size w w' := by
  cases hS : sevB l
  · have hw : wsB l = false := by simp [wsB, hS]
    go_enter Try.func29, Try.ntmps29
    go_wp2_with fail
    refine (areKeptBars_any _ _ _ _ _ hr hn).mono ?_; rintro e w1 ⟨rfl, hb1⟩; have s1 := hb1.size; obtain ⟨hc1, hf1⟩ := bcell hb1
    go_wp2
    go_ret2
    exact ⟨by simp [hw], by (repeat (first | (with_reducible exact Below.refl _ _) | (with_reducible assumption) | (with_reducible refine Below.drew ?_) | ((with_reducible refine balloc ?_ _ ?_); · (first | (simp; done) | (simp; omega) | omega)) | ((with_reducible refine bset ?_ _ ?_); · (first | (simp; done) | (simp; omega) | omega)) | (with_reducible refine bdrewN _ ?_) | ((with_reducible refine bcall ?_ (by assumption) ?_); · (first | (simp; done) | (simp; omega) | omega))))⟩
  · have hw : wsB l = decide (xorA l ≠ 0) := by simp [wsB, hS]
    have ht : (((xorA l : Nat) : Int) != 0) = decide (xorA l ≠ 0) := by by_cases e : xorA l = 0 <;> simp [e]
    have HA := Lib.hid (sevB_all hS)
    go_enter Try.func29, Try.ntmps29
    go_wp2_with fail
    refine (areKeptBars_any _ _ _ _ _ hr hn).mono ?_; rintro e w1 ⟨rfl, hb1⟩; have s1 := hb1.size; obtain ⟨hc1, hf1⟩ := bcell hb1
    go_wp2_with fail
    refine (heapOfSeveral_any _ _ _ _ _ (hr.later hb1 (Nat.le_refl _)) hn HA.out).mono ?_; rintro e w2 ⟨rfl, hb2⟩; have s2 := hb2.size; obtain ⟨hc2, hf2⟩ := bcell hb2
    go_wp2
    go_ret2
    exact ⟨by simp [hw], by (repeat (first | (with_reducible exact Below.refl _ _) | (with_reducible assumption) | (with_reducible refine Below.drew ?_) | ((with_reducible refine balloc ?_ _ ?_); · (first | (simp; done) | (simp; omega) | omega)) | ((with_reducible refine bset ?_ _ ?_); · (first | (simp; done) | (simp; omega) | omega)) | (with_reducible refine bdrewN _ ?_) | ((with_reducible refine bcall ?_ (by assumption) ?_); · (first | (simp; done) | (simp; omega) | omega))))⟩

set_option maxHeartbeats 1000000 in
theorem sWinsSeveral_any (A : Option Addr) (n c : Nat) (l : List (Int × Int)) (w : World) (hr : Rd w 2 A n (pairCells l)) (hn : n ≤ 4000000000) :
    Calls Try.prog 27 #[.slice A n c] w fun e w' => e = .returned (.tuple #[.bool (wsB l), .bool (sevB l)]) ∧ Below w.heap.size w w' := by
  cases hS : sevB l
  · have hw : wsB l = false := by simp [wsB, hS]
    go_enter Try.func27, Try.ntmps27
    go_wp2_with fail
    refine (laBars_any _ _ _ _ _ hr hn).mono ?_; rintro e w1 ⟨rfl, hb1⟩; have s1 := hb1.size; obtain ⟨hc1, hf1⟩ := bcell hb1
    go_wp2
    go_ret2
    exact ⟨by simp [hw], by (repeat (first | (with_reducible exact Below.refl _ _) | (with_reducible assumption) | (with_reducible refine Below.drew ?_) | ((with_reducible refine balloc ?_ _ ?_); · (first | (simp; done) | (simp; omega) | omega)) | ((with_reducible refine bset ?_ _ ?_); · (first | (simp; done) | (simp; omega) | omega)) | (with_reducible refine bdrewN _ ?_) | ((with_reducible refine bcall ?_ (by assumption) ?_); · (first | (simp; done) | (simp; omega) | omega))))⟩
  · have hw : wsB l = decide (xorA l ≠ 0) := by simp [wsB, hS]
    have ht : (((xorA l : Nat) : Int) != 0) = decide (xorA l ≠ 0) := by by_cases e : xorA l = 0 <;> simp [e]
    have HA := Lib.hid (sevB_all hS)
    go_enter Try.func27, Try.ntmps27
    go_wp2_with fail
    refine (laBars_any _ _ _ _ _ hr hn).mono ?_; rintro e w1 ⟨rfl, hb1⟩; have s1 := hb1.size; obtain ⟨hc1, hf1⟩ := bcell hb1
    go_wp2_with fail
    refine (laSeveral_any _ _ _ _ _ (hr.later hb1 (Nat.le_refl _)) hn HA.out).mono ?_; rintro e w2 ⟨rfl, hb2⟩; have s2 := hb2.size; obtain ⟨hc2, hf2⟩ := bcell hb2
    go_wp2
    go_ret2
    exact ⟨by simp [hw], by (repeat (first | (with_reducible exact Below.refl _ _) | (with_reducible assumption) | (with_reducible refine Below.drew ?_) | ((with_reducible refine balloc ?_ _ ?_); · (first | (simp; done) | (simp; omega) | omega)) | ((with_reducible refine bset ?_ _ ?_); · (first | (simp; done) | (simp; omega) | omega)) | (with_reducible refine bdrewN _ ?_) | ((with_reducible refine bcall ?_ (by assumption) ?_); · (first | (simp; done) | (simp; omega) | omega))))⟩

end Go.Proofs.Ythemmckchmpicaa
