/-
  Contracts: MostStacked, FirstStack, HeaviestStack, CountStacks of the model. Conditions: none.
-/
import Derived.Test.YtkijcpbjjbhnhabStkS
namespace Go.Proofs.Ytkijcpbjjbhnhab
open Go.RowKit
set_option linter.unusedVariables false
set_option linter.unusedSimpArgs false

set_option maxHeartbeats 1000000 in
theorem skEach_any (A : Option Addr) (n c : Nat) (S : List Sb) (w : World) (hS : slB S = true) (hr : Rd w 2 A n (pairCells S)) :
    Calls Try.prog 32 #[.slice A n c] w fun e w' => ∃ A' n' c', e = .returned (.tuple #[.slice A' n' c', .int .i64 (hv S 0 (allD S)), .int .i64 ((allD S).length : Int)]) ∧ w'.ownsRow w.heap.size 3 1 (.slice A' n' c') n' (intCells (fl [] (allD S))) ∧ Below w.heap.size w w' := by
  have hl7 := slB_len hS
  have HREC := Lib.hid (skAll_any S hS A n c S.length 0 0 none [] 7000 w hr (by simp) (by omega) rfl (roomI_nil S) (by omega) rfl (fun _ => ⟨rfl, rfl⟩) (Rd.nil _ _))
  have HD : Hid (stkD S S.length [] = allD S) := rfl
  have HW : Hid (wsum S [] = 0) := rfl
  rw [HD.out, HW.out] at HREC
  go_enter Try.func32, Try.ntmps32
  go_wp2_with fail
  refine HREC.out.mono ?_; rintro e w1 ⟨A', n', c', rfl, ho, hb⟩
  have HO := Lib.hid ho
  have HB := Lib.hid hb
  clear ho hb HREC
  go_wp2
  go_ret3
  exact ⟨A', n', c', rfl, HO.out, HB.out⟩

set_option maxHeartbeats 1000000 in
theorem sMostStacked_any (A : Option Addr) (n c : Nat) (S : List Sb) (w : World) (hr : Rd w 2 A n (pairCells S)) (hn : n ≤ 4000000000) :
    Calls Try.prog 15 #[.slice A n c] w fun e w' => e = .returned (.tuple #[.int .i64 (msR S), .bool (slB S)]) ∧ Below w.heap.size w w' := by
  cases h : slB S
  · rw [show msR S = 0 by simp [msR, fsR, h]]
    go_enter Try.func15, Try.ntmps15
    go_wp2_with fail
    refine (skSlabs_any _ _ _ S _ hr hn).mono ?_; rintro e w1 ⟨rfl, hb1⟩
    rw [h]
    go_wp2
    go_ret2
    exact ⟨rfl, hb1⟩
  · have HV := Lib.hid (show msR S = ((fl [] (allD S)).length : Int) by simp [msR, fsR, h])
    have HS := Lib.hid h
    rw [HV.out]
    go_enter Try.func15, Try.ntmps15
    go_wp2_with fail
    refine (skSlabs_any _ _ _ S _ hr hn).mono ?_; rintro e w1 ⟨rfl, hb1⟩
    rw [h]
    clear h
    go_wp2_with fail
    refine (skEach_any A n c S _ HS.out (hr.later hb1 (Nat.le_refl _))).mono ?_; rintro e w2 ⟨A', n', c', rfl, ho, hb2⟩
    have HB := Lib.hid (hb1.trans (hb2.mono hb1.size))
    have HLE : Hid ((fl [] (allD S)).length = n') := by have := ho.1; rw [length_intCells] at this; simp only [Hid]; omega
    clear ho hb1 hb2 HV
    go_wp2
    go_ret2
    exact ⟨by rw [HLE.out]; rfl, HB.out⟩

set_option maxHeartbeats 1000000 in
theorem sHeaviest_any (A : Option Addr) (n c : Nat) (S : List Sb) (w : World) (hr : Rd w 2 A n (pairCells S)) (hn : n ≤ 4000000000) :
    Calls Try.prog 22 #[.slice A n c] w fun e w' => e = .returned (.tuple #[.int .i64 (hvR S), .bool (slB S)]) ∧ Below w.heap.size w w' := by
  cases h : slB S
  · rw [show hvR S = 0 by simp [hvR, h]]
    go_enter Try.func22, Try.ntmps22
    go_wp2_with fail
    refine (skSlabs_any _ _ _ S _ hr hn).mono ?_; rintro e w1 ⟨rfl, hb1⟩
    rw [h]
    go_wp2
    go_ret2
    exact ⟨rfl, hb1⟩
  · have HV := Lib.hid (show hvR S = hv S 0 (allD S) by simp [hvR, h])
    have HS := Lib.hid h
    rw [HV.out]
    go_enter Try.func22, Try.ntmps22
    go_wp2_with fail
    refine (skSlabs_any _ _ _ S _ hr hn).mono ?_; rintro e w1 ⟨rfl, hb1⟩
    rw [h]
    clear h
    go_wp2_with fail
    refine (skEach_any A n c S _ HS.out (hr.later hb1 (Nat.le_refl _))).mono ?_; rintro e w2 ⟨A', n', c', rfl, ho, hb2⟩
    have HB := Lib.hid (hb1.trans (hb2.mono hb1.size))
    have HLE : Hid ((fl [] (allD S)).length = n') := by have := ho.1; rw [length_intCells] at this; simp only [Hid]; omega
    clear ho hb1 hb2 HV
    go_wp2
    go_ret2
    exact ⟨rfl, HB.out⟩

set_option maxHeartbeats 1000000 in
theorem sCountStacks_any (A : Option Addr) (n c : Nat) (S : List Sb) (w : World) (hr : Rd w 2 A n (pairCells S)) (hn : n ≤ 4000000000) :
    Calls Try.prog 24 #[.slice A n c] w fun e w' => e = .returned (.tuple #[.int .i64 (cnR S), .bool (slB S)]) ∧ Below w.heap.size w w' := by
  cases h : slB S
  · rw [show cnR S = 0 by simp [cnR, h]]
    go_enter Try.func24, Try.ntmps24
    go_wp2_with fail
    refine (skSlabs_any _ _ _ S _ hr hn).mono ?_; rintro e w1 ⟨rfl, hb1⟩
    rw [h]
    go_wp2
    go_ret2
    exact ⟨rfl, hb1⟩
  · have HV := Lib.hid (show cnR S = ((allD S).length : Int) by simp [cnR, h])
    have HS := Lib.hid h
    rw [HV.out]
    go_enter Try.func24, Try.ntmps24
    go_wp2_with fail
    refine (skSlabs_any _ _ _ S _ hr hn).mono ?_; rintro e w1 ⟨rfl, hb1⟩
    rw [h]
    clear h
    go_wp2_with fail
    refine (skEach_any A n c S _ HS.out (hr.later hb1 (Nat.le_refl _))).mono ?_; rintro e w2 ⟨A', n', c', rfl, ho, hb2⟩
    have HB := Lib.hid (hb1.trans (hb2.mono hb1.size))
    have HLE : Hid ((fl [] (allD S)).length = n') := by have := ho.1; rw [length_intCells] at this; simp only [Hid]; omega
    clear ho hb1 hb2 HV
    go_wp2
    go_ret2
    exact ⟨rfl, HB.out⟩

set_option maxHeartbeats 1000000 in
theorem sFirstStack_any (A : Option Addr) (n c : Nat) (S : List Sb) (w : World) (hr : Rd w 2 A n (pairCells S)) (hn : n ≤ 4000000000) :
    Calls Try.prog 17 #[.slice A n c] w fun e w' => ∃ A' n' c', e = .returned (.tuple #[.slice A' n' c', .bool (slB S)]) ∧ w'.ownsRow w.heap.size 3 1 (.slice A' n' c') n' (intCells (fsR S)) ∧ Below w.heap.size w w' := by
  cases h : slB S
  · rw [fsR_no h]
    go_enter Try.func17, Try.ntmps17
    go_wp2_with fail
    refine (skSlabs_any _ _ _ S _ hr hn).mono ?_; rintro e w1 ⟨rfl, hb1⟩
    rw [h]
    go_wp2
    go_ret2
    exact ⟨none, 0, 0, rfl, World.ownsRow_nil _ _ _ _, hb1⟩
  · have HV := Lib.hid (fsR_yes h)
    have HS := Lib.hid h
    rw [HV.out]
    go_enter Try.func17, Try.ntmps17
    go_wp2_with fail
    refine (skSlabs_any _ _ _ S _ hr hn).mono ?_; rintro e w1 ⟨rfl, hb1⟩
    rw [h]
    clear h
    go_wp2_with fail
    refine (skEach_any A n c S _ HS.out (hr.later hb1 (Nat.le_refl _))).mono ?_; rintro e w2 ⟨A', n', c', rfl, ho, hb2⟩
    have HB := Lib.hid (hb1.trans (hb2.mono hb1.size))
    have HO := Lib.hid (own_base ho hb1.size)
    clear ho hb1 hb2 HV
    go_wp2
    go_ret2
    exact ⟨A', n', c', rfl, HO.out, HB.out⟩

end Go.Proofs.Ytkijcpbjjbhnhab
