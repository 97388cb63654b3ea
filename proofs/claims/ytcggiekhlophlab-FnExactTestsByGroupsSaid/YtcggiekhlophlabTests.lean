/-
  Contracts: TestsByGroups of the program and of the model. Conditions: none.
-/
import Derived.Test.YtcggiekhlophlabTst
import Derived.Test.YtcggiekhlophlabMinMax
namespace Go.Proofs.Ytcggiekhlophlab
open Go.RowKit
set_option linter.unusedVariables false
set_option linter.unusedSimpArgs false

set_option maxHeartbeats 400000 in
theorem upToT_any (n m : Int) (w : World) :
    Calls Try.prog 14 #[.int .i64 n, .int .i64 m] w fun e w' => e = .returned (.bool (inB n 1 m)) ∧ w = w' := by
  by_cases h1 : 1 ≤ n <;> by_cases h2 : n ≤ m
  all_goals
    go_enter Try.func14, Try.ntmps14
    go_wp2
    go_ret
    exact ⟨by simp [inB, h1, h2], rfl⟩
set_option maxHeartbeats 400000 in
theorem bxWeighedT_any (n : Int) (w : World) :
    Calls Try.prog 12 #[.int .i64 n] w fun e w' => e = .returned (.bool (inB n 1 1000)) ∧ w = w' := by
  go_enter Try.func12, Try.ntmps12
  go_wp2_with (go_at_call 19; refine (l1In_any _ _ _ _).mono ?_; rintro e wx ⟨rfl, rfl⟩)
  go_ret
  exact ⟨rfl, rfl⟩

def wsS (P : Nat) : ByteArray := ⟨(worstL P).toArray⟩
theorem wsS_list (P : Nat) : (wsS P).data.toList = worstL P := by simp [wsS]
theorem wsS_size {P : Nat} (h : 1 ≤ P) : (wsS P).size = P := by
  have : (wsS P).data.toList.length = (wsS P).size := Array.length_toList
  rw [← this, wsS_list]; simp [worstL]; omega
theorem repeatL_rep (b : UInt8) : ∀ c, Lib.repeatL [b] c = List.replicate c b
  | 0 => rfl
  | c + 1 => by simp [Lib.repeatL, repeatL_rep b c, List.replicate_succ]
theorem wsS_eq (P : Nat) : wsS P = ByteArray.mk #[120] ++ ⟨(Lib.repeatL (ByteArray.mk #[111]).data.toList (P - 1)).toArray⟩ := by
  apply ByteArray.ext
  simp [wsS, worstL, repeatL_rep]

set_option maxHeartbeats 1000000 in
theorem worst_any (P : Nat) (h1 : 1 ≤ P) (hP : P ≤ 1000) (w : World) :
    Calls Try.prog 16 #[.int .i64 P] w fun e w' => e = .returned (.string (wsS P)) ∧ Below w.heap.size w w' := by
  have HE := Lib.hid (wsS_eq P)
  have HR : Hid (∀ wx, Calls Try.prog 22 #[.string (ByteArray.mk #[111]), .int .i64 ((P : Int) - 1)] wx fun e w' => e = .returned (.string ⟨(Lib.repeatL (ByteArray.mk #[111]).data.toList (P - 1)).toArray⟩) ∧ Below wx.heap.size wx w') := by
    simp only [Hid]
    intro wx
    have h := Try.strings_Repeat (ByteArray.mk #[111]) (P - 1) wx (by omega) (by show 1 * (P - 1) ≤ _; omega)
    rw [show ((P - 1 : Nat) : Int) = (P : Int) - 1 by omega] at h
    exact h
  have hsz : (⟨(Lib.repeatL (ByteArray.mk #[111]).data.toList (P - 1)).toArray⟩ : ByteArray).size ≤ 1000 := by
    show (Lib.repeatL [111] (P - 1)).toArray.size ≤ 1000
    rw [repeatL_rep]; simp; omega
  generalize (⟨(Lib.repeatL (ByteArray.mk #[111]).data.toList (P - 1)).toArray⟩ : ByteArray) = t at *
  go_enter Try.func16, Try.ntmps16
  go_wp2_with fail
  refine (HR.out _).mono ?_; rintro e w1 ⟨rfl, hb1⟩
  go_wp2
  go_ret
  exact ⟨by rw [HE.out]; rfl, hb1⟩

def teB (p g : Int) : Bool := inB p 1 1000 && inB g 1 1000
def teN (p g : Int) : Int := if teB p g then (worstN p.toNat g.toNat : Nat) else 0
theorem teN_no {p g : Int} (h : teB p g = false) : teN p g = 0 := by simp [teN, h]

set_option maxHeartbeats 1000000 in
theorem tests_any (p g : Int) (w : World) :
    Calls Try.prog 7 #[.int .i64 p, .int .i64 g] w fun e w' => e = .returned (.tuple #[.int .i64 (teN p g), .bool (teB p g)]) ∧ Below w.heap.size w w' := by
  cases h1 : inB p 1 1000
  · have hB : teB p g = false := by simp [teB, h1]
    rw [teN_no hB, hB]
    go_enter Try.func7, Try.ntmps7
    go_wp2_with (go_at_call 14; refine (upToT_any _ _ _).mono ?_; rintro e wx ⟨rfl, rfl⟩; rw [h1])
    go_ret2
    exact ⟨rfl, Below.refl _ _⟩
  · cases h2 : inB g 1 1000
    · have hB : teB p g = false := by simp [teB, h2]
      rw [teN_no hB, hB]
      go_enter Try.func7, Try.ntmps7
      go_wp2_with (go_at_call 14; refine (upToT_any _ _ _).mono ?_; rintro e wx ⟨rfl, rfl⟩; first | rw [h1] | rw [h2])
      go_ret2
      exact ⟨rfl, Below.refl _ _⟩
    · obtain ⟨P, rfl, p1, p2⟩ := inB_nat (m := 1000) h1
      obtain ⟨G, rfl, g1, g2⟩ := inB_nat (m := 1000) h2
      have hB : teB (P : Int) (G : Int) = true := by simp [teB, h1, h2]
      rw [show teN (P : Int) (G : Int) = (worstN P G : Nat) by simp [teN, hB], hB]
      have HT := Lib.hid (fun wx => testsOfBox_any (wsS P) G (by rw [wsS_size p1]; exact p2) g1 g2 wx)
      rw [wsS_list, tb_worst p1 g1] at HT
      have HW := Lib.hid (fun wx => worst_any P p1 p2 wx)
      generalize worstN P G = q at *
      go_enter Try.func7, Try.ntmps7
      go_wp2_with (go_at_call 14; refine (upToT_any _ _ _).mono ?_; rintro e wx ⟨rfl, rfl⟩; first | rw [h1] | rw [h2])
      refine (HW.out _).mono ?_; rintro e w1 ⟨rfl, hb1⟩
      go_wp2_with fail
      refine (HT.out _).mono ?_; rintro e wx ⟨rfl, rfl⟩
      go_wp2
      go_ret2
      exact ⟨rfl, hb1⟩

set_option maxHeartbeats 1000000 in
theorem bxWorst_any (P G : Nat) (p1 : 1 ≤ P) (hP : P ≤ 1000) (g1 : 1 ≤ G) (hG : G ≤ 1000) (w : World) :
    Calls Try.prog 13 #[.int .i64 P, .int .i64 G] w fun e w' => e = .returned (.int .i64 (worstN P G : Nat)) ∧ w = w' := by
  have HL := Lib.hid (fun wx => l1Least_min (G : Int) (P : Int) wx)
  obtain ⟨c, hc⟩ : ∃ c, c = (P + G - 1) / G := ⟨_, rfl⟩
  obtain ⟨m, hm⟩ : ∃ m, m = min G P := ⟨_, rfl⟩
  have hc2 : c ≤ P + G := by rw [hc]; exact Nat.le_trans (Nat.div_le_self _ _) (by omega)
  have e1 : ((P : Int) + (G : Int) - 1) / (G : Int) = (c : Int) := by
    rw [hc, Int.natCast_ediv]
    congr 1; omega
  have e2 : ((P : Int) + (G : Int) - 1).tdiv (G : Int) = (c : Int) := by rw [Int.tdiv_eq_ediv_of_nonneg (by omega), e1]
  have e3 : wrap64 (c : Int) = (c : Int) := IntWalk.wrap64_in _ (by omega)
  rw [show min (G : Int) (P : Int) = (m : Int) by omega] at HL
  have hm2 : m ≤ 1000 := by omega
  have HW : Hid (worstN P G = if 1 < m then c + m else c) := by simp only [Hid, worstN, ← hc, ← hm]
  clear hc hm e1
  by_cases h : 1 < m
  · have hi : (m : Int) > 1 := by omega
    rw [if_pos h] at HW
    go_enter Try.func13, Try.ntmps13
    go_wp2_with (go_at_call 20; refine (HL.out _).mono ?_; rintro e wx ⟨rfl, rfl⟩)
    go_ret
    exact ⟨ret_int (by rw [HW.out]; omega), rfl⟩
  · have hi : ¬ (m : Int) > 1 := by omega
    rw [if_neg h] at HW
    go_enter Try.func13, Try.ntmps13
    go_wp2_with (go_at_call 20; refine (HL.out _).mono ?_; rintro e wx ⟨rfl, rfl⟩)
    go_ret
    exact ⟨ret_int (by rw [HW.out]), rfl⟩

set_option maxHeartbeats 1000000 in
theorem sTests_any (p g : Int) (w : World) :
    Calls Try.prog 6 #[.int .i64 p, .int .i64 g] w fun e w' => e = .returned (.tuple #[.int .i64 (teN p g), .bool (teB p g)]) ∧ Below w.heap.size w w' := by
  cases h1 : inB p 1 1000
  · have hB : teB p g = false := by simp [teB, h1]
    rw [teN_no hB, hB]
    go_enter Try.func6, Try.ntmps6
    go_wp2_with (go_at_call 12; refine (bxWeighedT_any _ _).mono ?_; rintro e wx ⟨rfl, rfl⟩; rw [h1])
    go_ret2
    exact ⟨rfl, Below.refl _ _⟩
  · cases h2 : inB g 1 1000
    · have hB : teB p g = false := by simp [teB, h2]
      rw [teN_no hB, hB]
      go_enter Try.func6, Try.ntmps6
      go_wp2_with (go_at_call 12; refine (bxWeighedT_any _ _).mono ?_; rintro e wx ⟨rfl, rfl⟩; first | rw [h1] | rw [h2])
      go_ret2
      exact ⟨rfl, Below.refl _ _⟩
    · obtain ⟨P, rfl, p1, p2⟩ := inB_nat (m := 1000) h1
      obtain ⟨G, rfl, g1, g2⟩ := inB_nat (m := 1000) h2
      have hB : teB (P : Int) (G : Int) = true := by simp [teB, h1, h2]
      rw [show teN (P : Int) (G : Int) = (worstN P G : Nat) by simp [teN, hB], hB]
      have HW := Lib.hid (fun wx => bxWorst_any P G p1 p2 g1 g2 wx)
      generalize worstN P G = q at *
      go_enter Try.func6, Try.ntmps6
      go_wp2_with first | (go_at_call 12; refine (bxWeighedT_any _ _).mono ?_; rintro e wx ⟨rfl, rfl⟩; first | rw [h1] | rw [h2]) | (go_at_call 13; refine (HW.out _).mono ?_; rintro e wx ⟨rfl, rfl⟩)
      go_ret2
      exact ⟨rfl, Below.refl _ _⟩
end Go.Proofs.Ytcggiekhlophlab
