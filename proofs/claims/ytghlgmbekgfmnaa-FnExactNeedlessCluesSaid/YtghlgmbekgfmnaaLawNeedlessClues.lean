/-
  Proved: for every puzzle the law's calls of NeedlessClues answer as the model does, in memory of their own, and leave the arguments alone. Conditions: none.
-/
import Derived.Test.YtghlgmbekgfmnaaPzN
import Derived.Test.YtghlgmbekgfmnaaIKit
import Derived.Test.YtghlgmbekgfmnaaPuzO
import Derived.Test.YtghlgmbekgfmnaaFacts
import Derived.ProofKit
import Derived.OpenShut
import Derived.Lib.SmallJoins
namespace Go.Proofs.Ytghlgmbekgfmnaa.lawNeedlessClues
open Go.ChangeShapes Go.WideShapes Go.ChangeAt Go.RowKit Go.Joins Go.Deep
set_option linter.unusedVariables false

set_option maxRecDepth 100000 in
set_option maxHeartbeats 4000000 in
theorem walk (A_aP : Option Addr) (n_aP c_aP : Nat) (l_aP : List (Int × Int × Int)) (w : World) (rd_aP : Rd w 3 A_aP n_aP (boxCells l_aP)) (hn_aP : n_aP ≤ maxLen) :
    Calls Try.prog 11 #[.agg #[.slice A_aP n_aP c_aP]] w fun e w' => e = .returned (.bool true) ∧ Below w.heap.size w w' := by
  go_enter Try.func11, Try.ntmps11
  have bw0 : Below w.heap.size w w := Below.refl _ _
  obtain ⟨w1, hw1⟩ : ∃ wm, wm = w.alloc (.cells #[.slice A_aP n_aP c_aP] 30) := ⟨_, rfl⟩
  have hb1 : Below w.heap.size w w1 := by rw [hw1]; exact (Below.refl _ _).alloc (Nat.le_refl _) _
  have cs0_0_1 : w1.cell? ⟨w.heap.size, 0, none⟩ = some (.slice A_aP n_aP c_aP) := by rw [hw1]; simp [go_sem]
  have s1 : w.heap.size + 1 ≤ w1.heap.size := by rw [hw1]; simp
  have HW1 := Lib.hid hw1; clear hw1
  have bw1 : Below w.heap.size w w1 := bcall bw0.size hb1 bw0
  have q1 := bw1.size
  have zs0_1 : w.heap.size < w1.heap.size := by omega
  have cx1_0_0 : (w.alloc (.cells #[.slice A_aP n_aP c_aP] 30)).cell? ⟨w.heap.size, 0, none⟩ = some (.slice A_aP n_aP c_aP) := by rw [← HW1.out]; exact cs0_0_1
  by_cases hn2_aP : n_aP ≤ 1048576
  case neg =>
    go_wp2_with fail
    rw [← HW1.out]
    refine (szPuzzle_no _ _ _ _ hn_aP hn2_aP).mono ?_; rintro e wx ⟨rfl, hbx⟩
    have hbz := bcall bw1.size hbx bw1
    go_wp2
    go_ret
    exact ⟨rfl, hbz⟩
  go_wp2_with fail
  rw [← HW1.out]
  refine (szPuzzle_yes _ _ _ _ hn2_aP).mono ?_; rintro e w2 ⟨rfl, hb2⟩; have s2 := hb2.size
  have bw2 : Below w.heap.size w w2 := bcall bw1.size hb2 bw1
  have q2 := bw2.size
  have cs0_0_2 := (hb2.cell (p := ⟨w.heap.size, 0, none⟩) (by show w.heap.size < w1.heap.size; omega)).trans cs0_0_1; clear cs0_0_1
  have zs0_2 : w.heap.size < w2.heap.size := by omega
  go_wp2_with fail
  refine (toPuzzle_any _ _ _ l_aP _ (rd_aP.later bw2 (Nat.le_refl _)) hn2_aP).mono ?_; rintro e w3 ⟨g_sp0, rfl, o_sp0_3, hb3⟩; have s3 := hb3.size
  have bw3 : Below w.heap.size w w3 := bcall bw2.size hb3 bw2
  have q3 := bw3.size
  have cs0_0_3 := (hb3.cell (p := ⟨w.heap.size, 0, none⟩) (by show w.heap.size < w2.heap.size; omega)).trans cs0_0_2; clear cs0_0_2
  have zs0_3 : w.heap.size < w3.heap.size := by omega
  have lt_sp0 := Lib.hid (fun g (h : (Value.slice (some ⟨g_sp0, 0, none⟩) n_aP n_aP).ownBlock = some g) => o_sp0_3.lt g h)
  go_wp2_with fail
  refine (sNeedless_any _ _ _ l_aP _ (Rd.of_own o_sp0_3) (by omega) (by omega) (by omega)).mono ?_; rintro e w4 ⟨A_w0, n_w0, c_w0, rfl, o_w0_4, hb4⟩; have s4 := hb4.size
  have bw4 : Below w.heap.size w w4 := bcall bw3.size hb4 bw3
  have q4 := bw4.size
  have o_sp0_4 := own_later o_sp0_3 hb4 (Nat.le_refl _)
  have cs0_0_4 := (hb4.cell (p := ⟨w.heap.size, 0, none⟩) (by show w.heap.size < w3.heap.size; omega)).trans cs0_0_3; clear cs0_0_3
  have zs0_4 : w.heap.size < w4.heap.size := by omega
  have bc_w0_4 : Below w4.heap.size w4 w4 := Below.refl _ _; have oc_w0 := Lib.hid o_w0_4
  have lt_w0 := Lib.hid (fun g (h : (Value.slice A_w0 n_w0 c_w0).ownBlock = some g) => o_w0_4.lt g h)
  have ln_w0 : n_w0 ≤ 100000000 := by have h := o_w0_4.1; rw [length_intCells] at h; have := length_needR l_aP; omega
  go_wp2_with fail
  refine (toPuzzle_any _ _ _ l_aP _ (rd_aP.later bw4 (Nat.le_refl _)) hn2_aP).mono ?_; rintro e w5 ⟨g_x0, rfl, o_x0_5, hb5⟩; have s5 := hb5.size
  have bw5 : Below w.heap.size w w5 := bcall bw4.size hb5 bw4
  have q5 := bw5.size
  have o_sp0_5 := own_later o_sp0_4 hb5 (Nat.le_refl _)
  have o_w0_5 := own_later o_w0_4 hb5 (Nat.le_refl _)
  have bc_w0_5 : Below w4.heap.size w4 w5 := bc_w0_4.trans (hb5.mono (by omega))
  have cs0_0_5 := (hb5.cell (p := ⟨w.heap.size, 0, none⟩) (by show w.heap.size < w4.heap.size; omega)).trans cs0_0_4; clear cs0_0_4
  have zs0_5 : w.heap.size < w5.heap.size := by omega
  have lt_x0 := Lib.hid (fun g (h : (Value.slice (some ⟨g_x0, 0, none⟩) n_aP n_aP).ownBlock = some g) => o_x0_5.lt g h)
  obtain ⟨w6, hw6⟩ : ∃ wm, wm = w5.alloc (.cells #[.slice (some ⟨g_x0, 0, none⟩) n_aP n_aP] 35) := ⟨_, rfl⟩
  have hb6 : Below w5.heap.size w5 w6 := by rw [hw6]; exact (Below.refl _ _).alloc (Nat.le_refl _) _
  have cs1_0_6 : w6.cell? ⟨w5.heap.size, 0, none⟩ = some (.slice (some ⟨g_x0, 0, none⟩) n_aP n_aP) := by rw [hw6]; simp [go_sem]
  have s6 : w5.heap.size + 1 ≤ w6.heap.size := by rw [hw6]; simp
  have HW6 := Lib.hid hw6; clear hw6
  have bw6 : Below w.heap.size w w6 := bcall bw5.size hb6 bw5
  have q6 := bw6.size
  have o_sp0_6 := own_later o_sp0_5 hb6 (Nat.le_refl _)
  have o_w0_6 := own_later o_w0_5 hb6 (Nat.le_refl _)
  have o_x0_6 := own_later o_x0_5 hb6 (Nat.le_refl _)
  have bc_w0_6 : Below w4.heap.size w4 w6 := bc_w0_5.trans (hb6.mono (by omega))
  have cs0_0_6 := (hb6.cell (p := ⟨w.heap.size, 0, none⟩) (by show w.heap.size < w5.heap.size; omega)).trans cs0_0_5; clear cs0_0_5
  have zs0_6 : w.heap.size < w6.heap.size := by omega
  have zs1_6 : w5.heap.size < w6.heap.size := by omega
  have cx6_0_0 : (w5.alloc (.cells #[.slice (some ⟨g_x0, 0, none⟩) n_aP n_aP] 35)).cell? ⟨w.heap.size, 0, none⟩ = some (.slice A_aP n_aP c_aP) := by rw [← HW6.out]; exact cs0_0_6
  have cx6_1_0 : (w5.alloc (.cells #[.slice (some ⟨g_x0, 0, none⟩) n_aP n_aP] 35)).cell? ⟨w5.heap.size, 0, none⟩ = some (.slice (some ⟨g_x0, 0, none⟩) n_aP n_aP) := by rw [← HW6.out]; exact cs1_0_6
  go_wp2_with fail
  rw [← HW6.out]
  refine (needless_any _ _ _ l_aP _ (Rd.of_own o_x0_6) (by omega) (by omega) (by omega)).mono ?_; rintro e w7 ⟨A_g0, n_g0, c_g0, rfl, o_g0_7, hb7⟩; have s7 := hb7.size
  have bw7 : Below w.heap.size w w7 := bcall bw6.size hb7 bw6
  have q7 := bw7.size
  have o_sp0_7 := own_later o_sp0_6 hb7 (Nat.le_refl _)
  have o_w0_7 := own_later o_w0_6 hb7 (Nat.le_refl _)
  have o_x0_7 := own_later o_x0_6 hb7 (Nat.le_refl _)
  have bc_w0_7 : Below w4.heap.size w4 w7 := bc_w0_6.trans (hb7.mono (by omega))
  have cs0_0_7 := (hb7.cell (p := ⟨w.heap.size, 0, none⟩) (by show w.heap.size < w6.heap.size; omega)).trans cs0_0_6; clear cs0_0_6
  have zs0_7 : w.heap.size < w7.heap.size := by omega
  have cs1_0_7 := (hb7.cell (p := ⟨w5.heap.size, 0, none⟩) (by show w5.heap.size < w6.heap.size; omega)).trans cs1_0_6; clear cs1_0_6
  have zs1_7 : w5.heap.size < w7.heap.size := by omega
  have lt_g0 := Lib.hid (fun g (h : (Value.slice A_g0 n_g0 c_g0).ownBlock = some g) => o_g0_7.lt g h)
  have ln_g0 : n_g0 ≤ 100000000 := by have h := o_g0_7.1; rw [length_intCells] at h; have := length_needR l_aP; omega
  go_wp2_with fail
  refine (eqIntS_same _ _ _ _ _ _ _ _ (Rd.of_own o_g0_7) (Rd.of_own o_w0_7) (by omega) (by omega)).mono ?_; rintro e w8 ⟨rfl, hb8⟩; have s8 := hb8.size
  have bw8 : Below w.heap.size w w8 := bcall bw7.size hb8 bw7
  have q8 := bw8.size
  have o_sp0_8 := own_later o_sp0_7 hb8 (Nat.le_refl _)
  have o_w0_8 := own_later o_w0_7 hb8 (Nat.le_refl _)
  have o_x0_8 := own_later o_x0_7 hb8 (Nat.le_refl _)
  have o_g0_8 := own_later o_g0_7 hb8 (Nat.le_refl _)
  have bc_w0_8 : Below w4.heap.size w4 w8 := bc_w0_7.trans (hb8.mono (by omega))
  have cs0_0_8 := (hb8.cell (p := ⟨w.heap.size, 0, none⟩) (by show w.heap.size < w7.heap.size; omega)).trans cs0_0_7; clear cs0_0_7
  have zs0_8 : w.heap.size < w8.heap.size := by omega
  have cs1_0_8 := (hb8.cell (p := ⟨w5.heap.size, 0, none⟩) (by show w5.heap.size < w7.heap.size; omega)).trans cs1_0_7; clear cs1_0_7
  have zs1_8 : w5.heap.size < w8.heap.size := by omega
  go_wp2
  refine wp_region_held_drew (S := (fun w' => w'.cell? ⟨w.heap.size, 0, none⟩ = some (.slice A_aP n_aP c_aP) ∧ w'.cell? ⟨w5.heap.size, 0, none⟩ = some (.slice (some ⟨g_x0, 0, none⟩) n_aP n_aP))) (by kernel_rfl) ?_ (fun hHeld => ?_)
  · ((try dsimp only); (repeat' apply And.intro); all_goals ((repeat (first | (with_reducible refine cell_drew ?_) | (with_reducible refine cell_drewN _ ?_) | ((with_reducible refine cell_alloc ?_ ?_); · first | omega | (simp; done) | (simp; omega) | assumption) | ((with_reducible refine cell_set ?_ ?_); · first | (intro e; injection e; omega) | (intro e; simp at e; done) | (intro e; simp at e; omega)))); first | assumption | (simp; done)))
  refine reg_on (i := 0) (d := 41) (v := ?rv1) rfl rfl (by kernel_rfl) (by kernel_rfl) (by kernel_rfl) (fun _ _ _ h => h) (by rfl) ?ry1 (by assumption) ?rr1
  case ry1 => (intro wz hSw; (try dsimp only at hSw); go_simp; try with_reducible rfl)
  (try simp only [Act.put, List.setIfInBounds_toArray, List.set_cons_zero, List.set_cons_succ])
  refine reg_on (i := 1) (d := 42) (v := ?rv2) rfl rfl (by kernel_rfl) (by kernel_rfl) (by kernel_rfl) (fun _ _ _ h => h) (by rfl) ?ry2 (by assumption) ?rr2
  case ry2 => (intro wz hSw; (try dsimp only at hSw); go_simp; try with_reducible rfl)
  (try simp only [Act.put, List.setIfInBounds_toArray, List.set_cons_zero, List.set_cons_succ])
  refine wpAnyH_ready (rs := [2]) (by kernel_rfl) (by simp) ?_
  refine AllReadyH.cons rfl (fun K hK => ?_) AllReadyH.nil
  go_simp
  go_at_call 23; refine (toPuzzle_any _ _ _ l_aP _ (by exact (rd_aP.later bw8 (Nat.le_refl _)).later (Below.refl _ _).drew (Nat.le_refl _)) hn2_aP).mono ?_; rintro e w9 ⟨g_cy8, rfl, o_cy8_9, hb9⟩; have s9 := hb9.size; (try simp at s9); have d9_0 : w9.cell? ⟨w.heap.size, 0, none⟩ = some (.slice A_aP n_aP c_aP) := (hb9.cell (p := ⟨w.heap.size, 0, none⟩) (by first | omega | (simp; omega))).trans (by first | assumption | (go_split_ands; assumption)); have d9_1 : w9.cell? ⟨w5.heap.size, 0, none⟩ = some (.slice (some ⟨g_x0, 0, none⟩) n_aP n_aP) := (hb9.cell (p := ⟨w5.heap.size, 0, none⟩) (by first | omega | (simp; omega))).trans (by first | assumption | (go_split_ands; assumption))
  refine hK.out _ _ ?_ (fun hHeld => ?_)
  · ((try dsimp only); (repeat' apply And.intro); all_goals ((repeat (first | (with_reducible refine cell_drew ?_) | (with_reducible refine cell_drewN _ ?_) | ((with_reducible refine cell_alloc ?_ ?_); · first | omega | (simp; done) | (simp; omega) | assumption) | ((with_reducible refine cell_set ?_ ?_); · first | (intro e; injection e; omega) | (intro e; simp at e; done) | (intro e; simp at e; omega)))); first | assumption | (simp; done)))
  clear hK K
  (try simp only [Act.put, List.setIfInBounds_toArray, List.set_cons_zero, List.set_cons_succ])
  refine wpAnyH_ready (rs := [3]) (by kernel_rfl) (by simp) ?_
  refine AllReadyH.cons rfl (fun K hK => ?_) AllReadyH.nil
  go_simp
  go_at_call 25; refine (eqPuzzle_same _ _ _ _ _ _ _ _ (Rd.of_own (own_later (own_later o_x0_8 (Below.refl _ _).drew (Nat.le_refl _)) hb9 (Nat.le_refl _))) (Rd.of_own (by exact o_cy8_9)) (by omega) (by omega)).mono ?_; rintro e w10 ⟨rfl, hb10⟩; have s10 := hb10.size; (try simp at s10); have d10_0 : w10.cell? ⟨w.heap.size, 0, none⟩ = some (.slice A_aP n_aP c_aP) := (hb10.cell (p := ⟨w.heap.size, 0, none⟩) (by first | omega | (simp; omega))).trans (by first | assumption | (go_split_ands; assumption)); have d10_1 : w10.cell? ⟨w5.heap.size, 0, none⟩ = some (.slice (some ⟨g_x0, 0, none⟩) n_aP n_aP) := (hb10.cell (p := ⟨w5.heap.size, 0, none⟩) (by first | omega | (simp; omega))).trans (by first | assumption | (go_split_ands; assumption))
  refine hK.out _ _ ?_ (fun hHeld => ?_)
  · ((try dsimp only); (repeat' apply And.intro); all_goals ((repeat (first | (with_reducible refine cell_drew ?_) | (with_reducible refine cell_drewN _ ?_) | ((with_reducible refine cell_alloc ?_ ?_); · first | omega | (simp; done) | (simp; omega) | assumption) | ((with_reducible refine cell_set ?_ ?_); · first | (intro e; injection e; omega) | (intro e; simp at e; done) | (intro e; simp at e; omega)))); first | assumption | (simp; done)))
  clear hK K
  (try simp only [Act.put, List.setIfInBounds_toArray, List.set_cons_zero, List.set_cons_succ])
  refine reg_on (i := 4) (d := 45) (v := ?rv5) rfl rfl (by kernel_rfl) (by kernel_rfl) (by kernel_rfl) (fun _ _ _ h => h) (by rfl) ?ry5 (by assumption) ?rr5
  case ry5 => (intro wz hSw; (try dsimp only at hSw); go_simp; try with_reducible rfl)
  (try simp only [Act.put, List.setIfInBounds_toArray, List.set_cons_zero, List.set_cons_succ])
  refine wpAnyH_done (by kernel_rfl) ?_ _
  have bwd8 := bw8.drew
  have hbd8 : Below w8.heap.size w8 w9 := ((Below.refl _ _).drew).trans hb9
  replace hb10 := hbd8.trans (hb10.mono s9)
  replace s10 := hb10.size
  have bw10 : Below w.heap.size w w10 := bcall bw8.size hb10 bw8
  have q10 := bw10.size
  have o_sp0_10 := own_later o_sp0_8 hb10 (Nat.le_refl _)
  have o_w0_10 := own_later o_w0_8 hb10 (Nat.le_refl _)
  have o_x0_10 := own_later o_x0_8 hb10 (Nat.le_refl _)
  have o_g0_10 := own_later o_g0_8 hb10 (Nat.le_refl _)
  have bc_w0_10 : Below w4.heap.size w4 w10 := bc_w0_8.trans (hb10.mono (by omega))
  have cs0_0_10 := (hb10.cell (p := ⟨w.heap.size, 0, none⟩) (by show w.heap.size < w8.heap.size; omega)).trans cs0_0_8; clear cs0_0_8
  have zs0_10 : w.heap.size < w10.heap.size := by omega
  have cs1_0_10 := (hb10.cell (p := ⟨w5.heap.size, 0, none⟩) (by show w5.heap.size < w8.heap.size; omega)).trans cs1_0_8; clear cs1_0_8
  have zs1_10 : w5.heap.size < w10.heap.size := by omega
  go_wp2_with fail
  refine (markPuzzle_g _ _ _ _ _ _ _ o_x0_10 (by omega) (by omega) (by omega)).mono ?_; rintro e w11 ⟨rfl, o_x0_11, hb11, hg11⟩; have s11 := hb11.size
  have m11 : w10.heap.size ≤ w11.heap.size := hg11.size
  have bw11 : Below w.heap.size w w11 := bw10.trans (hb11.mono (by omega))
  have q11 := bw11.size
  have cs0_0_11 := (World.cell?_of_block (a := ⟨w.heap.size, 0, none⟩) (hg11.block w.heap.size (by omega) (fun e => by have := lt_x0.out _ e.symm; omega))).trans cs0_0_10; clear cs0_0_10
  have zs0_11 : w.heap.size < w11.heap.size := by omega
  have cs1_0_11 := (World.cell?_of_block (a := ⟨w5.heap.size, 0, none⟩) (hg11.block w5.heap.size (by omega) (fun e => by have := lt_x0.out _ e.symm; omega))).trans cs1_0_10; clear cs1_0_10
  have zs1_11 : w5.heap.size < w11.heap.size := by omega
  have bc_w0_11 : Below w4.heap.size w4 w11 := bc_w0_10.trans (hb11.mono (by omega))
  have o_sp0_11 := o_sp0_10.kept hg11 (own_apart (by exact lt_sp0.out) (by exact lt_x0.out) (by omega))
  have o_w0_11 := o_w0_10.kept hg11 (own_apart (by exact lt_w0.out) (by exact lt_x0.out) (by omega))
  have o_g0_11 := o_g0_10.kept hg11 (own_apart (by exact lt_g0.out) (by exact lt_x0.out) (by omega))
  go_wp2_with fail
  refine (eqIntS_same _ _ _ _ _ _ _ _ (Rd.of_own o_g0_11) (Rd.of_own o_w0_11) (by omega) (by omega)).mono ?_; rintro e w12 ⟨rfl, hb12⟩; have s12 := hb12.size
  have bw12 : Below w.heap.size w w12 := bcall bw11.size hb12 bw11
  have q12 := bw12.size
  have o_sp0_12 := own_later o_sp0_11 hb12 (Nat.le_refl _)
  have o_w0_12 := own_later o_w0_11 hb12 (Nat.le_refl _)
  have o_x0_12 := own_later o_x0_11 hb12 (Nat.le_refl _)
  have o_g0_12 := own_later o_g0_11 hb12 (Nat.le_refl _)
  have bc_w0_12 : Below w4.heap.size w4 w12 := bc_w0_11.trans (hb12.mono (by omega))
  have cs0_0_12 := (hb12.cell (p := ⟨w.heap.size, 0, none⟩) (by show w.heap.size < w11.heap.size; omega)).trans cs0_0_11; clear cs0_0_11
  have zs0_12 : w.heap.size < w12.heap.size := by omega
  have cs1_0_12 := (hb12.cell (p := ⟨w5.heap.size, 0, none⟩) (by show w5.heap.size < w11.heap.size; omega)).trans cs1_0_11; clear cs1_0_11
  have zs1_12 : w5.heap.size < w12.heap.size := by omega
  go_wp2_with fail
  refine (markIntS_any _ _ _ _ _ _ _ o_g0_12 (by omega) (by omega) (by omega)).mono ?_; rintro e w13 ⟨rfl, o_g0_13, hb13, hg13⟩; have s13 := hb13.size
  have m13 : w12.heap.size ≤ w13.heap.size := hg13.size
  have bw13 : Below w.heap.size w w13 := bw12.trans (hb13.mono (by omega))
  have q13 := bw13.size
  have cs0_0_13 := (World.cell?_of_block (a := ⟨w.heap.size, 0, none⟩) (hg13.block w.heap.size (by omega) (fun e => by have := lt_g0.out _ e.symm; omega))).trans cs0_0_12; clear cs0_0_12
  have zs0_13 : w.heap.size < w13.heap.size := by omega
  have cs1_0_13 := (World.cell?_of_block (a := ⟨w5.heap.size, 0, none⟩) (hg13.block w5.heap.size (by omega) (fun e => by have := lt_g0.out _ e.symm; omega))).trans cs1_0_12; clear cs1_0_12
  have zs1_13 : w5.heap.size < w13.heap.size := by omega
  have bc_w0_13 : Below w4.heap.size w4 w13 := bc_w0_12.trans (hb13.mono (by omega))
  have o_sp0_13 := o_sp0_12.kept hg13 (own_apart (by exact lt_sp0.out) (by exact lt_g0.out) (by omega))
  have o_w0_13 := o_w0_12.kept hg13 (own_apart (by exact lt_w0.out) (by exact lt_g0.out) (by omega))
  have o_x0_13 := o_x0_12.kept hg13 (own_apart (by exact lt_x0.out) (by exact lt_g0.out) (by omega))
  go_wp2_with fail
  refine (heldIntS_any _ _ _ _ _ (Rd.of_own o_g0_13) (by omega) (by omega) (by omega)).mono ?_; rintro e wx ⟨rfl, rfl⟩
  go_wp2_with fail
  refine (toPuzzle_any _ _ _ l_aP _ (rd_aP.later bw13 (Nat.le_refl _)) hn2_aP).mono ?_; rintro e w14 ⟨g_ag0, rfl, o_ag0_14, hb14⟩; have s14 := hb14.size
  have bw14 : Below w.heap.size w w14 := bcall bw13.size hb14 bw13
  have q14 := bw14.size
  have o_sp0_14 := own_later o_sp0_13 hb14 (Nat.le_refl _)
  have o_w0_14 := own_later o_w0_13 hb14 (Nat.le_refl _)
  have o_x0_14 := own_later o_x0_13 hb14 (Nat.le_refl _)
  have o_g0_14 := own_later o_g0_13 hb14 (Nat.le_refl _)
  have bc_w0_14 : Below w4.heap.size w4 w14 := bc_w0_13.trans (hb14.mono (by omega))
  have cs0_0_14 := (hb14.cell (p := ⟨w.heap.size, 0, none⟩) (by show w.heap.size < w13.heap.size; omega)).trans cs0_0_13; clear cs0_0_13
  have zs0_14 : w.heap.size < w14.heap.size := by omega
  have cs1_0_14 := (hb14.cell (p := ⟨w5.heap.size, 0, none⟩) (by show w5.heap.size < w13.heap.size; omega)).trans cs1_0_13; clear cs1_0_13
  have zs1_14 : w5.heap.size < w14.heap.size := by omega
  have lt_ag0 := Lib.hid (fun g (h : (Value.slice (some ⟨g_ag0, 0, none⟩) n_aP n_aP).ownBlock = some g) => o_ag0_14.lt g h)
  go_wp2_with fail
  refine (needless_any _ _ _ l_aP _ (Rd.of_own o_ag0_14) (by omega) (by omega) (by omega)).mono ?_; rintro e w15 ⟨A_h0, n_h0, c_h0, rfl, o_h0_15, hb15⟩; have s15 := hb15.size
  have bw15 : Below w.heap.size w w15 := bcall bw14.size hb15 bw14
  have q15 := bw15.size
  have o_sp0_15 := own_later o_sp0_14 hb15 (Nat.le_refl _)
  have o_w0_15 := own_later o_w0_14 hb15 (Nat.le_refl _)
  have o_x0_15 := own_later o_x0_14 hb15 (Nat.le_refl _)
  have o_g0_15 := own_later o_g0_14 hb15 (Nat.le_refl _)
  have o_ag0_15 := own_later o_ag0_14 hb15 (Nat.le_refl _)
  have bc_w0_15 : Below w4.heap.size w4 w15 := bc_w0_14.trans (hb15.mono (by omega))
  have cs0_0_15 := (hb15.cell (p := ⟨w.heap.size, 0, none⟩) (by show w.heap.size < w14.heap.size; omega)).trans cs0_0_14; clear cs0_0_14
  have zs0_15 : w.heap.size < w15.heap.size := by omega
  have cs1_0_15 := (hb15.cell (p := ⟨w5.heap.size, 0, none⟩) (by show w5.heap.size < w14.heap.size; omega)).trans cs1_0_14; clear cs1_0_14
  have zs1_15 : w5.heap.size < w15.heap.size := by omega
  have lt_h0 := Lib.hid (fun g (h : (Value.slice A_h0 n_h0 c_h0).ownBlock = some g) => o_h0_15.lt g h)
  have ln_h0 : n_h0 ≤ 100000000 := by have h := o_h0_15.1; rw [length_intCells] at h; have := length_needR l_aP; omega
  go_wp2_with fail
  refine (eqIntS_same _ _ _ _ _ _ _ _ (Rd.of_own o_h0_15) (Rd.of_own o_w0_15) (by omega) (by omega)).mono ?_; rintro e w16 ⟨rfl, hb16⟩; have s16 := hb16.size
  have bw16 : Below w.heap.size w w16 := bcall bw15.size hb16 bw15
  have q16 := bw16.size
  have o_sp0_16 := own_later o_sp0_15 hb16 (Nat.le_refl _)
  have o_w0_16 := own_later o_w0_15 hb16 (Nat.le_refl _)
  have o_x0_16 := own_later o_x0_15 hb16 (Nat.le_refl _)
  have o_g0_16 := own_later o_g0_15 hb16 (Nat.le_refl _)
  have o_ag0_16 := own_later o_ag0_15 hb16 (Nat.le_refl _)
  have o_h0_16 := own_later o_h0_15 hb16 (Nat.le_refl _)
  have bc_w0_16 : Below w4.heap.size w4 w16 := bc_w0_15.trans (hb16.mono (by omega))
  have cs0_0_16 := (hb16.cell (p := ⟨w.heap.size, 0, none⟩) (by show w.heap.size < w15.heap.size; omega)).trans cs0_0_15; clear cs0_0_15
  have zs0_16 : w.heap.size < w16.heap.size := by omega
  have cs1_0_16 := (hb16.cell (p := ⟨w5.heap.size, 0, none⟩) (by show w5.heap.size < w15.heap.size; omega)).trans cs1_0_15; clear cs1_0_15
  have zs1_16 : w5.heap.size < w16.heap.size := by omega
  go_wp2_with fail
  refine (heldIntS_any _ _ _ _ _ (Rd.of_own o_g0_16) (by omega) (by omega) (by omega)).mono ?_; rintro e wx ⟨rfl, rfl⟩
  go_wp2
  go_ret
  exact ⟨rfl, bw16⟩

theorem own : ownKnob Try.prog.godebug = none := by kernel_rfl
theorem laidOut : laidOutB Try.prog = true := by kernel_rfl

set_option maxRecDepth 100000 in
theorem lifted (os : Os) (started : os.Started) (H : Type) (enc : TypeId × Value → H) :
    ReturnsInHanded {} Try.checked os 11 .any (Rows.fnExactNeedlessCluesSpec.pre6 enc Try.prog Try.f11 Rows.fnExactNeedlessCluesRow.domain false) (Rows.fnExactNeedlessCluesSpec.post enc Try.prog Try.f11 false true false false) := by
  refine returnsInHanded_of_change (C := Try.checked) own started (by kernel_rfl) Try.func11
    (ChangeSpec.witness6 (enc := enc) (C := Try.checked) false ⟨#[], #[.agg #[.slice none 0 0]], []⟩ 8 (by kernel_rfl) (by kernel_rfl) (by kernel_rfl) (by kernel_rfl)) ?_
  intro W base args ds gs before hval0 hW hcnd _
  have hval : ∀ (j : Nat) t v, Try.f11.params[j]? = some t → args[j]? = some v → Value.okWide Try.prog W .any base t v := hval0
  have hW' := hW
  obtain ⟨p, q, hA0, hV, rfl, hfz, hnd⟩ := hW
  have hA : DataW.TrodAll enc Try.prog W 0 (fun _ => true) true Try.f11.params.toList args.toList ds p := hA0
  rw [Try.params11] at hA hval
  obtain ⟨v0, vs0, d0, ds0, p0, q0, hargs, rfl, rfl, h0, r0⟩ := trodAll_cons hA
  obtain ⟨rfl, rfl, rfl⟩ := trodAll_nil r0
  obtain rfl : args = #[v0] := by cases args; simp_all
  obtain ⟨rfl, rfl⟩ := trodVars_none hV
  have k0 := h0
  have lt0 : ∀ x ∈ p0, x.block < W.heap.size := by obtain ⟨m, hm⟩ := k0; exact DataW.trod_lt m _ _ _ hm
  obtain ⟨A0, n0, c0, xs0, rfl, rd0, hl0⟩ := open_puz Try.underlying30 (show Try.prog.cellsOf 30 = 1 by kernel_rfl) rfl rfl (show Try.prog.cellsOf 28 = 1 by kernel_rfl) Try.underlying28 Try.underlying23 (show Try.prog.cellsOf 23 = 3 by kernel_rfl) rfl rfl rfl rfl rfl rfl Try.underlying3 (show Try.prog.cellsOf 3 = 1 by kernel_rfl) (hval 0 30 v0 rfl rfl) h0
  clear hA0 hval0
  refine (walk A0 n0 c0 xs0 W rd0 hl0).mono fun e W' ⟨he, bel⟩ => ?_
  subst he
  exact ⟨_, rfl, _, _, _, [], _, [], hW', trodAll_mk1 (shut_bool Try.underlying4 _), (trodAll_cons_mk (Below.trod laidOut (by kernel_rfl) (of_decide_eq_true (by kernel_rfl)) k0 bel lt0) trodAll_mk0), rfl, bel.frame _, fun h => by cases h⟩

set_option maxHeartbeats 40000000 in
theorem closedF : joinedFacts Try.prog 11 Try.f11 Rows.fnExactNeedlessCluesSpec Rows.fnExactNeedlessCluesRow = true := by
  unfold joinedFacts
  repeat' (with_reducible apply and_t)
  all_goals first | (with_reducible exact mayEnterP) | (rw [liftsP]; kernel_rfl) | (rw [makeP]; kernel_rfl) | (as_aux_lemma => kernel_rfl)

theorem proved : Rows.FnExactNeedlessCluesSaid :=
  OpenClaim.holds_of_wide 11 Try.f11 rfl rfl rfl rfl rfl rfl rfl ⟨rfl, rfl, rfl, rfl, rfl⟩ rfl rfl rfl rfl rfl (by kernel_rfl) Try.func11 closedF
    (of_decide_eq_true (by kernel_rfl)) (by unfold Func.isWrapper; first | (rw [if_pos (by decide +kernel)]; kernel_rfl) | (rw [if_neg (by decide +kernel)]; exact ⟨rfl, rfl⟩))
    (fun os started H enc _ => lifted os started H enc)

#print axioms proved
end Go.Proofs.Ytghlgmbekgfmnaa.lawNeedlessClues
