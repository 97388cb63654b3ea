/-
  Proved: for every puzzle the law's calls of HarderPuzzle answer as the model does, in memory of their own, and leave the arguments alone. Conditions: none.
-/
import Derived.Test.YtghlgmbekgfmnaaPzH
import Derived.Test.YtghlgmbekgfmnaaPuzO
import Derived.Test.YtghlgmbekgfmnaaFacts
import Derived.ProofKit
import Derived.OpenShut
import Derived.Lib.SmallJoins
namespace Go.Proofs.Ytghlgmbekgfmnaa.lawHarderPuzzle
open Go.ChangeShapes Go.WideShapes Go.ChangeAt Go.RowKit Go.Joins Go.Deep
set_option linter.unusedVariables false

set_option maxRecDepth 100000 in
set_option maxHeartbeats 4000000 in
theorem walk (A_aP : Option Addr) (n_aP c_aP : Nat) (l_aP : List (Int × Int × Int)) (w : World) (rd_aP : Rd w 3 A_aP n_aP (boxCells l_aP)) (hn_aP : n_aP ≤ maxLen) :
    Calls Try.prog 16 #[.agg #[.slice A_aP n_aP c_aP]] w fun e w' => e = .returned (.bool true) ∧ Below w.heap.size w w' := by
  go_enter Try.func16, Try.ntmps16
  have bw0 : Below w.heap.size w w := Below.refl _ _
  obtain ⟨w1, hw1⟩ : ∃ wm, wm = w.alloc (.cells #[.slice A_aP n_aP c_aP] 30) := ⟨_, rfl⟩
  have hb1 : Below w.heap.size w w1 := by rw [hw1]; exact (Below.refl _ _).alloc (Nat.le_refl _) _
  have cs0_0_1 : w1.cell? ⟨w.heap.size, 0, none⟩ = some (.slice A_aP n_aP c_aP) := by rw [hw1]; simp [go_sem]
  have s1 : w.heap.size + 1 ≤ w1.heap.size := by rw [hw1]; simp
  have HW1 := Lib.hid hw1; clear hw1
  have bw1 : Below w.heap.size w w1 := bcall bw0.size hb1 bw0
  have q1 := bw1.size
  have zs0_1 : w.heap.size < w1.heap.size := by omega
  have cx1_0_0 : (w.alloc (.cells #[.slice A_aP n_aP c_aP] 30)).cell? ⟨w.heap.size, 0, none⟩ = some (.slice A_aP n_aP c_aP) := by rw [← HW1.out]; exact cs0_0_1
  by_cases hn2_aP : n_aP ≤ 1048576
  case neg =>
    go_wp2_with fail
    rw [← HW1.out]
    refine (szPuzzle_no _ _ _ _ hn_aP hn2_aP).mono ?_; rintro e wx ⟨rfl, hbx⟩
    have hbz := bcall bw1.size hbx bw1
    go_wp2
    go_ret
    exact ⟨rfl, hbz⟩
  go_wp2_with fail
  rw [← HW1.out]
  refine (szPuzzle_yes _ _ _ _ hn2_aP).mono ?_; rintro e w2 ⟨rfl, hb2⟩; have s2 := hb2.size
  have bw2 : Below w.heap.size w w2 := bcall bw1.size hb2 bw1
  have q2 := bw2.size
  have cs0_0_2 := (hb2.cell (p := ⟨w.heap.size, 0, none⟩) (by show w.heap.size < w1.heap.size; omega)).trans cs0_0_1; clear cs0_0_1
  have zs0_2 : w.heap.size < w2.heap.size := by omega
  go_wp2_with fail
  refine (toPuzzle_any _ _ _ l_aP _ (rd_aP.later bw2 (Nat.le_refl _)) hn2_aP).mono ?_; rintro e w3 ⟨g_sp0, rfl, o_sp0_3, hb3⟩; have s3 := hb3.size
  have bw3 : Below w.heap.size w w3 := bcall bw2.size hb3 bw2
  have q3 := bw3.size
  have cs0_0_3 := (hb3.cell (p := ⟨w.heap.size, 0, none⟩) (by show w.heap.size < w2.heap.size; omega)).trans cs0_0_2; clear cs0_0_2
  have zs0_3 : w.heap.size < w3.heap.size := by omega
  have lt_sp0 := Lib.hid (fun g (h : (Value.slice (some ⟨g_sp0, 0, none⟩) n_aP n_aP).ownBlock = some g) => o_sp0_3.lt g h)
  go_wp2_with fail
  refine (sHarder_any _ _ _ l_aP _ (Rd.of_own o_sp0_3) (by omega) (by omega) (by omega)).mono ?_; rintro e w4 ⟨A_w0, n_w0, c_w0, rfl, o_w0_4, hb4⟩; have s4 := hb4.size
  have bw4 : Below w.heap.size w w4 := bcall bw3.size hb4 bw3
  have q4 := bw4.size
  have o_sp0_4 := own_later o_sp0_3 hb4 (Nat.le_refl _)
  have cs0_0_4 := (hb4.cell (p := ⟨w.heap.size, 0, none⟩) (by show w.heap.size < w3.heap.size; omega)).trans cs0_0_3; clear cs0_0_3
  have zs0_4 : w.heap.size < w4.heap.size := by omega
  have bc_w0_4 : Below w4.heap.size w4 w4 := Below.refl _ _; have oc_w0 := Lib.hid o_w0_4
  have lt_w0 := Lib.hid (fun g (h : (Value.slice A_w0 n_w0 c_w0).ownBlock = some g) => o_w0_4.lt g h)
  have ln_w0 : n_w0 ≤ 100000000 := by have h := o_w0_4.1; rw [length_boxCells] at h; have := length_harR l_aP; omega
  obtain ⟨w5, hw5⟩ : ∃ wm, wm = w4.alloc (.cells #[.slice A_w0 n_w0 c_w0] 35) := ⟨_, rfl⟩
  have hb5 : Below w4.heap.size w4 w5 := by rw [hw5]; exact (Below.refl _ _).alloc (Nat.le_refl _) _
  have cs1_0_5 : w5.cell? ⟨w4.heap.size, 0, none⟩ = some (.slice A_w0 n_w0 c_w0) := by rw [hw5]; simp [go_sem]
  have s5 : w4.heap.size + 1 ≤ w5.heap.size := by rw [hw5]; simp
  have HW5 := Lib.hid hw5; clear hw5
  have bw5 : Below w.heap.size w w5 := bcall bw4.size hb5 bw4
  have q5 := bw5.size
  have o_sp0_5 := own_later o_sp0_4 hb5 (Nat.le_refl _)
  have o_w0_5 := own_later o_w0_4 hb5 (Nat.le_refl _)
  have bc_w0_5 : Below w4.heap.size w4 w5 := bc_w0_4.trans (hb5.mono (by omega))
  have cs0_0_5 := (hb5.cell (p := ⟨w.heap.size, 0, none⟩) (by show w.heap.size < w4.heap.size; omega)).trans cs0_0_4; clear cs0_0_4
  have zs0_5 : w.heap.size < w5.heap.size := by omega
  have zs1_5 : w4.heap.size < w5.heap.size := by omega
  have cx5_0_0 : (w4.alloc (.cells #[.slice A_w0 n_w0 c_w0] 35)).cell? ⟨w.heap.size, 0, none⟩ = some (.slice A_aP n_aP c_aP) := by rw [← HW5.out]; exact cs0_0_5
  have cx5_1_0 : (w4.alloc (.cells #[.slice A_w0 n_w0 c_w0] 35)).cell? ⟨w4.heap.size, 0, none⟩ = some (.slice A_w0 n_w0 c_w0) := by rw [← HW5.out]; exact cs1_0_5
  go_wp2_with fail
  rw [← HW5.out]
  refine (toPuzzle_any _ _ _ l_aP _ (rd_aP.later bw5 (Nat.le_refl _)) hn2_aP).mono ?_; rintro e w6 ⟨g_x0, rfl, o_x0_6, hb6⟩; have s6 := hb6.size
  have bw6 : Below w.heap.size w w6 := bcall bw5.size hb6 bw5
  have q6 := bw6.size
  have o_sp0_6 := own_later o_sp0_5 hb6 (Nat.le_refl _)
  have o_w0_6 := own_later o_w0_5 hb6 (Nat.le_refl _)
  have bc_w0_6 : Below w4.heap.size w4 w6 := bc_w0_5.trans (hb6.mono (by omega))
  have cs0_0_6 := (hb6.cell (p := ⟨w.heap.size, 0, none⟩) (by show w.heap.size < w5.heap.size; omega)).trans cs0_0_5; clear cs0_0_5
  have zs0_6 : w.heap.size < w6.heap.size := by omega
  have cs1_0_6 := (hb6.cell (p := ⟨w4.heap.size, 0, none⟩) (by show w4.heap.size < w5.heap.size; omega)).trans cs1_0_5; clear cs1_0_5
  have zs1_6 : w4.heap.size < w6.heap.size := by omega
  have lt_x0 := Lib.hid (fun g (h : (Value.slice (some ⟨g_x0, 0, none⟩) n_aP n_aP).ownBlock = some g) => o_x0_6.lt g h)
  obtain ⟨w7, hw7⟩ : ∃ wm, wm = w6.alloc (.cells #[.slice (some ⟨g_x0, 0, none⟩) n_aP n_aP] 35) := ⟨_, rfl⟩
  have hb7 : Below w6.heap.size w6 w7 := by rw [hw7]; exact (Below.refl _ _).alloc (Nat.le_refl _) _
  have cs2_0_7 : w7.cell? ⟨w6.heap.size, 0, none⟩ = some (.slice (some ⟨g_x0, 0, none⟩) n_aP n_aP) := by rw [hw7]; simp [go_sem]
  have s7 : w6.heap.size + 1 ≤ w7.heap.size := by rw [hw7]; simp
  have HW7 := Lib.hid hw7; clear hw7
  have bw7 : Below w.heap.size w w7 := bcall bw6.size hb7 bw6
  have q7 := bw7.size
  have o_sp0_7 := own_later o_sp0_6 hb7 (Nat.le_refl _)
  have o_w0_7 := own_later o_w0_6 hb7 (Nat.le_refl _)
  have o_x0_7 := own_later o_x0_6 hb7 (Nat.le_refl _)
  have bc_w0_7 : Below w4.heap.size w4 w7 := bc_w0_6.trans (hb7.mono (by omega))
  have cs0_0_7 := (hb7.cell (p := ⟨w.heap.size, 0, none⟩) (by show w.heap.size < w6.heap.size; omega)).trans cs0_0_6; clear cs0_0_6
  have zs0_7 : w.heap.size < w7.heap.size := by omega
  have cs1_0_7 := (hb7.cell (p := ⟨w4.heap.size, 0, none⟩) (by show w4.heap.size < w6.heap.size; omega)).trans cs1_0_6; clear cs1_0_6
  have zs1_7 : w4.heap.size < w7.heap.size := by omega
  have zs2_7 : w6.heap.size < w7.heap.size := by omega
  have cx7_0_0 : (w6.alloc (.cells #[.slice (some ⟨g_x0, 0, none⟩) n_aP n_aP] 35)).cell? ⟨w.heap.size, 0, none⟩ = some (.slice A_aP n_aP c_aP) := by rw [← HW7.out]; exact cs0_0_7
  have cx7_1_0 : (w6.alloc (.cells #[.slice (some ⟨g_x0, 0, none⟩) n_aP n_aP] 35)).cell? ⟨w4.heap.size, 0, none⟩ = some (.slice A_w0 n_w0 c_w0) := by rw [← HW7.out]; exact cs1_0_7
  have cx7_2_0 : (w6.alloc (.cells #[.slice (some ⟨g_x0, 0, none⟩) n_aP n_aP] 35)).cell? ⟨w6.heap.size, 0, none⟩ = some (.slice (some ⟨g_x0, 0, none⟩) n_aP n_aP) := by rw [← HW7.out]; exact cs2_0_7
  go_wp2_with fail
  rw [← HW7.out]
  refine (harder_any _ _ _ l_aP _ (Rd.of_own o_x0_7) (by omega) (by omega) (by omega)).mono ?_; rintro e w8 ⟨A_g0, n_g0, c_g0, rfl, o_g0_8, hb8⟩; have s8 := hb8.size
  have bw8 : Below w.heap.size w w8 := bcall bw7.size hb8 bw7
  have q8 := bw8.size
  have o_sp0_8 := own_later o_sp0_7 hb8 (Nat.le_refl _)
  have o_w0_8 := own_later o_w0_7 hb8 (Nat.le_refl _)
  have o_x0_8 := own_later o_x0_7 hb8 (Nat.le_refl _)
  have bc_w0_8 : Below w4.heap.size w4 w8 := bc_w0_7.trans (hb8.mono (by omega))
  have cs0_0_8 := (hb8.cell (p := ⟨w.heap.size, 0, none⟩) (by show w.heap.size < w7.heap.size; omega)).trans cs0_0_7; clear cs0_0_7
  have zs0_8 : w.heap.size < w8.heap.size := by omega
  have cs1_0_8 := (hb8.cell (p := ⟨w4.heap.size, 0, none⟩) (by show w4.heap.size < w7.heap.size; omega)).trans cs1_0_7; clear cs1_0_7
  have zs1_8 : w4.heap.size < w8.heap.size := by omega
  have cs2_0_8 := (hb8.cell (p := ⟨w6.heap.size, 0, none⟩) (by show w6.heap.size < w7.heap.size; omega)).trans cs2_0_7; clear cs2_0_7
  have zs2_8 : w6.heap.size < w8.heap.size := by omega
  have lt_g0 := Lib.hid (fun g (h : (Value.slice A_g0 n_g0 c_g0).ownBlock = some g) => o_g0_8.lt g h)
  have ln_g0 : n_g0 ≤ 100000000 := by have h := o_g0_8.1; rw [length_boxCells] at h; have := length_harR l_aP; omega
  obtain ⟨w9, hw9⟩ : ∃ wm, wm = w8.alloc (.cells #[.slice A_g0 n_g0 c_g0] 35) := ⟨_, rfl⟩
  have hb9 : Below w8.heap.size w8 w9 := by rw [hw9]; exact (Below.refl _ _).alloc (Nat.le_refl _) _
  have cs3_0_9 : w9.cell? ⟨w8.heap.size, 0, none⟩ = some (.slice A_g0 n_g0 c_g0) := by rw [hw9]; simp [go_sem]
  have s9 : w8.heap.size + 1 ≤ w9.heap.size := by rw [hw9]; simp
  have HW9 := Lib.hid hw9; clear hw9
  have bw9 : Below w.heap.size w w9 := bcall bw8.size hb9 bw8
  have q9 := bw9.size
  have o_sp0_9 := own_later o_sp0_8 hb9 (Nat.le_refl _)
  have o_w0_9 := own_later o_w0_8 hb9 (Nat.le_refl _)
  have o_x0_9 := own_later o_x0_8 hb9 (Nat.le_refl _)
  have o_g0_9 := own_later o_g0_8 hb9 (Nat.le_refl _)
  have bc_w0_9 : Below w4.heap.size w4 w9 := bc_w0_8.trans (hb9.mono (by omega))
  have cs0_0_9 := (hb9.cell (p := ⟨w.heap.size, 0, none⟩) (by show w.heap.size < w8.heap.size; omega)).trans cs0_0_8; clear cs0_0_8
  have zs0_9 : w.heap.size < w9.heap.size := by omega
  have cs1_0_9 := (hb9.cell (p := ⟨w4.heap.size, 0, none⟩) (by show w4.heap.size < w8.heap.size; omega)).trans cs1_0_8; clear cs1_0_8
  have zs1_9 : w4.heap.size < w9.heap.size := by omega
  have cs2_0_9 := (hb9.cell (p := ⟨w6.heap.size, 0, none⟩) (by show w6.heap.size < w8.heap.size; omega)).trans cs2_0_8; clear cs2_0_8
  have zs2_9 : w6.heap.size < w9.heap.size := by omega
  have zs3_9 : w8.heap.size < w9.heap.size := by omega
  have cx9_0_0 : (w8.alloc (.cells #[.slice A_g0 n_g0 c_g0] 35)).cell? ⟨w.heap.size, 0, none⟩ = some (.slice A_aP n_aP c_aP) := by rw [← HW9.out]; exact cs0_0_9
  have cx9_1_0 : (w8.alloc (.cells #[.slice A_g0 n_g0 c_g0] 35)).cell? ⟨w4.heap.size, 0, none⟩ = some (.slice A_w0 n_w0 c_w0) := by rw [← HW9.out]; exact cs1_0_9
  have cx9_2_0 : (w8.alloc (.cells #[.slice A_g0 n_g0 c_g0] 35)).cell? ⟨w6.heap.size, 0, none⟩ = some (.slice (some ⟨g_x0, 0, none⟩) n_aP n_aP) := by rw [← HW9.out]; exact cs2_0_9
  have cx9_3_0 : (w8.alloc (.cells #[.slice A_g0 n_g0 c_g0] 35)).cell? ⟨w8.heap.size, 0, none⟩ = some (.slice A_g0 n_g0 c_g0) := by rw [← HW9.out]; exact cs3_0_9
  go_wp2_with fail
  rw [← HW9.out]
  refine (eqPuzzle_same _ _ _ _ _ _ _ _ (Rd.of_own o_g0_9) (Rd.of_own o_w0_9) (by omega) (by omega)).mono ?_; rintro e w10 ⟨rfl, hb10⟩; have s10 := hb10.size
  have bw10 : Below w.heap.size w w10 := bcall bw9.size hb10 bw9
  have q10 := bw10.size
  have o_sp0_10 := own_later o_sp0_9 hb10 (Nat.le_refl _)
  have o_w0_10 := own_later o_w0_9 hb10 (Nat.le_refl _)
  have o_x0_10 := own_later o_x0_9 hb10 (Nat.le_refl _)
  have o_g0_10 := own_later o_g0_9 hb10 (Nat.le_refl _)
  have bc_w0_10 : Below w4.heap.size w4 w10 := bc_w0_9.trans (hb10.mono (by omega))
  have cs0_0_10 := (hb10.cell (p := ⟨w.heap.size, 0, none⟩) (by show w.heap.size < w9.heap.size; omega)).trans cs0_0_9; clear cs0_0_9
  have zs0_10 : w.heap.size < w10.heap.size := by omega
  have cs1_0_10 := (hb10.cell (p := ⟨w4.heap.size, 0, none⟩) (by show w4.heap.size < w9.heap.size; omega)).trans cs1_0_9; clear cs1_0_9
  have zs1_10 : w4.heap.size < w10.heap.size := by omega
  have cs2_0_10 := (hb10.cell (p := ⟨w6.heap.size, 0, none⟩) (by show w6.heap.size < w9.heap.size; omega)).trans cs2_0_9; clear cs2_0_9
  have zs2_10 : w6.heap.size < w10.heap.size := by omega
  have cs3_0_10 := (hb10.cell (p := ⟨w8.heap.size, 0, none⟩) (by show w8.heap.size < w9.heap.size; omega)).trans cs3_0_9; clear cs3_0_9
  have zs3_10 : w8.heap.size < w10.heap.size := by omega
  go_wp2
  refine wp_region_held_drew (S := (fun w' => w'.cell? ⟨w.heap.size, 0, none⟩ = some (.slice A_aP n_aP c_aP) ∧ w'.cell? ⟨w6.heap.size, 0, none⟩ = some (.slice (some ⟨g_x0, 0, none⟩) n_aP n_aP))) (by kernel_rfl) ?_ (fun hHeld => ?_)
  · ((try dsimp only); (repeat' apply And.intro); all_goals ((repeat (first | (with_reducible refine cell_drew ?_) | (with_reducible refine cell_drewN _ ?_) | ((with_reducible refine cell_alloc ?_ ?_); · first | omega | (simp; done) | (simp; omega) | assumption) | ((with_reducible refine cell_set ?_ ?_); · first | (intro e; injection e; omega) | (intro e; simp at e; done) | (intro e; simp at e; omega)))); first | assumption | (simp; done)))
  refine reg_on (i := 0) (d := 41) (v := ?rv1) rfl rfl (by kernel_rfl) (by kernel_rfl) (by kernel_rfl) (fun _ _ _ h => h) (by rfl) ?ry1 (by assumption) ?rr1
  case ry1 => (intro wz hSw; (try dsimp only at hSw); go_simp; try with_reducible rfl)
  (try simp only [Act.put, List.setIfInBounds_toArray, List.set_cons_zero, List.set_cons_succ])
  refine reg_on (i := 1) (d := 42) (v := ?rv2) rfl rfl (by kernel_rfl) (by kernel_rfl) (by kernel_rfl) (fun _ _ _ h => h) (by rfl) ?ry2 (by assumption) ?rr2
  case ry2 => (intro wz hSw; (try dsimp only at hSw); go_simp; try with_reducible rfl)
  (try simp only [Act.put, List.setIfInBounds_toArray, List.set_cons_zero, List.set_cons_succ])
  refine wpAnyH_ready (rs := [2]) (by kernel_rfl) (by simp) ?_
  refine AllReadyH.cons rfl (fun K hK => ?_) AllReadyH.nil
  go_simp
  go_at_call 23; refine (toPuzzle_any _ _ _ l_aP _ (by exact (rd_aP.later bw10 (Nat.le_refl _)).later (Below.refl _ _).drew (Nat.le_refl _)) hn2_aP).mono ?_; rintro e w11 ⟨g_cy10, rfl, o_cy10_11, hb11⟩; have s11 := hb11.size; (try simp at s11); have d11_0 : w11.cell? ⟨w.heap.size, 0, none⟩ = some (.slice A_aP n_aP c_aP) := (hb11.cell (p := ⟨w.heap.size, 0, none⟩) (by first | omega | (simp; omega))).trans (by first | assumption | (go_split_ands; assumption)); have d11_1 : w11.cell? ⟨w6.heap.size, 0, none⟩ = some (.slice (some ⟨g_x0, 0, none⟩) n_aP n_aP) := (hb11.cell (p := ⟨w6.heap.size, 0, none⟩) (by first | omega | (simp; omega))).trans (by first | assumption | (go_split_ands; assumption))
  refine hK.out _ _ ?_ (fun hHeld => ?_)
  · ((try dsimp only); (repeat' apply And.intro); all_goals ((repeat (first | (with_reducible refine cell_drew ?_) | (with_reducible refine cell_drewN _ ?_) | ((with_reducible refine cell_alloc ?_ ?_); · first | omega | (simp; done) | (simp; omega) | assumption) | ((with_reducible refine cell_set ?_ ?_); · first | (intro e; injection e; omega) | (intro e; simp at e; done) | (intro e; simp at e; omega)))); first | assumption | (simp; done)))
  clear hK K
  (try simp only [Act.put, List.setIfInBounds_toArray, List.set_cons_zero, List.set_cons_succ])
  refine wpAnyH_ready (rs := [3]) (by kernel_rfl) (by simp) ?_
  refine AllReadyH.cons rfl (fun K hK => ?_) AllReadyH.nil
  go_simp
  go_at_call 25; refine (eqPuzzle_same _ _ _ _ _ _ _ _ (Rd.of_own (own_later (own_later o_x0_10 (Below.refl _ _).drew (Nat.le_refl _)) hb11 (Nat.le_refl _))) (Rd.of_own (by exact o_cy10_11)) (by omega) (by omega)).mono ?_; rintro e w12 ⟨rfl, hb12⟩; have s12 := hb12.size; (try simp at s12); have d12_0 : w12.cell? ⟨w.heap.size, 0, none⟩ = some (.slice A_aP n_aP c_aP) := (hb12.cell (p := ⟨w.heap.size, 0, none⟩) (by first | omega | (simp; omega))).trans (by first | assumption | (go_split_ands; assumption)); have d12_1 : w12.cell? ⟨w6.heap.size, 0, none⟩ = some (.slice (some ⟨g_x0, 0, none⟩) n_aP n_aP) := (hb12.cell (p := ⟨w6.heap.size, 0, none⟩) (by first | omega | (simp; omega))).trans (by first | assumption | (go_split_ands; assumption))
  refine hK.out _ _ ?_ (fun hHeld => ?_)
  · ((try dsimp only); (repeat' apply And.intro); all_goals ((repeat (first | (with_reducible refine cell_drew ?_) | (with_reducible refine cell_drewN _ ?_) | ((with_reducible refine cell_alloc ?_ ?_); · first | omega | (simp; done) | (simp; omega) | assumption) | ((with_reducible refine cell_set ?_ ?_); · first | (intro e; injection e; omega) | (intro e; simp at e; done) | (intro e; simp at e; omega)))); first | assumption | (simp; done)))
  clear hK K
  (try simp only [Act.put, List.setIfInBounds_toArray, List.set_cons_zero, List.set_cons_succ])
  refine reg_on (i := 4) (d := 45) (v := ?rv5) rfl rfl (by kernel_rfl) (by kernel_rfl) (by kernel_rfl) (fun _ _ _ h => h) (by rfl) ?ry5 (by assumption) ?rr5
  case ry5 => (intro wz hSw; (try dsimp only at hSw); go_simp; try with_reducible rfl)
  (try simp only [Act.put, List.setIfInBounds_toArray, List.set_cons_zero, List.set_cons_succ])
  refine wpAnyH_done (by kernel_rfl) ?_ _
  have bwd10 := bw10.drew
  have hbd10 : Below w10.heap.size w10 w11 := ((Below.refl _ _).drew).trans hb11
  replace hb12 := hbd10.trans (hb12.mono s11)
  replace s12 := hb12.size
  have bw12 : Below w.heap.size w w12 := bcall bw10.size hb12 bw10
  have q12 := bw12.size
  have o_sp0_12 := own_later o_sp0_10 hb12 (Nat.le_refl _)
  have o_w0_12 := own_later o_w0_10 hb12 (Nat.le_refl _)
  have o_x0_12 := own_later o_x0_10 hb12 (Nat.le_refl _)
  have o_g0_12 := own_later o_g0_10 hb12 (Nat.le_refl _)
  have bc_w0_12 : Below w4.heap.size w4 w12 := bc_w0_10.trans (hb12.mono (by omega))
  have cs0_0_12 := (hb12.cell (p := ⟨w.heap.size, 0, none⟩) (by show w.heap.size < w10.heap.size; omega)).trans cs0_0_10; clear cs0_0_10
  have zs0_12 : w.heap.size < w12.heap.size := by omega
  have cs1_0_12 := (hb12.cell (p := ⟨w4.heap.size, 0, none⟩) (by show w4.heap.size < w10.heap.size; omega)).trans cs1_0_10; clear cs1_0_10
  have zs1_12 : w4.heap.size < w12.heap.size := by omega
  have cs2_0_12 := (hb12.cell (p := ⟨w6.heap.size, 0, none⟩) (by show w6.heap.size < w10.heap.size; omega)).trans cs2_0_10; clear cs2_0_10
  have zs2_12 : w6.heap.size < w12.heap.size := by omega
  have cs3_0_12 := (hb12.cell (p := ⟨w8.heap.size, 0, none⟩) (by show w8.heap.size < w10.heap.size; omega)).trans cs3_0_10; clear cs3_0_10
  have zs3_12 : w8.heap.size < w12.heap.size := by omega
  go_wp2_with fail
  refine (markPuzzle_g _ _ _ _ _ _ _ o_x0_12 (by omega) (by omega) (by omega)).mono ?_; rintro e w13 ⟨rfl, o_x0_13, hb13, hg13⟩; have s13 := hb13.size
  have m13 : w12.heap.size ≤ w13.heap.size := hg13.size
  have bw13 : Below w.heap.size w w13 := bw12.trans (hb13.mono (by omega))
  have q13 := bw13.size
  have cs0_0_13 := (World.cell?_of_block (a := ⟨w.heap.size, 0, none⟩) (hg13.block w.heap.size (by omega) (fun e => by have := lt_x0.out _ e.symm; omega))).trans cs0_0_12; clear cs0_0_12
  have zs0_13 : w.heap.size < w13.heap.size := by omega
  have cs1_0_13 := (World.cell?_of_block (a := ⟨w4.heap.size, 0, none⟩) (hg13.block w4.heap.size (by omega) (fun e => by have := lt_x0.out _ e.symm; omega))).trans cs1_0_12; clear cs1_0_12
  have zs1_13 : w4.heap.size < w13.heap.size := by omega
  have cs2_0_13 := (World.cell?_of_block (a := ⟨w6.heap.size, 0, none⟩) (hg13.block w6.heap.size (by omega) (fun e => by have := lt_x0.out _ e.symm; omega))).trans cs2_0_12; clear cs2_0_12
  have zs2_13 : w6.heap.size < w13.heap.size := by omega
  have cs3_0_13 := (World.cell?_of_block (a := ⟨w8.heap.size, 0, none⟩) (hg13.block w8.heap.size (by omega) (fun e => by have := lt_x0.out _ e.symm; omega))).trans cs3_0_12; clear cs3_0_12
  have zs3_13 : w8.heap.size < w13.heap.size := by omega
  have bc_w0_13 : Below w4.heap.size w4 w13 := bc_w0_12.trans (hb13.mono (by omega))
  have o_sp0_13 := o_sp0_12.kept hg13 (own_apart (by exact lt_sp0.out) (by exact lt_x0.out) (by omega))
  have o_w0_13 := o_w0_12.kept hg13 (own_apart (by exact lt_w0.out) (by exact lt_x0.out) (by omega))
  have o_g0_13 := o_g0_12.kept hg13 (own_apart (by exact lt_g0.out) (by exact lt_x0.out) (by omega))
  go_wp2_with fail
  refine (eqPuzzle_same _ _ _ _ _ _ _ _ (Rd.of_own o_g0_13) (Rd.of_own o_w0_13) (by omega) (by omega)).mono ?_; rintro e w14 ⟨rfl, hb14⟩; have s14 := hb14.size
  have bw14 : Below w.heap.size w w14 := bcall bw13.size hb14 bw13
  have q14 := bw14.size
  have o_sp0_14 := own_later o_sp0_13 hb14 (Nat.le_refl _)
  have o_w0_14 := own_later o_w0_13 hb14 (Nat.le_refl _)
  have o_x0_14 := own_later o_x0_13 hb14 (Nat.le_refl _)
  have o_g0_14 := own_later o_g0_13 hb14 (Nat.le_refl _)
  have bc_w0_14 : Below w4.heap.size w4 w14 := bc_w0_13.trans (hb14.mono (by omega))
  have cs0_0_14 := (hb14.cell (p := ⟨w.heap.size, 0, none⟩) (by show w.heap.size < w13.heap.size; omega)).trans cs0_0_13; clear cs0_0_13
  have zs0_14 : w.heap.size < w14.heap.size := by omega
  have cs1_0_14 := (hb14.cell (p := ⟨w4.heap.size, 0, none⟩) (by show w4.heap.size < w13.heap.size; omega)).trans cs1_0_13; clear cs1_0_13
  have zs1_14 : w4.heap.size < w14.heap.size := by omega
  have cs2_0_14 := (hb14.cell (p := ⟨w6.heap.size, 0, none⟩) (by show w6.heap.size < w13.heap.size; omega)).trans cs2_0_13; clear cs2_0_13
  have zs2_14 : w6.heap.size < w14.heap.size := by omega
  have cs3_0_14 := (hb14.cell (p := ⟨w8.heap.size, 0, none⟩) (by show w8.heap.size < w13.heap.size; omega)).trans cs3_0_13; clear cs3_0_13
  have zs3_14 : w8.heap.size < w14.heap.size := by omega
  go_wp2_with fail
  refine (markPuzzle_g _ _ _ _ _ _ _ o_g0_14 (by omega) (by omega) (by omega)).mono ?_; rintro e w15 ⟨rfl, o_g0_15, hb15, hg15⟩; have s15 := hb15.size
  have m15 : w14.heap.size ≤ w15.heap.size := hg15.size
  have bw15 : Below w.heap.size w w15 := bw14.trans (hb15.mono (by omega))
  have q15 := bw15.size
  have cs0_0_15 := (World.cell?_of_block (a := ⟨w.heap.size, 0, none⟩) (hg15.block w.heap.size (by omega) (fun e => by have := lt_g0.out _ e.symm; omega))).trans cs0_0_14; clear cs0_0_14
  have zs0_15 : w.heap.size < w15.heap.size := by omega
  have cs1_0_15 := (World.cell?_of_block (a := ⟨w4.heap.size, 0, none⟩) (hg15.block w4.heap.size (by omega) (fun e => by have := lt_g0.out _ e.symm; omega))).trans cs1_0_14; clear cs1_0_14
  have zs1_15 : w4.heap.size < w15.heap.size := by omega
  have cs2_0_15 := (World.cell?_of_block (a := ⟨w6.heap.size, 0, none⟩) (hg15.block w6.heap.size (by omega) (fun e => by have := lt_g0.out _ e.symm; omega))).trans cs2_0_14; clear cs2_0_14
  have zs2_15 : w6.heap.size < w15.heap.size := by omega
  have cs3_0_15 := (World.cell?_of_block (a := ⟨w8.heap.size, 0, none⟩) (hg15.block w8.heap.size (by omega) (fun e => by have := lt_g0.out _ e.symm; omega))).trans cs3_0_14; clear cs3_0_14
  have zs3_15 : w8.heap.size < w15.heap.size := by omega
  have bc_w0_15 : Below w4.heap.size w4 w15 := bc_w0_14.trans (hb15.mono (by omega))
  have o_sp0_15 := o_sp0_14.kept hg15 (own_apart (by exact lt_sp0.out) (by exact lt_g0.out) (by omega))
  have o_w0_15 := o_w0_14.kept hg15 (own_apart (by exact lt_w0.out) (by exact lt_g0.out) (by omega))
  have o_x0_15 := o_x0_14.kept hg15 (own_apart (by exact lt_x0.out) (by exact lt_g0.out) (by omega))
  go_wp2_with fail
  refine (heldPuzzle_any _ _ _ _ _ (Rd.of_own o_g0_15) (by omega) (by omega) (by omega)).mono ?_; rintro e w16 ⟨rfl, hb16⟩; have s16 := hb16.size
  have bw16 : Below w.heap.size w w16 := bcall bw15.size hb16 bw15
  have q16 := bw16.size
  have o_sp0_16 := own_later o_sp0_15 hb16 (Nat.le_refl _)
  have o_w0_16 := own_later o_w0_15 hb16 (Nat.le_refl _)
  have o_x0_16 := own_later o_x0_15 hb16 (Nat.le_refl _)
  have o_g0_16 := own_later o_g0_15 hb16 (Nat.le_refl _)
  have bc_w0_16 : Below w4.heap.size w4 w16 := bc_w0_15.trans (hb16.mono (by omega))
  have cs0_0_16 := (hb16.cell (p := ⟨w.heap.size, 0, none⟩) (by show w.heap.size < w15.heap.size; omega)).trans cs0_0_15; clear cs0_0_15
  have zs0_16 : w.heap.size < w16.heap.size := by omega
  have cs1_0_16 := (hb16.cell (p := ⟨w4.heap.size, 0, none⟩) (by show w4.heap.size < w15.heap.size; omega)).trans cs1_0_15; clear cs1_0_15
  have zs1_16 : w4.heap.size < w16.heap.size := by omega
  have cs2_0_16 := (hb16.cell (p := ⟨w6.heap.size, 0, none⟩) (by show w6.heap.size < w15.heap.size; omega)).trans cs2_0_15; clear cs2_0_15
  have zs2_16 : w6.heap.size < w16.heap.size := by omega
  have cs3_0_16 := (hb16.cell (p := ⟨w8.heap.size, 0, none⟩) (by show w8.heap.size < w15.heap.size; omega)).trans cs3_0_15; clear cs3_0_15
  have zs3_16 : w8.heap.size < w16.heap.size := by omega
  go_wp2_with fail
  refine (toPuzzle_any _ _ _ l_aP _ (rd_aP.later bw16 (Nat.le_refl _)) hn2_aP).mono ?_; rintro e w17 ⟨g_ag0, rfl, o_ag0_17, hb17⟩; have s17 := hb17.size
  have bw17 : Below w.heap.size w w17 := bcall bw16.size hb17 bw16
  have q17 := bw17.size
  have o_sp0_17 := own_later o_sp0_16 hb17 (Nat.le_refl _)
  have o_w0_17 := own_later o_w0_16 hb17 (Nat.le_refl _)
  have o_x0_17 := own_later o_x0_16 hb17 (Nat.le_refl _)
  have o_g0_17 := own_later o_g0_16 hb17 (Nat.le_refl _)
  have bc_w0_17 : Below w4.heap.size w4 w17 := bc_w0_16.trans (hb17.mono (by omega))
  have cs0_0_17 := (hb17.cell (p := ⟨w.heap.size, 0, none⟩) (by show w.heap.size < w16.heap.size; omega)).trans cs0_0_16; clear cs0_0_16
  have zs0_17 : w.heap.size < w17.heap.size := by omega
  have cs1_0_17 := (hb17.cell (p := ⟨w4.heap.size, 0, none⟩) (by show w4.heap.size < w16.heap.size; omega)).trans cs1_0_16; clear cs1_0_16
  have zs1_17 : w4.heap.size < w17.heap.size := by omega
  have cs2_0_17 := (hb17.cell (p := ⟨w6.heap.size, 0, none⟩) (by show w6.heap.size < w16.heap.size; omega)).trans cs2_0_16; clear cs2_0_16
  have zs2_17 : w6.heap.size < w17.heap.size := by omega
  have cs3_0_17 := (hb17.cell (p := ⟨w8.heap.size, 0, none⟩) (by show w8.heap.size < w16.heap.size; omega)).trans cs3_0_16; clear cs3_0_16
  have zs3_17 : w8.heap.size < w17.heap.size := by omega
  have lt_ag0 := Lib.hid (fun g (h : (Value.slice (some ⟨g_ag0, 0, none⟩) n_aP n_aP).ownBlock = some g) => o_ag0_17.lt g h)
  go_wp2_with fail
  refine (harder_any _ _ _ l_aP _ (Rd.of_own o_ag0_17) (by omega) (by omega) (by omega)).mono ?_; rintro e w18 ⟨A_h0, n_h0, c_h0, rfl, o_h0_18, hb18⟩; have s18 := hb18.size
  have bw18 : Below w.heap.size w w18 := bcall bw17.size hb18 bw17
  have q18 := bw18.size
  have o_sp0_18 := own_later o_sp0_17 hb18 (Nat.le_refl _)
  have o_w0_18 := own_later o_w0_17 hb18 (Nat.le_refl _)
  have o_x0_18 := own_later o_x0_17 hb18 (Nat.le_refl _)
  have o_g0_18 := own_later o_g0_17 hb18 (Nat.le_refl _)
  have o_ag0_18 := own_later o_ag0_17 hb18 (Nat.le_refl _)
  have bc_w0_18 : Below w4.heap.size w4 w18 := bc_w0_17.trans (hb18.mono (by omega))
  have cs0_0_18 := (hb18.cell (p := ⟨w.heap.size, 0, none⟩) (by show w.heap.size < w17.heap.size; omega)).trans cs0_0_17; clear cs0_0_17
  have zs0_18 : w.heap.size < w18.heap.size := by omega
  have cs1_0_18 := (hb18.cell (p := ⟨w4.heap.size, 0, none⟩) (by show w4.heap.size < w17.heap.size; omega)).trans cs1_0_17; clear cs1_0_17
  have zs1_18 : w4.heap.size < w18.heap.size := by omega
  have cs2_0_18 := (hb18.cell (p := ⟨w6.heap.size, 0, none⟩) (by show w6.heap.size < w17.heap.size; omega)).trans cs2_0_17; clear cs2_0_17
  have zs2_18 : w6.heap.size < w18.heap.size := by omega
  have cs3_0_18 := (hb18.cell (p := ⟨w8.heap.size, 0, none⟩) (by show w8.heap.size < w17.heap.size; omega)).trans cs3_0_17; clear cs3_0_17
  have zs3_18 : w8.heap.size < w18.heap.size := by omega
  have lt_h0 := Lib.hid (fun g (h : (Value.slice A_h0 n_h0 c_h0).ownBlock = some g) => o_h0_18.lt g h)
  have ln_h0 : n_h0 ≤ 100000000 := by have h := o_h0_18.1; rw [length_boxCells] at h; have := length_harR l_aP; omega
  obtain ⟨w19, hw19⟩ : ∃ wm, wm = w18.alloc (.cells #[.slice A_h0 n_h0 c_h0] 35) := ⟨_, rfl⟩
  have hb19 : Below w18.heap.size w18 w19 := by rw [hw19]; exact (Below.refl _ _).alloc (Nat.le_refl _) _
  have cs4_0_19 : w19.cell? ⟨w18.heap.size, 0, none⟩ = some (.slice A_h0 n_h0 c_h0) := by rw [hw19]; simp [go_sem]
  have s19 : w18.heap.size + 1 ≤ w19.heap.size := by rw [hw19]; simp
  have HW19 := Lib.hid hw19; clear hw19
  have bw19 : Below w.heap.size w w19 := bcall bw18.size hb19 bw18
  have q19 := bw19.size
  have o_sp0_19 := own_later o_sp0_18 hb19 (Nat.le_refl _)
  have o_w0_19 := own_later o_w0_18 hb19 (Nat.le_refl _)
  have o_x0_19 := own_later o_x0_18 hb19 (Nat.le_refl _)
  have o_g0_19 := own_later o_g0_18 hb19 (Nat.le_refl _)
  have o_ag0_19 := own_later o_ag0_18 hb19 (Nat.le_refl _)
  have o_h0_19 := own_later o_h0_18 hb19 (Nat.le_refl _)
  have bc_w0_19 : Below w4.heap.size w4 w19 := bc_w0_18.trans (hb19.mono (by omega))
  have cs0_0_19 := (hb19.cell (p := ⟨w.heap.size, 0, none⟩) (by show w.heap.size < w18.heap.size; omega)).trans cs0_0_18; clear cs0_0_18
  have zs0_19 : w.heap.size < w19.heap.size := by omega
  have cs1_0_19 := (hb19.cell (p := ⟨w4.heap.size, 0, none⟩) (by show w4.heap.size < w18.heap.size; omega)).trans cs1_0_18; clear cs1_0_18
  have zs1_19 : w4.heap.size < w19.heap.size := by omega
  have cs2_0_19 := (hb19.cell (p := ⟨w6.heap.size, 0, none⟩) (by show w6.heap.size < w18.heap.size; omega)).trans cs2_0_18; clear cs2_0_18
  have zs2_19 : w6.heap.size < w19.heap.size := by omega
  have cs3_0_19 := (hb19.cell (p := ⟨w8.heap.size, 0, none⟩) (by show w8.heap.size < w18.heap.size; omega)).trans cs3_0_18; clear cs3_0_18
  have zs3_19 : w8.heap.size < w19.heap.size := by omega
  have zs4_19 : w18.heap.size < w19.heap.size := by omega
  have cx19_0_0 : (w18.alloc (.cells #[.slice A_h0 n_h0 c_h0] 35)).cell? ⟨w.heap.size, 0, none⟩ = some (.slice A_aP n_aP c_aP) := by rw [← HW19.out]; exact cs0_0_19
  have cx19_1_0 : (w18.alloc (.cells #[.slice A_h0 n_h0 c_h0] 35)).cell? ⟨w4.heap.size, 0, none⟩ = some (.slice A_w0 n_w0 c_w0) := by rw [← HW19.out]; exact cs1_0_19
  have cx19_2_0 : (w18.alloc (.cells #[.slice A_h0 n_h0 c_h0] 35)).cell? ⟨w6.heap.size, 0, none⟩ = some (.slice (some ⟨g_x0, 0, none⟩) n_aP n_aP) := by rw [← HW19.out]; exact cs2_0_19
  have cx19_3_0 : (w18.alloc (.cells #[.slice A_h0 n_h0 c_h0] 35)).cell? ⟨w8.heap.size, 0, none⟩ = some (.slice A_g0 n_g0 c_g0) := by rw [← HW19.out]; exact cs3_0_19
  have cx19_4_0 : (w18.alloc (.cells #[.slice A_h0 n_h0 c_h0] 35)).cell? ⟨w18.heap.size, 0, none⟩ = some (.slice A_h0 n_h0 c_h0) := by rw [← HW19.out]; exact cs4_0_19
  go_wp2_with fail
  rw [← HW19.out]
  refine (eqPuzzle_same _ _ _ _ _ _ _ _ (Rd.of_own o_h0_19) (Rd.of_own o_w0_19) (by omega) (by omega)).mono ?_; rintro e w20 ⟨rfl, hb20⟩; have s20 := hb20.size
  have bw20 : Below w.heap.size w w20 := bcall bw19.size hb20 bw19
  have q20 := bw20.size
  have o_sp0_20 := own_later o_sp0_19 hb20 (Nat.le_refl _)
  have o_w0_20 := own_later o_w0_19 hb20 (Nat.le_refl _)
  have o_x0_20 := own_later o_x0_19 hb20 (Nat.le_refl _)
  have o_g0_20 := own_later o_g0_19 hb20 (Nat.le_refl _)
  have o_ag0_20 := own_later o_ag0_19 hb20 (Nat.le_refl _)
  have o_h0_20 := own_later o_h0_19 hb20 (Nat.le_refl _)
  have bc_w0_20 : Below w4.heap.size w4 w20 := bc_w0_19.trans (hb20.mono (by omega))
  have cs0_0_20 := (hb20.cell (p := ⟨w.heap.size, 0, none⟩) (by show w.heap.size < w19.heap.size; omega)).trans cs0_0_19; clear cs0_0_19
  have zs0_20 : w.heap.size < w20.heap.size := by omega
  have cs1_0_20 := (hb20.cell (p := ⟨w4.heap.size, 0, none⟩) (by show w4.heap.size < w19.heap.size; omega)).trans cs1_0_19; clear cs1_0_19
  have zs1_20 : w4.heap.size < w20.heap.size := by omega
  have cs2_0_20 := (hb20.cell (p := ⟨w6.heap.size, 0, none⟩) (by show w6.heap.size < w19.heap.size; omega)).trans cs2_0_19; clear cs2_0_19
  have zs2_20 : w6.heap.size < w20.heap.size := by omega
  have cs3_0_20 := (hb20.cell (p := ⟨w8.heap.size, 0, none⟩) (by show w8.heap.size < w19.heap.size; omega)).trans cs3_0_19; clear cs3_0_19
  have zs3_20 : w8.heap.size < w20.heap.size := by omega
  have cs4_0_20 := (hb20.cell (p := ⟨w18.heap.size, 0, none⟩) (by show w18.heap.size < w19.heap.size; omega)).trans cs4_0_19; clear cs4_0_19
  have zs4_20 : w18.heap.size < w20.heap.size := by omega
  go_wp2_with fail
  refine (heldPuzzle_any _ _ _ _ _ (Rd.of_own o_g0_20) (by omega) (by omega) (by omega)).mono ?_; rintro e w21 ⟨rfl, hb21⟩; have s21 := hb21.size
  have bw21 : Below w.heap.size w w21 := bcall bw20.size hb21 bw20
  have q21 := bw21.size
  have o_sp0_21 := own_later o_sp0_20 hb21 (Nat.le_refl _)
  have o_w0_21 := own_later o_w0_20 hb21 (Nat.le_refl _)
  have o_x0_21 := own_later o_x0_20 hb21 (Nat.le_refl _)
  have o_g0_21 := own_later o_g0_20 hb21 (Nat.le_refl _)
  have o_ag0_21 := own_later o_ag0_20 hb21 (Nat.le_refl _)
  have o_h0_21 := own_later o_h0_20 hb21 (Nat.le_refl _)
  have bc_w0_21 : Below w4.heap.size w4 w21 := bc_w0_20.trans (hb21.mono (by omega))
  have cs0_0_21 := (hb21.cell (p := ⟨w.heap.size, 0, none⟩) (by show w.heap.size < w20.heap.size; omega)).trans cs0_0_20; clear cs0_0_20
  have zs0_21 : w.heap.size < w21.heap.size := by omega
  have cs1_0_21 := (hb21.cell (p := ⟨w4.heap.size, 0, none⟩) (by show w4.heap.size < w20.heap.size; omega)).trans cs1_0_20; clear cs1_0_20
  have zs1_21 : w4.heap.size < w21.heap.size := by omega
  have cs2_0_21 := (hb21.cell (p := ⟨w6.heap.size, 0, none⟩) (by show w6.heap.size < w20.heap.size; omega)).trans cs2_0_20; clear cs2_0_20
  have zs2_21 : w6.heap.size < w21.heap.size := by omega
  have cs3_0_21 := (hb21.cell (p := ⟨w8.heap.size, 0, none⟩) (by show w8.heap.size < w20.heap.size; omega)).trans cs3_0_20; clear cs3_0_20
  have zs3_21 : w8.heap.size < w21.heap.size := by omega
  have cs4_0_21 := (hb21.cell (p := ⟨w18.heap.size, 0, none⟩) (by show w18.heap.size < w20.heap.size; omega)).trans cs4_0_20; clear cs4_0_20
  have zs4_21 : w18.heap.size < w21.heap.size := by omega
  go_wp2
  go_ret
  exact ⟨rfl, bw21⟩

theorem own : ownKnob Try.prog.godebug = none := by kernel_rfl
theorem laidOut : laidOutB Try.prog = true := by kernel_rfl

set_option maxRecDepth 100000 in
theorem lifted (os : Os) (started : os.Started) (H : Type) (enc : TypeId × Value → H) :
    ReturnsInHanded {} Try.checked os 16 .any (Rows.fnExactHarderPuzzleSpec.pre6 enc Try.prog Try.f16 Rows.fnExactHarderPuzzleRow.domain false) (Rows.fnExactHarderPuzzleSpec.post enc Try.prog Try.f16 false true false false) := by
  refine returnsInHanded_of_change (C := Try.checked) own started (by kernel_rfl) Try.func16
    (ChangeSpec.witness6 (enc := enc) (C := Try.checked) false ⟨#[], #[.agg #[.slice none 0 0]], []⟩ 8 (by kernel_rfl) (by kernel_rfl) (by kernel_rfl) (by kernel_rfl)) ?_
  intro W base args ds gs before hval0 hW hcnd _
  have hval : ∀ (j : Nat) t v, Try.f16.params[j]? = some t → args[j]? = some v → Value.okWide Try.prog W .any base t v := hval0
  have hW' := hW
  obtain ⟨p, q, hA0, hV, rfl, hfz, hnd⟩ := hW
  have hA : DataW.TrodAll enc Try.prog W 0 (fun _ => true) true Try.f16.params.toList args.toList ds p := hA0
  rw [Try.params16] at hA hval
  obtain ⟨v0, vs0, d0, ds0, p0, q0, hargs, rfl, rfl, h0, r0⟩ := trodAll_cons hA
  obtain ⟨rfl, rfl, rfl⟩ := trodAll_nil r0
  obtain rfl : args = #[v0] := by cases args; simp_all
  obtain ⟨rfl, rfl⟩ := trodVars_none hV
  have k0 := h0
  have lt0 : ∀ x ∈ p0, x.block < W.heap.size := by obtain ⟨m, hm⟩ := k0; exact DataW.trod_lt m _ _ _ hm
  obtain ⟨A0, n0, c0, xs0, rfl, rd0, hl0⟩ := open_puz Try.underlying30 (show Try.prog.cellsOf 30 = 1 by kernel_rfl) rfl rfl (show Try.prog.cellsOf 28 = 1 by kernel_rfl) Try.underlying28 Try.underlying23 (show Try.prog.cellsOf 23 = 3 by kernel_rfl) rfl rfl rfl rfl rfl rfl Try.underlying3 (show Try.prog.cellsOf 3 = 1 by kernel_rfl) (hval 0 30 v0 rfl rfl) h0
  clear hA0 hval0
  refine (walk A0 n0 c0 xs0 W rd0 hl0).mono fun e W' ⟨he, bel⟩ => ?_
  subst he
  exact ⟨_, rfl, _, _, _, [], _, [], hW', trodAll_mk1 (shut_bool Try.underlying4 _), (trodAll_cons_mk (Below.trod laidOut (by kernel_rfl) (of_decide_eq_true (by kernel_rfl)) k0 bel lt0) trodAll_mk0), rfl, bel.frame _, fun h => by cases h⟩

set_option maxHeartbeats 40000000 in
theorem closedF : joinedFacts Try.prog 16 Try.f16 Rows.fnExactHarderPuzzleSpec Rows.fnExactHarderPuzzleRow = true := by
  unfold joinedFacts
  repeat' (with_reducible apply and_t)
  all_goals first | (with_reducible exact mayEnterP) | (rw [liftsP]; kernel_rfl) | (rw [makeP]; kernel_rfl) | (as_aux_lemma => kernel_rfl)

theorem proved : Rows.FnExactHarderPuzzleSaid :=
  OpenClaim.holds_of_wide 16 Try.f16 rfl rfl rfl rfl rfl rfl rfl ⟨rfl, rfl, rfl, rfl, rfl⟩ rfl rfl rfl rfl rfl (by kernel_rfl) Try.func16 closedF
    (of_decide_eq_true (by kernel_rfl)) (by unfold Func.isWrapper; first | (rw [if_pos (by decide +kernel)]; kernel_rfl) | (rw [if_neg (by decide +kernel)]; exact ⟨rfl, rfl⟩))
    (fun os started H enc _ => lifted os started H enc)

#print axioms proved
end Go.Proofs.Ytghlgmbekgfmnaa.lawHarderPuzzle
