/-
  Proved: for every list of numbers and two numbers the law's calls of MakePuzzle answer as the model does, in memory of their own, and leave the arguments alone. Conditions: none.
-/
import Derived.Test.YtghlgmbekgfmnaaPzJ
import Derived.Test.YtghlgmbekgfmnaaIKit
import Derived.Test.YtghlgmbekgfmnaaOpenI
import Derived.Test.YtghlgmbekgfmnaaPuzK
import Derived.Test.YtghlgmbekgfmnaaFacts
import Derived.ProofKit
import Derived.OpenShut
import Derived.Lib.SmallJoins
namespace Go.Proofs.Ytghlgmbekgfmnaa.lawMakePuzzle
open Go.ChangeShapes Go.WideShapes Go.ChangeAt Go.RowKit Go.Joins Go.Deep
set_option linter.unusedVariables false

set_option maxRecDepth 100000 in
set_option maxHeartbeats 4000000 in
theorem walk (A_aRows : Option Addr) (n_aRows c_aRows : Nat) (l_aRows : List Int) (z_aClues : Int) (z_aSeed : Int) (w : World) (rd_aRows : Rd w 1 A_aRows n_aRows (intCells l_aRows)) (hw_aRows : ∀ z ∈ l_aRows, (Lit.int .i64 z).wf = true) (hn_aRows : n_aRows ≤ 9223372036854775807) (wz_aClues : (Lit.int .i64 z_aClues).wf = true) (wz_aSeed : (Lit.int .i64 z_aSeed).wf = true) :
    Calls Try.prog 17 #[.slice A_aRows n_aRows c_aRows, .int .i64 z_aClues, .int .i64 z_aSeed] w fun e w' => e = .returned (.bool true) ∧ Below w.heap.size w w' := by
  clear hw_aRows
  clear wz_aClues
  clear wz_aSeed
  go_enter Try.func17, Try.ntmps17
  have bw0 : Below w.heap.size w w := Below.refl _ _
  by_cases hn2_aRows : n_aRows ≤ 1048576
  case neg =>
    go_wp2
    go_ret
    exact ⟨rfl, bw0⟩
  go_wp2_with fail
  refine (toIntS_any _ _ _ l_aRows _ (rd_aRows.later bw0 (Nat.le_refl _)) hn2_aRows).mono ?_; rintro e w1 ⟨g_sp0, rfl, o_sp0_1, hb1⟩; have s1 := hb1.size; (try simp at s1)
  have bw1 : Below w.heap.size w w1 := bcall bw0.size hb1 bw0
  have q1 := bw1.size
  have lt_sp0 := Lib.hid (fun g (h : (Value.slice (some ⟨g_sp0, 0, none⟩) n_aRows n_aRows).ownBlock = some g) => o_sp0_1.lt g h)
  go_wp2_with fail
  refine (sMakePuzzle_any _ _ _ l_aRows _ _ _ (Rd.of_own o_sp0_1) (by omega)).mono ?_; rintro e w2 ⟨A_w0, n_w0, c_w0, rfl, o_w0_2, hb2⟩; have s2 := hb2.size
  have bw2 : Below w.heap.size w w2 := bcall bw1.size hb2 bw1
  have q2 := bw2.size
  have o_sp0_2 := own_later o_sp0_1 hb2 (Nat.le_refl _)
  have bc_w0_2 : Below w2.heap.size w2 w2 := Below.refl _ _; have oc_w0 := Lib.hid o_w0_2
  have lt_w0 := Lib.hid (fun g (h : (Value.slice A_w0 n_w0 c_w0).ownBlock = some g) => o_w0_2.lt g h)
  have ln_w0 : n_w0 ≤ 100000000 := by have h := o_w0_2.1; rw [length_boxCells] at h; have := length_mdR l_aRows z_aClues z_aSeed; omega
  obtain ⟨w3, hw3⟩ : ∃ wm, wm = w2.alloc (.cells #[.slice A_w0 n_w0 c_w0] 35) := ⟨_, rfl⟩
  have hb3 : Below w2.heap.size w2 w3 := by rw [hw3]; exact (Below.refl _ _).alloc (Nat.le_refl _) _
  have cs0_0_3 : w3.cell? ⟨w2.heap.size, 0, none⟩ = some (.slice A_w0 n_w0 c_w0) := by rw [hw3]; simp [go_sem]
  have s3 : w2.heap.size + 1 ≤ w3.heap.size := by rw [hw3]; simp
  have HW3 := Lib.hid hw3; clear hw3
  have bw3 : Below w.heap.size w w3 := bcall bw2.size hb3 bw2
  have q3 := bw3.size
  have o_sp0_3 := own_later o_sp0_2 hb3 (Nat.le_refl _)
  have o_w0_3 := own_later o_w0_2 hb3 (Nat.le_refl _)
  have bc_w0_3 : Below w2.heap.size w2 w3 := bc_w0_2.trans (hb3.mono (by omega))
  have zs0_3 : w2.heap.size < w3.heap.size := by omega
  have cx3_0_0 : (w2.alloc (.cells #[.slice A_w0 n_w0 c_w0] 35)).cell? ⟨w2.heap.size, 0, none⟩ = some (.slice A_w0 n_w0 c_w0) := by rw [← HW3.out]; exact cs0_0_3
  go_wp2_with fail
  rw [← HW3.out]
  refine (toIntS_any _ _ _ l_aRows _ (rd_aRows.later bw3 (Nat.le_refl _)) hn2_aRows).mono ?_; rintro e w4 ⟨g_x0, rfl, o_x0_4, hb4⟩; have s4 := hb4.size
  have bw4 : Below w.heap.size w w4 := bcall bw3.size hb4 bw3
  have q4 := bw4.size
  have o_sp0_4 := own_later o_sp0_3 hb4 (Nat.le_refl _)
  have o_w0_4 := own_later o_w0_3 hb4 (Nat.le_refl _)
  have bc_w0_4 : Below w2.heap.size w2 w4 := bc_w0_3.trans (hb4.mono (by omega))
  have cs0_0_4 := (hb4.cell (p := ⟨w2.heap.size, 0, none⟩) (by show w2.heap.size < w3.heap.size; omega)).trans cs0_0_3; clear cs0_0_3
  have zs0_4 : w2.heap.size < w4.heap.size := by omega
  have lt_x0 := Lib.hid (fun g (h : (Value.slice (some ⟨g_x0, 0, none⟩) n_aRows n_aRows).ownBlock = some g) => o_x0_4.lt g h)
  go_wp2_with fail
  refine (makePuzzle_any _ _ _ l_aRows _ _ _ (Rd.of_own o_x0_4) (by omega)).mono ?_; rintro e w5 ⟨A_g0, n_g0, c_g0, rfl, o_g0_5, hb5⟩; have s5 := hb5.size
  have bw5 : Below w.heap.size w w5 := bcall bw4.size hb5 bw4
  have q5 := bw5.size
  have o_sp0_5 := own_later o_sp0_4 hb5 (Nat.le_refl _)
  have o_w0_5 := own_later o_w0_4 hb5 (Nat.le_refl _)
  have o_x0_5 := own_later o_x0_4 hb5 (Nat.le_refl _)
  have bc_w0_5 : Below w2.heap.size w2 w5 := bc_w0_4.trans (hb5.mono (by omega))
  have cs0_0_5 := (hb5.cell (p := ⟨w2.heap.size, 0, none⟩) (by show w2.heap.size < w4.heap.size; omega)).trans cs0_0_4; clear cs0_0_4
  have zs0_5 : w2.heap.size < w5.heap.size := by omega
  have lt_g0 := Lib.hid (fun g (h : (Value.slice A_g0 n_g0 c_g0).ownBlock = some g) => o_g0_5.lt g h)
  have ln_g0 : n_g0 ≤ 100000000 := by have h := o_g0_5.1; rw [length_boxCells] at h; have := length_mdR l_aRows z_aClues z_aSeed; omega
  obtain ⟨w6, hw6⟩ : ∃ wm, wm = w5.alloc (.cells #[.slice A_g0 n_g0 c_g0] 35) := ⟨_, rfl⟩
  have hb6 : Below w5.heap.size w5 w6 := by rw [hw6]; exact (Below.refl _ _).alloc (Nat.le_refl _) _
  have cs1_0_6 : w6.cell? ⟨w5.heap.size, 0, none⟩ = some (.slice A_g0 n_g0 c_g0) := by rw [hw6]; simp [go_sem]
  have s6 : w5.heap.size + 1 ≤ w6.heap.size := by rw [hw6]; simp
  have HW6 := Lib.hid hw6; clear hw6
  have bw6 : Below w.heap.size w w6 := bcall bw5.size hb6 bw5
  have q6 := bw6.size
  have o_sp0_6 := own_later o_sp0_5 hb6 (Nat.le_refl _)
  have o_w0_6 := own_later o_w0_5 hb6 (Nat.le_refl _)
  have o_x0_6 := own_later o_x0_5 hb6 (Nat.le_refl _)
  have o_g0_6 := own_later o_g0_5 hb6 (Nat.le_refl _)
  have bc_w0_6 : Below w2.heap.size w2 w6 := bc_w0_5.trans (hb6.mono (by omega))
  have cs0_0_6 := (hb6.cell (p := ⟨w2.heap.size, 0, none⟩) (by show w2.heap.size < w5.heap.size; omega)).trans cs0_0_5; clear cs0_0_5
  have zs0_6 : w2.heap.size < w6.heap.size := by omega
  have zs1_6 : w5.heap.size < w6.heap.size := by omega
  have cx6_0_0 : (w5.alloc (.cells #[.slice A_g0 n_g0 c_g0] 35)).cell? ⟨w2.heap.size, 0, none⟩ = some (.slice A_w0 n_w0 c_w0) := by rw [← HW6.out]; exact cs0_0_6
  have cx6_1_0 : (w5.alloc (.cells #[.slice A_g0 n_g0 c_g0] 35)).cell? ⟨w5.heap.size, 0, none⟩ = some (.slice A_g0 n_g0 c_g0) := by rw [← HW6.out]; exact cs1_0_6
  go_wp2_with fail
  rw [← HW6.out]
  refine (eqPuzzle_same _ _ _ _ _ _ _ _ (Rd.of_own o_g0_6) (Rd.of_own o_w0_6) (by omega) (by omega)).mono ?_; rintro e w7 ⟨rfl, hb7⟩; have s7 := hb7.size
  have bw7 : Below w.heap.size w w7 := bcall bw6.size hb7 bw6
  have q7 := bw7.size
  have o_sp0_7 := own_later o_sp0_6 hb7 (Nat.le_refl _)
  have o_w0_7 := own_later o_w0_6 hb7 (Nat.le_refl _)
  have o_x0_7 := own_later o_x0_6 hb7 (Nat.le_refl _)
  have o_g0_7 := own_later o_g0_6 hb7 (Nat.le_refl _)
  have bc_w0_7 : Below w2.heap.size w2 w7 := bc_w0_6.trans (hb7.mono (by omega))
  have cs0_0_7 := (hb7.cell (p := ⟨w2.heap.size, 0, none⟩) (by show w2.heap.size < w6.heap.size; omega)).trans cs0_0_6; clear cs0_0_6
  have zs0_7 : w2.heap.size < w7.heap.size := by omega
  have cs1_0_7 := (hb7.cell (p := ⟨w5.heap.size, 0, none⟩) (by show w5.heap.size < w6.heap.size; omega)).trans cs1_0_6; clear cs1_0_6
  have zs1_7 : w5.heap.size < w7.heap.size := by omega
  go_wp2_with fail
  refine (toIntS_any _ _ _ l_aRows _ (rd_aRows.later bw7 (Nat.le_refl _)) hn2_aRows).mono ?_; rintro e w8 ⟨g_cy7, rfl, o_cy7_8, hb8⟩; have s8 := hb8.size
  have bw8 : Below w.heap.size w w8 := bcall bw7.size hb8 bw7
  have q8 := bw8.size
  have o_sp0_8 := own_later o_sp0_7 hb8 (Nat.le_refl _)
  have o_w0_8 := own_later o_w0_7 hb8 (Nat.le_refl _)
  have o_x0_8 := own_later o_x0_7 hb8 (Nat.le_refl _)
  have o_g0_8 := own_later o_g0_7 hb8 (Nat.le_refl _)
  have bc_w0_8 : Below w2.heap.size w2 w8 := bc_w0_7.trans (hb8.mono (by omega))
  have cs0_0_8 := (hb8.cell (p := ⟨w2.heap.size, 0, none⟩) (by show w2.heap.size < w7.heap.size; omega)).trans cs0_0_7; clear cs0_0_7
  have zs0_8 : w2.heap.size < w8.heap.size := by omega
  have cs1_0_8 := (hb8.cell (p := ⟨w5.heap.size, 0, none⟩) (by show w5.heap.size < w7.heap.size; omega)).trans cs1_0_7; clear cs1_0_7
  have zs1_8 : w5.heap.size < w8.heap.size := by omega
  have lt_cy7 := Lib.hid (fun g (h : (Value.slice (some ⟨g_cy7, 0, none⟩) n_aRows n_aRows).ownBlock = some g) => o_cy7_8.lt g h)
  go_wp2_with fail
  refine (eqIntS_same _ _ _ _ _ _ _ _ (Rd.of_own o_x0_8) (Rd.of_own o_cy7_8) (by omega) (by omega)).mono ?_; rintro e w9 ⟨rfl, hb9⟩; have s9 := hb9.size
  have bw9 : Below w.heap.size w w9 := bcall bw8.size hb9 bw8
  have q9 := bw9.size
  have o_sp0_9 := own_later o_sp0_8 hb9 (Nat.le_refl _)
  have o_w0_9 := own_later o_w0_8 hb9 (Nat.le_refl _)
  have o_x0_9 := own_later o_x0_8 hb9 (Nat.le_refl _)
  have o_g0_9 := own_later o_g0_8 hb9 (Nat.le_refl _)
  have o_cy7_9 := own_later o_cy7_8 hb9 (Nat.le_refl _)
  have bc_w0_9 : Below w2.heap.size w2 w9 := bc_w0_8.trans (hb9.mono (by omega))
  have cs0_0_9 := (hb9.cell (p := ⟨w2.heap.size, 0, none⟩) (by show w2.heap.size < w8.heap.size; omega)).trans cs0_0_8; clear cs0_0_8
  have zs0_9 : w2.heap.size < w9.heap.size := by omega
  have cs1_0_9 := (hb9.cell (p := ⟨w5.heap.size, 0, none⟩) (by show w5.heap.size < w8.heap.size; omega)).trans cs1_0_8; clear cs1_0_8
  have zs1_9 : w5.heap.size < w9.heap.size := by omega
  go_wp2_with fail
  refine (markIntS_any _ _ _ _ _ _ _ o_x0_9 (by omega) (by omega) (by omega)).mono ?_; rintro e w10 ⟨rfl, o_x0_10, hb10, hg10⟩; have s10 := hb10.size
  have m10 : w9.heap.size ≤ w10.heap.size := hg10.size
  have bw10 : Below w.heap.size w w10 := bw9.trans (hb10.mono (by omega))
  have q10 := bw10.size
  have cs0_0_10 := (World.cell?_of_block (a := ⟨w2.heap.size, 0, none⟩) (hg10.block w2.heap.size (by omega) (fun e => by have := lt_x0.out _ e.symm; omega))).trans cs0_0_9; clear cs0_0_9
  have zs0_10 : w2.heap.size < w10.heap.size := by omega
  have cs1_0_10 := (World.cell?_of_block (a := ⟨w5.heap.size, 0, none⟩) (hg10.block w5.heap.size (by omega) (fun e => by have := lt_x0.out _ e.symm; omega))).trans cs1_0_9; clear cs1_0_9
  have zs1_10 : w5.heap.size < w10.heap.size := by omega
  have bc_w0_10 : Below w2.heap.size w2 w10 := bc_w0_9.trans (hb10.mono (by omega))
  have o_sp0_10 := o_sp0_9.kept hg10 (own_apart (by exact lt_sp0.out) (by exact lt_x0.out) (by omega))
  have o_w0_10 := o_w0_9.kept hg10 (own_apart (by exact lt_w0.out) (by exact lt_x0.out) (by omega))
  have o_g0_10 := o_g0_9.kept hg10 (own_apart (by exact lt_g0.out) (by exact lt_x0.out) (by omega))
  have o_cy7_10 := o_cy7_9.kept hg10 (own_apart (by exact lt_cy7.out) (by exact lt_x0.out) (by omega))
  go_wp2_with fail
  refine (eqPuzzle_same _ _ _ _ _ _ _ _ (Rd.of_own o_g0_10) (Rd.of_own o_w0_10) (by omega) (by omega)).mono ?_; rintro e w11 ⟨rfl, hb11⟩; have s11 := hb11.size
  have bw11 : Below w.heap.size w w11 := bcall bw10.size hb11 bw10
  have q11 := bw11.size
  have o_sp0_11 := own_later o_sp0_10 hb11 (Nat.le_refl _)
  have o_w0_11 := own_later o_w0_10 hb11 (Nat.le_refl _)
  have o_x0_11 := own_later o_x0_10 hb11 (Nat.le_refl _)
  have o_g0_11 := own_later o_g0_10 hb11 (Nat.le_refl _)
  have o_cy7_11 := own_later o_cy7_10 hb11 (Nat.le_refl _)
  have bc_w0_11 : Below w2.heap.size w2 w11 := bc_w0_10.trans (hb11.mono (by omega))
  have cs0_0_11 := (hb11.cell (p := ⟨w2.heap.size, 0, none⟩) (by show w2.heap.size < w10.heap.size; omega)).trans cs0_0_10; clear cs0_0_10
  have zs0_11 : w2.heap.size < w11.heap.size := by omega
  have cs1_0_11 := (hb11.cell (p := ⟨w5.heap.size, 0, none⟩) (by show w5.heap.size < w10.heap.size; omega)).trans cs1_0_10; clear cs1_0_10
  have zs1_11 : w5.heap.size < w11.heap.size := by omega
  go_wp2_with fail
  refine (markPuzzle_g _ _ _ _ _ _ _ o_g0_11 (by omega) (by omega) (by omega)).mono ?_; rintro e w12 ⟨rfl, o_g0_12, hb12, hg12⟩; have s12 := hb12.size
  have m12 : w11.heap.size ≤ w12.heap.size := hg12.size
  have bw12 : Below w.heap.size w w12 := bw11.trans (hb12.mono (by omega))
  have q12 := bw12.size
  have cs0_0_12 := (World.cell?_of_block (a := ⟨w2.heap.size, 0, none⟩) (hg12.block w2.heap.size (by omega) (fun e => by have := lt_g0.out _ e.symm; omega))).trans cs0_0_11; clear cs0_0_11
  have zs0_12 : w2.heap.size < w12.heap.size := by omega
  have cs1_0_12 := (World.cell?_of_block (a := ⟨w5.heap.size, 0, none⟩) (hg12.block w5.heap.size (by omega) (fun e => by have := lt_g0.out _ e.symm; omega))).trans cs1_0_11; clear cs1_0_11
  have zs1_12 : w5.heap.size < w12.heap.size := by omega
  have bc_w0_12 : Below w2.heap.size w2 w12 := bc_w0_11.trans (hb12.mono (by omega))
  have o_sp0_12 := o_sp0_11.kept hg12 (own_apart (by exact lt_sp0.out) (by exact lt_g0.out) (by omega))
  have o_w0_12 := o_w0_11.kept hg12 (own_apart (by exact lt_w0.out) (by exact lt_g0.out) (by omega))
  have o_x0_12 := o_x0_11.kept hg12 (own_apart (by exact lt_x0.out) (by exact lt_g0.out) (by omega))
  have o_cy7_12 := o_cy7_11.kept hg12 (own_apart (by exact lt_cy7.out) (by exact lt_g0.out) (by omega))
  go_wp2_with fail
  refine (heldPuzzle_any _ _ _ _ _ (Rd.of_own o_g0_12) (by omega) (by omega) (by omega)).mono ?_; rintro e w13 ⟨rfl, hb13⟩; have s13 := hb13.size
  have bw13 : Below w.heap.size w w13 := bcall bw12.size hb13 bw12
  have q13 := bw13.size
  have o_sp0_13 := own_later o_sp0_12 hb13 (Nat.le_refl _)
  have o_w0_13 := own_later o_w0_12 hb13 (Nat.le_refl _)
  have o_x0_13 := own_later o_x0_12 hb13 (Nat.le_refl _)
  have o_g0_13 := own_later o_g0_12 hb13 (Nat.le_refl _)
  have o_cy7_13 := own_later o_cy7_12 hb13 (Nat.le_refl _)
  have bc_w0_13 : Below w2.heap.size w2 w13 := bc_w0_12.trans (hb13.mono (by omega))
  have cs0_0_13 := (hb13.cell (p := ⟨w2.heap.size, 0, none⟩) (by show w2.heap.size < w12.heap.size; omega)).trans cs0_0_12; clear cs0_0_12
  have zs0_13 : w2.heap.size < w13.heap.size := by omega
  have cs1_0_13 := (hb13.cell (p := ⟨w5.heap.size, 0, none⟩) (by show w5.heap.size < w12.heap.size; omega)).trans cs1_0_12; clear cs1_0_12
  have zs1_13 : w5.heap.size < w13.heap.size := by omega
  go_wp2_with fail
  refine (toIntS_any _ _ _ l_aRows _ (rd_aRows.later bw13 (Nat.le_refl _)) hn2_aRows).mono ?_; rintro e w14 ⟨g_ag0, rfl, o_ag0_14, hb14⟩; have s14 := hb14.size
  have bw14 : Below w.heap.size w w14 := bcall bw13.size hb14 bw13
  have q14 := bw14.size
  have o_sp0_14 := own_later o_sp0_13 hb14 (Nat.le_refl _)
  have o_w0_14 := own_later o_w0_13 hb14 (Nat.le_refl _)
  have o_x0_14 := own_later o_x0_13 hb14 (Nat.le_refl _)
  have o_g0_14 := own_later o_g0_13 hb14 (Nat.le_refl _)
  have o_cy7_14 := own_later o_cy7_13 hb14 (Nat.le_refl _)
  have bc_w0_14 : Below w2.heap.size w2 w14 := bc_w0_13.trans (hb14.mono (by omega))
  have cs0_0_14 := (hb14.cell (p := ⟨w2.heap.size, 0, none⟩) (by show w2.heap.size < w13.heap.size; omega)).trans cs0_0_13; clear cs0_0_13
  have zs0_14 : w2.heap.size < w14.heap.size := by omega
  have cs1_0_14 := (hb14.cell (p := ⟨w5.heap.size, 0, none⟩) (by show w5.heap.size < w13.heap.size; omega)).trans cs1_0_13; clear cs1_0_13
  have zs1_14 : w5.heap.size < w14.heap.size := by omega
  have lt_ag0 := Lib.hid (fun g (h : (Value.slice (some ⟨g_ag0, 0, none⟩) n_aRows n_aRows).ownBlock = some g) => o_ag0_14.lt g h)
  go_wp2_with fail
  refine (makePuzzle_any _ _ _ l_aRows _ _ _ (Rd.of_own o_ag0_14) (by omega)).mono ?_; rintro e w15 ⟨A_h0, n_h0, c_h0, rfl, o_h0_15, hb15⟩; have s15 := hb15.size
  have bw15 : Below w.heap.size w w15 := bcall bw14.size hb15 bw14
  have q15 := bw15.size
  have o_sp0_15 := own_later o_sp0_14 hb15 (Nat.le_refl _)
  have o_w0_15 := own_later o_w0_14 hb15 (Nat.le_refl _)
  have o_x0_15 := own_later o_x0_14 hb15 (Nat.le_refl _)
  have o_g0_15 := own_later o_g0_14 hb15 (Nat.le_refl _)
  have o_cy7_15 := own_later o_cy7_14 hb15 (Nat.le_refl _)
  have o_ag0_15 := own_later o_ag0_14 hb15 (Nat.le_refl _)
  have bc_w0_15 : Below w2.heap.size w2 w15 := bc_w0_14.trans (hb15.mono (by omega))
  have cs0_0_15 := (hb15.cell (p := ⟨w2.heap.size, 0, none⟩) (by show w2.heap.size < w14.heap.size; omega)).trans cs0_0_14; clear cs0_0_14
  have zs0_15 : w2.heap.size < w15.heap.size := by omega
  have cs1_0_15 := (hb15.cell (p := ⟨w5.heap.size, 0, none⟩) (by show w5.heap.size < w14.heap.size; omega)).trans cs1_0_14; clear cs1_0_14
  have zs1_15 : w5.heap.size < w15.heap.size := by omega
  have lt_h0 := Lib.hid (fun g (h : (Value.slice A_h0 n_h0 c_h0).ownBlock = some g) => o_h0_15.lt g h)
  have ln_h0 : n_h0 ≤ 100000000 := by have h := o_h0_15.1; rw [length_boxCells] at h; have := length_mdR l_aRows z_aClues z_aSeed; omega
  obtain ⟨w16, hw16⟩ : ∃ wm, wm = w15.alloc (.cells #[.slice A_h0 n_h0 c_h0] 35) := ⟨_, rfl⟩
  have hb16 : Below w15.heap.size w15 w16 := by rw [hw16]; exact (Below.refl _ _).alloc (Nat.le_refl _) _
  have cs2_0_16 : w16.cell? ⟨w15.heap.size, 0, none⟩ = some (.slice A_h0 n_h0 c_h0) := by rw [hw16]; simp [go_sem]
  have s16 : w15.heap.size + 1 ≤ w16.heap.size := by rw [hw16]; simp
  have HW16 := Lib.hid hw16; clear hw16
  have bw16 : Below w.heap.size w w16 := bcall bw15.size hb16 bw15
  have q16 := bw16.size
  have o_sp0_16 := own_later o_sp0_15 hb16 (Nat.le_refl _)
  have o_w0_16 := own_later o_w0_15 hb16 (Nat.le_refl _)
  have o_x0_16 := own_later o_x0_15 hb16 (Nat.le_refl _)
  have o_g0_16 := own_later o_g0_15 hb16 (Nat.le_refl _)
  have o_cy7_16 := own_later o_cy7_15 hb16 (Nat.le_refl _)
  have o_ag0_16 := own_later o_ag0_15 hb16 (Nat.le_refl _)
  have o_h0_16 := own_later o_h0_15 hb16 (Nat.le_refl _)
  have bc_w0_16 : Below w2.heap.size w2 w16 := bc_w0_15.trans (hb16.mono (by omega))
  have cs0_0_16 := (hb16.cell (p := ⟨w2.heap.size, 0, none⟩) (by show w2.heap.size < w15.heap.size; omega)).trans cs0_0_15; clear cs0_0_15
  have zs0_16 : w2.heap.size < w16.heap.size := by omega
  have cs1_0_16 := (hb16.cell (p := ⟨w5.heap.size, 0, none⟩) (by show w5.heap.size < w15.heap.size; omega)).trans cs1_0_15; clear cs1_0_15
  have zs1_16 : w5.heap.size < w16.heap.size := by omega
  have zs2_16 : w15.heap.size < w16.heap.size := by omega
  have cx16_0_0 : (w15.alloc (.cells #[.slice A_h0 n_h0 c_h0] 35)).cell? ⟨w2.heap.size, 0, none⟩ = some (.slice A_w0 n_w0 c_w0) := by rw [← HW16.out]; exact cs0_0_16
  have cx16_1_0 : (w15.alloc (.cells #[.slice A_h0 n_h0 c_h0] 35)).cell? ⟨w5.heap.size, 0, none⟩ = some (.slice A_g0 n_g0 c_g0) := by rw [← HW16.out]; exact cs1_0_16
  have cx16_2_0 : (w15.alloc (.cells #[.slice A_h0 n_h0 c_h0] 35)).cell? ⟨w15.heap.size, 0, none⟩ = some (.slice A_h0 n_h0 c_h0) := by rw [← HW16.out]; exact cs2_0_16
  go_wp2_with fail
  rw [← HW16.out]
  refine (eqPuzzle_same _ _ _ _ _ _ _ _ (Rd.of_own o_h0_16) (Rd.of_own o_w0_16) (by omega) (by omega)).mono ?_; rintro e w17 ⟨rfl, hb17⟩; have s17 := hb17.size
  have bw17 : Below w.heap.size w w17 := bcall bw16.size hb17 bw16
  have q17 := bw17.size
  have o_sp0_17 := own_later o_sp0_16 hb17 (Nat.le_refl _)
  have o_w0_17 := own_later o_w0_16 hb17 (Nat.le_refl _)
  have o_x0_17 := own_later o_x0_16 hb17 (Nat.le_refl _)
  have o_g0_17 := own_later o_g0_16 hb17 (Nat.le_refl _)
  have o_cy7_17 := own_later o_cy7_16 hb17 (Nat.le_refl _)
  have o_ag0_17 := own_later o_ag0_16 hb17 (Nat.le_refl _)
  have o_h0_17 := own_later o_h0_16 hb17 (Nat.le_refl _)
  have bc_w0_17 : Below w2.heap.size w2 w17 := bc_w0_16.trans (hb17.mono (by omega))
  have cs0_0_17 := (hb17.cell (p := ⟨w2.heap.size, 0, none⟩) (by show w2.heap.size < w16.heap.size; omega)).trans cs0_0_16; clear cs0_0_16
  have zs0_17 : w2.heap.size < w17.heap.size := by omega
  have cs1_0_17 := (hb17.cell (p := ⟨w5.heap.size, 0, none⟩) (by show w5.heap.size < w16.heap.size; omega)).trans cs1_0_16; clear cs1_0_16
  have zs1_17 : w5.heap.size < w17.heap.size := by omega
  have cs2_0_17 := (hb17.cell (p := ⟨w15.heap.size, 0, none⟩) (by show w15.heap.size < w16.heap.size; omega)).trans cs2_0_16; clear cs2_0_16
  have zs2_17 : w15.heap.size < w17.heap.size := by omega
  go_wp2_with fail
  refine (heldPuzzle_any _ _ _ _ _ (Rd.of_own o_g0_17) (by omega) (by omega) (by omega)).mono ?_; rintro e w18 ⟨rfl, hb18⟩; have s18 := hb18.size
  have bw18 : Below w.heap.size w w18 := bcall bw17.size hb18 bw17
  have q18 := bw18.size
  have o_sp0_18 := own_later o_sp0_17 hb18 (Nat.le_refl _)
  have o_w0_18 := own_later o_w0_17 hb18 (Nat.le_refl _)
  have o_x0_18 := own_later o_x0_17 hb18 (Nat.le_refl _)
  have o_g0_18 := own_later o_g0_17 hb18 (Nat.le_refl _)
  have o_cy7_18 := own_later o_cy7_17 hb18 (Nat.le_refl _)
  have o_ag0_18 := own_later o_ag0_17 hb18 (Nat.le_refl _)
  have o_h0_18 := own_later o_h0_17 hb18 (Nat.le_refl _)
  have bc_w0_18 : Below w2.heap.size w2 w18 := bc_w0_17.trans (hb18.mono (by omega))
  have cs0_0_18 := (hb18.cell (p := ⟨w2.heap.size, 0, none⟩) (by show w2.heap.size < w17.heap.size; omega)).trans cs0_0_17; clear cs0_0_17
  have zs0_18 : w2.heap.size < w18.heap.size := by omega
  have cs1_0_18 := (hb18.cell (p := ⟨w5.heap.size, 0, none⟩) (by show w5.heap.size < w17.heap.size; omega)).trans cs1_0_17; clear cs1_0_17
  have zs1_18 : w5.heap.size < w18.heap.size := by omega
  have cs2_0_18 := (hb18.cell (p := ⟨w15.heap.size, 0, none⟩) (by show w15.heap.size < w17.heap.size; omega)).trans cs2_0_17; clear cs2_0_17
  have zs2_18 : w15.heap.size < w18.heap.size := by omega
  go_wp2
  go_ret
  exact ⟨rfl, bw18⟩

theorem own : ownKnob Try.prog.godebug = none := by kernel_rfl
theorem laidOut : laidOutB Try.prog = true := by kernel_rfl

set_option maxRecDepth 100000 in
theorem lifted (os : Os) (started : os.Started) (H : Type) (enc : TypeId × Value → H) :
    ReturnsInHanded {} Try.checked os 17 .any (Rows.fnExactMakePuzzleSpec.pre6 enc Try.prog Try.f17 Rows.fnExactMakePuzzleRow.domain false) (Rows.fnExactMakePuzzleSpec.post enc Try.prog Try.f17 false true false false) := by
  refine returnsInHanded_of_change (C := Try.checked) own started (by kernel_rfl) Try.func17
    (ChangeSpec.witness6 (enc := enc) (C := Try.checked) false ⟨#[], #[.slice none 0 0, .int .i64 0, .int .i64 0], []⟩ 8 (by kernel_rfl) (by kernel_rfl) (by kernel_rfl) (by kernel_rfl)) ?_
  intro W base args ds gs before hval0 hW hcnd _
  have hval : ∀ (j : Nat) t v, Try.f17.params[j]? = some t → args[j]? = some v → Value.okWide Try.prog W .any base t v := hval0
  have hW' := hW
  obtain ⟨p, q, hA0, hV, rfl, hfz, hnd⟩ := hW
  have hA : DataW.TrodAll enc Try.prog W 0 (fun _ => true) true Try.f17.params.toList args.toList ds p := hA0
  rw [Try.params17] at hA hval
  obtain ⟨v0, vs0, d0, ds0, p0, q0, hargs, rfl, rfl, h0, r0⟩ := trodAll_cons hA
  obtain ⟨v1, vs1, d1, ds1, p1, q1, rfl, rfl, rfl, h1, r1⟩ := trodAll_cons r0
  obtain ⟨v2, vs2, d2, ds2, p2, q2, rfl, rfl, rfl, h2, r2⟩ := trodAll_cons r1
  obtain ⟨rfl, rfl, rfl⟩ := trodAll_nil r2
  obtain rfl : args = #[v0, v1, v2] := by cases args; simp_all
  obtain ⟨rfl, rfl⟩ := trodVars_none hV
  obtain ⟨A0, n0, c0, rfl⟩ := okWide_slice Try.underlying39 (hval 0 39 v0 rfl rfl)
  have k0 := h0
  have lt0 : ∀ x ∈ p0, x.block < W.heap.size := by obtain ⟨m, hm⟩ := k0; exact DataW.trod_lt m _ _ _ hm
  obtain ⟨xs0, rd0, sz0, hl0⟩ := open_intL Try.underlying39 Try.underlying3 (show Try.prog.cellsOf 3 = 1 by kernel_rfl) h0
  obtain ⟨a1, rfl, rfl, rfl, w1⟩ := open_int Try.underlying3 (hval 1 3 v1 rfl rfl) h1
  obtain ⟨a2, rfl, rfl, rfl, w2⟩ := open_int Try.underlying3 (hval 2 3 v2 rfl rfl) h2
  clear hA0 hval0
  refine (walk A0 n0 c0 xs0 a1 a2 W rd0 sz0 hl0 w1 w2).mono fun e W' ⟨he, bel⟩ => ?_
  subst he
  exact ⟨_, rfl, _, _, _, [], _, [], hW', trodAll_mk1 (shut_bool Try.underlying4 _), (trodAll_cons_mk (Below.trod laidOut (by kernel_rfl) (of_decide_eq_true (by kernel_rfl)) k0 bel lt0) (trodAll_cons_mk (shut_int Try.underlying3 w1) (trodAll_cons_mk (shut_int Try.underlying3 w2) trodAll_mk0))), rfl, bel.frame _, fun h => by cases h⟩

set_option maxHeartbeats 40000000 in
theorem closedF : joinedFacts Try.prog 17 Try.f17 Rows.fnExactMakePuzzleSpec Rows.fnExactMakePuzzleRow = true := by
  unfold joinedFacts
  repeat' (with_reducible apply and_t)
  all_goals first | (with_reducible exact mayEnterP) | (rw [liftsP]; kernel_rfl) | (rw [makeP]; kernel_rfl) | (as_aux_lemma => kernel_rfl)

theorem proved : Rows.FnExactMakePuzzleSaid :=
  OpenClaim.holds_of_wide 17 Try.f17 rfl rfl rfl rfl rfl rfl rfl ⟨rfl, rfl, rfl, rfl, rfl⟩ rfl rfl rfl rfl rfl (by kernel_rfl) Try.func17 closedF
    (of_decide_eq_true (by kernel_rfl)) (by unfold Func.isWrapper; first | (rw [if_pos (by decide +kernel)]; kernel_rfl) | (rw [if_neg (by decide +kernel)]; exact ⟨rfl, rfl⟩))
    (fun os started H enc _ => lifted os started H enc)

#print axioms proved
end Go.Proofs.Ytghlgmbekgfmnaa.lawMakePuzzle
