/-
  Proved: for every list of numbers and list of lists of numbers the law's calls of PlayChomp answer as the model does, in memory of their own, and leave the arguments alone. Conditions: none.
-/
import Derived.Test.YtclkddehaomdjaaPlayM
import Derived.ProofKit
import Derived.OpenShut
import Derived.Lib.SmallJoins
namespace Go.Proofs.Ytclkddehaomdjaa.lawPlayChomp
open Go.ChangeShapes Go.WideShapes Go.ChangeAt Go.RowKit Go.Joins Go.Deep
set_option linter.unusedVariables false

set_option maxRecDepth 100000 in
set_option maxHeartbeats 4000000 in
theorem walk (A_aRows : Option Addr) (n_aRows c_aRows : Nat) (l_aRows : List Int) (A_aMoves : Option Addr) (n_aMoves c_aMoves : Nat) (R_aMoves : Nat → List Int) (w : World) (rd_aRows : Rd w 1 A_aRows n_aRows (intCells l_aRows)) (hw_aRows : ∀ z ∈ l_aRows, (Lit.int .i64 z).wf = true) (hn_aRows : n_aRows ≤ 9223372036854775807) (rd_aMoves : RdSS w A_aMoves n_aMoves R_aMoves) (hn_aMoves : n_aMoves ≤ 9223372036854775807) (hR_aMoves : ∀ i, i < n_aMoves → (R_aMoves i).length ≤ 9223372036854775807) :
    Calls Try.prog 8 #[.slice A_aRows n_aRows c_aRows, .slice A_aMoves n_aMoves c_aMoves] w fun e w' => e = .returned (.bool true) ∧ Below w.heap.size w w' := by
  clear hw_aRows
  go_enter Try.func8, Try.ntmps8
  have bw0 : Below w.heap.size w w := Below.refl _ _
  by_cases hn2_aRows : n_aRows ≤ 1048576
  case neg =>
    go_wp2
    go_ret
    exact ⟨rfl, bw0⟩
  go_wp2_with fail
  refine (szIntSS_any _ _ _ R_aMoves _ _ rd_aMoves hn_aMoves hR_aMoves (by omega) (by omega)).mono ?_; rintro e wx ⟨⟨v1, rfl, hv1⟩, rfl⟩
  rcases hv1 with rfl | ⟨va1, vb1⟩
  · go_wp2
    go_ret
    exact ⟨rfl, bw0⟩
  have hn2_aMoves : n_aMoves ≤ 1048576 := by omega
  have hp_aMoves : pre R_aMoves n_aMoves ≤ 1048576 := by omega
  have hR2_aMoves := Lib.hid (fun i (hi : i < n_aMoves) => Nat.le_trans (pre_row R_aMoves hi) hp_aMoves)
  have vc1 : v1 ≤ 1048576 := by omega
  clear vb1 hR_aMoves
  go_wp2_with fail
  refine (toIntS_any _ _ _ l_aRows _ (rd_aRows.later bw0 (Nat.le_refl _)) hn2_aRows).mono ?_; rintro e w1 ⟨g_sp0, rfl, o_sp0_1, hb1⟩; have s1 := hb1.size; (try simp at s1)
  have bw1 : Below w.heap.size w w1 := bcall bw0.size hb1 bw0
  have q1 := bw1.size
  have lt_sp0 := Lib.hid (fun g (h : (Value.slice (some ⟨g_sp0, 0, none⟩) n_aRows n_aRows).ownBlock = some g) => o_sp0_1.lt g h)
  go_wp2_with fail
  refine (toIntSS_any _ _ _ R_aMoves _ (rd_aMoves.later bw1 (Nat.le_refl _)) hn2_aMoves hR2_aMoves.out).mono ?_; rintro e w2 ⟨g_sp1, rfl, o_sp1_2, hb2⟩; have s2 := hb2.size
  have bw2 : Below w.heap.size w w2 := bcall bw1.size hb2 bw1
  have q2 := bw2.size
  have o_sp0_2 := own_later o_sp0_1 hb2 (Nat.le_refl _)
  replace o_sp1_2 := OwnIn.of o_sp1_2
  go_wp2_with fail
  refine (sPlayChomp_any _ _ _ l_aRows _ _ _ R_aMoves _ (Rd.of_own o_sp0_2) (by omega) (OwnSS.rd (OwnIn.ss o_sp1_2)) (by omega) (fun i hi => Nat.le_trans (hR2_aMoves.out i hi) (by omega)) ).mono ?_; rintro e w3 ⟨A_w0, n_w0, c_w0, rfl, o_w0_3, hb3⟩; have s3 := hb3.size
  have bw3 : Below w.heap.size w w3 := bcall bw2.size hb3 bw2
  have q3 := bw3.size
  have o_sp0_3 := own_later o_sp0_2 hb3 (Nat.le_refl _)
  have o_sp1_3 := OwnIn.later o_sp1_2 hb3 (Nat.le_refl _)
  have bc_w0_3 : Below w3.heap.size w3 w3 := Below.refl _ _; have oc_w0 := Lib.hid o_w0_3
  have lt_w0 := Lib.hid (fun g (h : (Value.slice A_w0 n_w0 c_w0).ownBlock = some g) => o_w0_3.lt g h)
  have ln_w0 : n_w0 ≤ 100000000 := by have h := o_w0_3.1; rw [length_intCells] at h; have := length_plR l_aRows R_aMoves n_aMoves; omega
  go_wp2_with fail
  refine (toIntS_any _ _ _ l_aRows _ (rd_aRows.later bw3 (Nat.le_refl _)) hn2_aRows).mono ?_; rintro e w4 ⟨g_x0, rfl, o_x0_4, hb4⟩; have s4 := hb4.size
  have bw4 : Below w.heap.size w w4 := bcall bw3.size hb4 bw3
  have q4 := bw4.size
  have o_sp0_4 := own_later o_sp0_3 hb4 (Nat.le_refl _)
  have o_sp1_4 := OwnIn.later o_sp1_3 hb4 (Nat.le_refl _)
  have o_w0_4 := own_later o_w0_3 hb4 (Nat.le_refl _)
  have bc_w0_4 : Below w3.heap.size w3 w4 := bc_w0_3.trans (hb4.mono (by omega))
  have lt_x0 := Lib.hid (fun g (h : (Value.slice (some ⟨g_x0, 0, none⟩) n_aRows n_aRows).ownBlock = some g) => o_x0_4.lt g h)
  go_wp2_with fail
  refine (toIntSS_any _ _ _ R_aMoves _ (rd_aMoves.later bw4 (Nat.le_refl _)) hn2_aMoves hR2_aMoves.out).mono ?_; rintro e w5 ⟨g_x1, rfl, o_x1_5, hb5⟩; have s5 := hb5.size
  have bw5 : Below w.heap.size w w5 := bcall bw4.size hb5 bw4
  have q5 := bw5.size
  have o_sp0_5 := own_later o_sp0_4 hb5 (Nat.le_refl _)
  have o_sp1_5 := OwnIn.later o_sp1_4 hb5 (Nat.le_refl _)
  have o_w0_5 := own_later o_w0_4 hb5 (Nat.le_refl _)
  have o_x0_5 := own_later o_x0_4 hb5 (Nat.le_refl _)
  have bc_w0_5 : Below w3.heap.size w3 w5 := bc_w0_4.trans (hb5.mono (by omega))
  replace o_x1_5 := OwnIn.of o_x1_5
  go_wp2_with fail
  refine (playChomp_any _ _ _ l_aRows _ _ _ R_aMoves _ (Rd.of_own o_x0_5) (by omega) (OwnSS.rd (OwnIn.ss o_x1_5)) (by omega) (fun i hi => Nat.le_trans (hR2_aMoves.out i hi) (by omega)) ).mono ?_; rintro e w6 ⟨A_g0, n_g0, c_g0, rfl, o_g0_6, hb6⟩; have s6 := hb6.size
  have bw6 : Below w.heap.size w w6 := bcall bw5.size hb6 bw5
  have q6 := bw6.size
  have o_sp0_6 := own_later o_sp0_5 hb6 (Nat.le_refl _)
  have o_sp1_6 := OwnIn.later o_sp1_5 hb6 (Nat.le_refl _)
  have o_w0_6 := own_later o_w0_5 hb6 (Nat.le_refl _)
  have o_x0_6 := own_later o_x0_5 hb6 (Nat.le_refl _)
  have o_x1_6 := OwnIn.later o_x1_5 hb6 (Nat.le_refl _)
  have bc_w0_6 : Below w3.heap.size w3 w6 := bc_w0_5.trans (hb6.mono (by omega))
  have lt_g0 := Lib.hid (fun g (h : (Value.slice A_g0 n_g0 c_g0).ownBlock = some g) => o_g0_6.lt g h)
  have ln_g0 : n_g0 ≤ 100000000 := by have h := o_g0_6.1; rw [length_intCells] at h; have := length_plR l_aRows R_aMoves n_aMoves; omega
  go_wp2_with fail
  refine (eqIntS_same _ _ _ _ _ _ _ _ (Rd.of_own o_g0_6) (Rd.of_own o_w0_6) (by omega) (by omega)).mono ?_; rintro e w7 ⟨rfl, hb7⟩; have s7 := hb7.size
  have bw7 : Below w.heap.size w w7 := bcall bw6.size hb7 bw6
  have q7 := bw7.size
  have o_sp0_7 := own_later o_sp0_6 hb7 (Nat.le_refl _)
  have o_sp1_7 := OwnIn.later o_sp1_6 hb7 (Nat.le_refl _)
  have o_w0_7 := own_later o_w0_6 hb7 (Nat.le_refl _)
  have o_x0_7 := own_later o_x0_6 hb7 (Nat.le_refl _)
  have o_x1_7 := OwnIn.later o_x1_6 hb7 (Nat.le_refl _)
  have o_g0_7 := own_later o_g0_6 hb7 (Nat.le_refl _)
  have bc_w0_7 : Below w3.heap.size w3 w7 := bc_w0_6.trans (hb7.mono (by omega))
  go_wp2_with fail
  refine (toIntS_any _ _ _ l_aRows _ (rd_aRows.later bw7 (Nat.le_refl _)) hn2_aRows).mono ?_; rintro e w8 ⟨g_cy7, rfl, o_cy7_8, hb8⟩; have s8 := hb8.size
  have bw8 : Below w.heap.size w w8 := bcall bw7.size hb8 bw7
  have q8 := bw8.size
  have o_sp0_8 := own_later o_sp0_7 hb8 (Nat.le_refl _)
  have o_sp1_8 := OwnIn.later o_sp1_7 hb8 (Nat.le_refl _)
  have o_w0_8 := own_later o_w0_7 hb8 (Nat.le_refl _)
  have o_x0_8 := own_later o_x0_7 hb8 (Nat.le_refl _)
  have o_x1_8 := OwnIn.later o_x1_7 hb8 (Nat.le_refl _)
  have o_g0_8 := own_later o_g0_7 hb8 (Nat.le_refl _)
  have bc_w0_8 : Below w3.heap.size w3 w8 := bc_w0_7.trans (hb8.mono (by omega))
  have lt_cy7 := Lib.hid (fun g (h : (Value.slice (some ⟨g_cy7, 0, none⟩) n_aRows n_aRows).ownBlock = some g) => o_cy7_8.lt g h)
  go_wp2_with fail
  refine (eqIntS_same _ _ _ _ _ _ _ _ (Rd.of_own o_x0_8) (Rd.of_own o_cy7_8) (by omega) (by omega)).mono ?_; rintro e w9 ⟨rfl, hb9⟩; have s9 := hb9.size
  have bw9 : Below w.heap.size w w9 := bcall bw8.size hb9 bw8
  have q9 := bw9.size
  have o_sp0_9 := own_later o_sp0_8 hb9 (Nat.le_refl _)
  have o_sp1_9 := OwnIn.later o_sp1_8 hb9 (Nat.le_refl _)
  have o_w0_9 := own_later o_w0_8 hb9 (Nat.le_refl _)
  have o_x0_9 := own_later o_x0_8 hb9 (Nat.le_refl _)
  have o_x1_9 := OwnIn.later o_x1_8 hb9 (Nat.le_refl _)
  have o_g0_9 := own_later o_g0_8 hb9 (Nat.le_refl _)
  have o_cy7_9 := own_later o_cy7_8 hb9 (Nat.le_refl _)
  have bc_w0_9 : Below w3.heap.size w3 w9 := bc_w0_8.trans (hb9.mono (by omega))
  go_wp2_with fail
  refine (toIntSS_any _ _ _ R_aMoves _ (rd_aMoves.later bw9 (Nat.le_refl _)) hn2_aMoves hR2_aMoves.out).mono ?_; rintro e w10 ⟨g_cy9, rfl, o_cy9_10, hb10⟩; have s10 := hb10.size
  have bw10 : Below w.heap.size w w10 := bcall bw9.size hb10 bw9
  have q10 := bw10.size
  have o_sp0_10 := own_later o_sp0_9 hb10 (Nat.le_refl _)
  have o_sp1_10 := OwnIn.later o_sp1_9 hb10 (Nat.le_refl _)
  have o_w0_10 := own_later o_w0_9 hb10 (Nat.le_refl _)
  have o_x0_10 := own_later o_x0_9 hb10 (Nat.le_refl _)
  have o_x1_10 := OwnIn.later o_x1_9 hb10 (Nat.le_refl _)
  have o_g0_10 := own_later o_g0_9 hb10 (Nat.le_refl _)
  have o_cy7_10 := own_later o_cy7_9 hb10 (Nat.le_refl _)
  have bc_w0_10 : Below w3.heap.size w3 w10 := bc_w0_9.trans (hb10.mono (by omega))
  replace o_cy9_10 := OwnIn.of o_cy9_10
  go_wp2_with fail
  refine (eqIntSS_same _ _ _ _ _ R_aMoves _ (OwnSS.rd (OwnIn.ss o_x1_10)) (OwnSS.rd (OwnIn.ss o_cy9_10)) (by omega) (fun i hi => Nat.le_trans (hR2_aMoves.out i hi) (by omega))).mono ?_; rintro e w11 ⟨rfl, hb11⟩; have s11 := hb11.size
  have bw11 : Below w.heap.size w w11 := bcall bw10.size hb11 bw10
  have q11 := bw11.size
  have o_sp0_11 := own_later o_sp0_10 hb11 (Nat.le_refl _)
  have o_sp1_11 := OwnIn.later o_sp1_10 hb11 (Nat.le_refl _)
  have o_w0_11 := own_later o_w0_10 hb11 (Nat.le_refl _)
  have o_x0_11 := own_later o_x0_10 hb11 (Nat.le_refl _)
  have o_x1_11 := OwnIn.later o_x1_10 hb11 (Nat.le_refl _)
  have o_g0_11 := own_later o_g0_10 hb11 (Nat.le_refl _)
  have o_cy7_11 := own_later o_cy7_10 hb11 (Nat.le_refl _)
  have o_cy9_11 := OwnIn.later o_cy9_10 hb11 (Nat.le_refl _)
  have bc_w0_11 : Below w3.heap.size w3 w11 := bc_w0_10.trans (hb11.mono (by omega))
  go_wp2_with fail
  refine (markIntS_any _ _ _ _ _ _ _ o_x0_11 (by omega) (by omega) (by omega)).mono ?_; rintro e w12 ⟨rfl, o_x0_12, hb12, hg12⟩; have s12 := hb12.size
  have m12 : w11.heap.size ≤ w12.heap.size := hg12.size
  have bw12 : Below w.heap.size w w12 := bw11.trans (hb12.mono (by omega))
  have q12 := bw12.size
  have bc_w0_12 : Below w3.heap.size w3 w12 := bc_w0_11.trans (hb12.mono (by omega))
  have o_sp0_12 := o_sp0_11.kept hg12 (own_apart (by exact lt_sp0.out) (by exact lt_x0.out) (by omega))
  have o_w0_12 := o_w0_11.kept hg12 (own_apart (by exact lt_w0.out) (by exact lt_x0.out) (by omega))
  have o_x1_12 := OwnIn.kept o_x1_11 hg12 (fun g hgg => by have := (lt_x0.out g hgg); omega)
  have o_g0_12 := o_g0_11.kept hg12 (own_apart (by exact lt_g0.out) (by exact lt_x0.out) (by omega))
  have o_cy7_12 := o_cy7_11.kept hg12 (own_apart (by exact lt_cy7.out) (by exact lt_x0.out) (by omega))
  have o_cy9_12 := OwnIn.kept o_cy9_11 hg12 (fun g hgg => by have := (lt_x0.out g hgg); omega)
  go_wp2_with fail
  refine (markSSin_any _ _ _ _ _ _ R_aMoves _ o_x1_12 (by omega) (by omega) (by omega) (by omega)).mono ?_; rintro e w13 ⟨rfl, o_x1_13, hb13, hk13⟩; have s13 := hb13.size
  have m13 : w12.heap.size ≤ w13.heap.size := hk13.size
  have bw13 : Below w.heap.size w w13 := bw12.trans (hb13.mono (by omega))
  have q13 := bw13.size
  have bc_w0_13 : Below w3.heap.size w3 w13 := bc_w0_12.trans (hb13.mono (by omega))
  have o_sp0_13 := hk13.own o_sp0_12 (fun g hgg e => by have e1 : w4.heap.size ≤ g ∧ g < w5.heap.size := e; have := lt_sp0.out g hgg; omega)
  have o_w0_13 := hk13.own o_w0_12 (fun g hgg e => by have e1 : w4.heap.size ≤ g ∧ g < w5.heap.size := e; have := lt_w0.out g hgg; omega)
  have o_x0_13 := hk13.own o_x0_12 (fun g hgg e => by have e1 : w4.heap.size ≤ g ∧ g < w5.heap.size := e; have := lt_x0.out g hgg; omega)
  have o_g0_13 := hk13.own o_g0_12 (fun g hgg e => by have e1 : w4.heap.size ≤ g ∧ g < w5.heap.size := e; have := lt_g0.out g hgg; omega)
  have o_cy7_13 := hk13.own o_cy7_12 (fun g hgg e => by have e1 : w4.heap.size ≤ g ∧ g < w5.heap.size := e; have := lt_cy7.out g hgg; omega)
  go_wp2_with fail
  refine (eqIntS_same _ _ _ _ _ _ _ _ (Rd.of_own o_g0_13) (Rd.of_own o_w0_13) (by omega) (by omega)).mono ?_; rintro e w14 ⟨rfl, hb14⟩; have s14 := hb14.size
  have bw14 : Below w.heap.size w w14 := bcall bw13.size hb14 bw13
  have q14 := bw14.size
  have o_sp0_14 := own_later o_sp0_13 hb14 (Nat.le_refl _)
  have o_w0_14 := own_later o_w0_13 hb14 (Nat.le_refl _)
  have o_x0_14 := own_later o_x0_13 hb14 (Nat.le_refl _)
  have o_x1_14 := OwnIn.later o_x1_13 hb14 (Nat.le_refl _)
  have o_g0_14 := own_later o_g0_13 hb14 (Nat.le_refl _)
  have o_cy7_14 := own_later o_cy7_13 hb14 (Nat.le_refl _)
  have bc_w0_14 : Below w3.heap.size w3 w14 := bc_w0_13.trans (hb14.mono (by omega))
  go_wp2_with fail
  refine (markIntS_any _ _ _ _ _ _ _ o_g0_14 (by omega) (by omega) (by omega)).mono ?_; rintro e w15 ⟨rfl, o_g0_15, hb15, hg15⟩; have s15 := hb15.size
  have m15 : w14.heap.size ≤ w15.heap.size := hg15.size
  have bw15 : Below w.heap.size w w15 := bw14.trans (hb15.mono (by omega))
  have q15 := bw15.size
  have bc_w0_15 : Below w3.heap.size w3 w15 := bc_w0_14.trans (hb15.mono (by omega))
  have o_sp0_15 := o_sp0_14.kept hg15 (own_apart (by exact lt_sp0.out) (by exact lt_g0.out) (by omega))
  have o_w0_15 := o_w0_14.kept hg15 (own_apart (by exact lt_w0.out) (by exact lt_g0.out) (by omega))
  have o_x0_15 := o_x0_14.kept hg15 (own_apart (by exact lt_x0.out) (by exact lt_g0.out) (by omega))
  have o_cy7_15 := o_cy7_14.kept hg15 (own_apart (by exact lt_cy7.out) (by exact lt_g0.out) (by omega))
  go_wp2_with fail
  refine (heldIntS_any _ _ _ _ _ (Rd.of_own o_g0_15) (by omega) (by omega) (by omega)).mono ?_; rintro e wx ⟨rfl, rfl⟩
  go_wp2_with fail
  refine (toIntS_any _ _ _ l_aRows _ (rd_aRows.later bw15 (Nat.le_refl _)) hn2_aRows).mono ?_; rintro e w16 ⟨g_ag0, rfl, o_ag0_16, hb16⟩; have s16 := hb16.size
  have bw16 : Below w.heap.size w w16 := bcall bw15.size hb16 bw15
  have q16 := bw16.size
  have o_sp0_16 := own_later o_sp0_15 hb16 (Nat.le_refl _)
  have o_w0_16 := own_later o_w0_15 hb16 (Nat.le_refl _)
  have o_x0_16 := own_later o_x0_15 hb16 (Nat.le_refl _)
  have o_g0_16 := own_later o_g0_15 hb16 (Nat.le_refl _)
  have o_cy7_16 := own_later o_cy7_15 hb16 (Nat.le_refl _)
  have bc_w0_16 : Below w3.heap.size w3 w16 := bc_w0_15.trans (hb16.mono (by omega))
  have lt_ag0 := Lib.hid (fun g (h : (Value.slice (some ⟨g_ag0, 0, none⟩) n_aRows n_aRows).ownBlock = some g) => o_ag0_16.lt g h)
  go_wp2_with fail
  refine (toIntSS_any _ _ _ R_aMoves _ (rd_aMoves.later bw16 (Nat.le_refl _)) hn2_aMoves hR2_aMoves.out).mono ?_; rintro e w17 ⟨g_ag1, rfl, o_ag1_17, hb17⟩; have s17 := hb17.size
  have bw17 : Below w.heap.size w w17 := bcall bw16.size hb17 bw16
  have q17 := bw17.size
  have o_sp0_17 := own_later o_sp0_16 hb17 (Nat.le_refl _)
  have o_w0_17 := own_later o_w0_16 hb17 (Nat.le_refl _)
  have o_x0_17 := own_later o_x0_16 hb17 (Nat.le_refl _)
  have o_g0_17 := own_later o_g0_16 hb17 (Nat.le_refl _)
  have o_cy7_17 := own_later o_cy7_16 hb17 (Nat.le_refl _)
  have o_ag0_17 := own_later o_ag0_16 hb17 (Nat.le_refl _)
  have bc_w0_17 : Below w3.heap.size w3 w17 := bc_w0_16.trans (hb17.mono (by omega))
  replace o_ag1_17 := OwnIn.of o_ag1_17
  go_wp2_with fail
  refine (playChomp_any _ _ _ l_aRows _ _ _ R_aMoves _ (Rd.of_own o_ag0_17) (by omega) (OwnSS.rd (OwnIn.ss o_ag1_17)) (by omega) (fun i hi => Nat.le_trans (hR2_aMoves.out i hi) (by omega)) ).mono ?_; rintro e w18 ⟨A_h0, n_h0, c_h0, rfl, o_h0_18, hb18⟩; have s18 := hb18.size
  have bw18 : Below w.heap.size w w18 := bcall bw17.size hb18 bw17
  have q18 := bw18.size
  have o_sp0_18 := own_later o_sp0_17 hb18 (Nat.le_refl _)
  have o_w0_18 := own_later o_w0_17 hb18 (Nat.le_refl _)
  have o_x0_18 := own_later o_x0_17 hb18 (Nat.le_refl _)
  have o_g0_18 := own_later o_g0_17 hb18 (Nat.le_refl _)
  have o_cy7_18 := own_later o_cy7_17 hb18 (Nat.le_refl _)
  have o_ag0_18 := own_later o_ag0_17 hb18 (Nat.le_refl _)
  have o_ag1_18 := OwnIn.later o_ag1_17 hb18 (Nat.le_refl _)
  have bc_w0_18 : Below w3.heap.size w3 w18 := bc_w0_17.trans (hb18.mono (by omega))
  have lt_h0 := Lib.hid (fun g (h : (Value.slice A_h0 n_h0 c_h0).ownBlock = some g) => o_h0_18.lt g h)
  have ln_h0 : n_h0 ≤ 100000000 := by have h := o_h0_18.1; rw [length_intCells] at h; have := length_plR l_aRows R_aMoves n_aMoves; omega
  go_wp2_with fail
  refine (eqIntS_same _ _ _ _ _ _ _ _ (Rd.of_own o_h0_18) (Rd.of_own o_w0_18) (by omega) (by omega)).mono ?_; rintro e w19 ⟨rfl, hb19⟩; have s19 := hb19.size
  have bw19 : Below w.heap.size w w19 := bcall bw18.size hb19 bw18
  have q19 := bw19.size
  have o_sp0_19 := own_later o_sp0_18 hb19 (Nat.le_refl _)
  have o_w0_19 := own_later o_w0_18 hb19 (Nat.le_refl _)
  have o_x0_19 := own_later o_x0_18 hb19 (Nat.le_refl _)
  have o_g0_19 := own_later o_g0_18 hb19 (Nat.le_refl _)
  have o_cy7_19 := own_later o_cy7_18 hb19 (Nat.le_refl _)
  have o_ag0_19 := own_later o_ag0_18 hb19 (Nat.le_refl _)
  have o_ag1_19 := OwnIn.later o_ag1_18 hb19 (Nat.le_refl _)
  have o_h0_19 := own_later o_h0_18 hb19 (Nat.le_refl _)
  have bc_w0_19 : Below w3.heap.size w3 w19 := bc_w0_18.trans (hb19.mono (by omega))
  go_wp2_with fail
  refine (heldIntS_any _ _ _ _ _ (Rd.of_own o_g0_19) (by omega) (by omega) (by omega)).mono ?_; rintro e wx ⟨rfl, rfl⟩
  go_wp2
  go_ret
  exact ⟨rfl, bw19⟩

theorem own : ownKnob Try.prog.godebug = none := by kernel_rfl
theorem laidOut : laidOutB Try.prog = true := by kernel_rfl

set_option maxRecDepth 100000 in
theorem lifted (os : Os) (started : os.Started) (H : Type) (enc : TypeId × Value → H) :
    ReturnsInHanded {} Try.checked os 8 .any (Rows.fnExactPlayChompSpec.pre6 enc Try.prog Try.f8 Rows.fnExactPlayChompRow.domain false) (Rows.fnExactPlayChompSpec.post enc Try.prog Try.f8 false true false false) := by
  refine returnsInHanded_of_change (C := Try.checked) own started (by kernel_rfl) Try.func8
    (ChangeSpec.witness6 (enc := enc) (C := Try.checked) false ⟨#[], #[.slice none 0 0, .slice none 0 0], []⟩ 8 (by kernel_rfl) (by kernel_rfl) (by kernel_rfl) (by kernel_rfl)) ?_
  intro W base args ds gs before hval0 hW hcnd _
  have hval : ∀ (j : Nat) t v, Try.f8.params[j]? = some t → args[j]? = some v → Value.okWide Try.prog W .any base t v := hval0
  have hW' := hW
  obtain ⟨p, q, hA0, hV, rfl, hfz, hnd⟩ := hW
  have hA : DataW.TrodAll enc Try.prog W 0 (fun _ => true) true Try.f8.params.toList args.toList ds p := hA0
  rw [Try.params8] at hA hval
  obtain ⟨v0, vs0, d0, ds0, p0, q0, hargs, rfl, rfl, h0, r0⟩ := trodAll_cons hA
  obtain ⟨v1, vs1, d1, ds1, p1, q1, rfl, rfl, rfl, h1, r1⟩ := trodAll_cons r0
  obtain ⟨rfl, rfl, rfl⟩ := trodAll_nil r1
  obtain rfl : args = #[v0, v1] := by cases args; simp_all
  obtain ⟨rfl, rfl⟩ := trodVars_none hV
  obtain ⟨A0, n0, c0, rfl⟩ := okWide_slice Try.underlying22 (hval 0 22 v0 rfl rfl)
  have k0 := h0
  have lt0 : ∀ x ∈ p0, x.block < W.heap.size := by obtain ⟨m, hm⟩ := k0; exact DataW.trod_lt m _ _ _ hm
  obtain ⟨xs0, rd0, sz0, hl0⟩ := open_intL Try.underlying22 Try.underlying3 (show Try.prog.cellsOf 3 = 1 by kernel_rfl) h0
  obtain ⟨A1, n1, c1, rfl⟩ := okWide_slice Try.underlying34 (hval 1 34 v1 rfl rfl)
  have k1 := h1
  have lt1 : ∀ x ∈ p1, x.block < W.heap.size := by obtain ⟨m, hm⟩ := k1; exact DataW.trod_lt m _ _ _ hm
  obtain ⟨xs1, rd1, hl1, hr1⟩ := open_intSS Try.underlying34 Try.underlying22 Try.underlying3 (show Try.prog.cellsOf 22 = 1 by kernel_rfl) (show Try.prog.cellsOf 3 = 1 by kernel_rfl) h1
  clear hA0 hval0
  refine (walk A0 n0 c0 xs0 A1 n1 c1 xs1 W rd0 sz0 hl0 rd1 hl1 hr1).mono fun e W' ⟨he, bel⟩ => ?_
  subst he
  exact ⟨_, rfl, _, _, _, [], _, [], hW', trodAll_mk1 (shut_bool Try.underlying4 _), (trodAll_cons_mk (Below.trod laidOut (by kernel_rfl) (of_decide_eq_true (by kernel_rfl)) k0 bel lt0) (trodAll_cons_mk (Below.trod laidOut (by kernel_rfl) (of_decide_eq_true (by kernel_rfl)) k1 bel lt1) trodAll_mk0)), rfl, bel.frame _, fun h => by cases h⟩

theorem proved : Rows.FnExactPlayChompSaid :=
  OpenClaim.holds_of_wide 8 Try.f8 rfl rfl rfl rfl rfl rfl rfl ⟨rfl, rfl, rfl, rfl, rfl⟩ rfl rfl rfl rfl rfl (by kernel_rfl) Try.func8 (by kernel_rfl)
    (of_decide_eq_true (by kernel_rfl)) (by unfold Func.isWrapper; first | (rw [if_pos (by decide +kernel)]; kernel_rfl) | (rw [if_neg (by decide +kernel)]; exact ⟨rfl, rfl⟩))
    (fun os started H enc _ => lifted os started H enc)

#print axioms proved
end Go.Proofs.Ytclkddehaomdjaa.lawPlayChomp
