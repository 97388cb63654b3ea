/-
  Proved: for every list of texts the law's calls of RowsAndColumns answer as the model does, in memory of their own, and leave the arguments alone. Conditions: none.
-/
import Derived.Test.YtcggiekhlophlabDoorRcS
import Derived.Test.YtcggiekhlophlabDoorSKit
import Derived.Test.YtcggiekhlophlabDoorIKit
import Derived.Test.YtcggiekhlophlabDoorMark
import Derived.Lay
import Derived.OpenVars
import Derived.ProofKit
import Derived.OpenShut
import Derived.Lib.SmallJoins
import Derived.LaidMore
import Derived.Stop.Joined
import Derived.SevenTiedAt
import Derived.Test.YtcggiekhlophlabDoorCards
import Derived.Test.YtcggiekhlophlabDoorTie
namespace Go.Proofs.YtcggiekhlophlabDoor.lawRowsAndColumns
open Go.ChangeShapes Go.WideShapes Go.ChangeAt Go.RowKit Go.Joins Go.Deep
set_option linter.unusedVariables false

set_option maxRecDepth 100000 in
set_option maxHeartbeats 4000000 in
theorem walk (A_aBox : Option Addr) (n_aBox c_aBox : Nat) (l_aBox : List ByteArray) (w : World) (rd_aBox : Rd w 1 A_aBox n_aBox (strCells l_aBox)) (hs_aBox : ∀ s ∈ l_aBox, s.size ≤ 9223372036854775807) (hn_aBox : n_aBox ≤ 9223372036854775807) :
    Calls Tryd.prog 5 #[.slice A_aBox n_aBox c_aBox] w fun e w' => e = .returned (.bool true) ∧ Below w.heap.size w w' := by
  have HS_aBox := Lib.hid hs_aBox; clear hs_aBox
  go_enter Tryd.func5, Tryd.ntmps5
  have bw0 : Below w.heap.size w w := Below.refl _ _
  go_wp2_with fail
  refine (szStringS_any _ _ _ _ l_aBox _ rd_aBox HS_aBox.out hn_aBox (by omega) (by omega)).mono ?_; rintro e wx ⟨⟨v1, rfl, hv1⟩, rfl⟩
  have ht1 := totS_nonneg l_aBox
  rcases hv1 with rfl | ⟨va1, vb1⟩
  · go_wp2
    go_ret
    exact ⟨rfl, bw0⟩
  have hn2_aBox : n_aBox ≤ 1048576 := by omega
  have vc1 : v1 ≤ 1048576 := by omega
  clear vb1
  go_wp2_with fail
  refine (toStringS_any _ _ _ l_aBox _ (rd_aBox.later bw0 (Nat.le_refl _)) hn2_aBox).mono ?_; rintro e w1 ⟨g_sp0, rfl, o_sp0_1, hb1⟩; have s1 := hb1.size; (try simp at s1)
  have bw1 : Below w.heap.size w w1 := bcall bw0.size hb1 bw0
  have q1 := bw1.size
  have lt_sp0 := Lib.hid (fun g (h : (Value.slice (some ⟨g_sp0, 0, none⟩) n_aBox n_aBox).ownBlock = some g) => o_sp0_1.lt g h)
  go_wp2_with fail
  refine (sRowsCols_any _ _ _ l_aBox _ (Rd.of_own o_sp0_1) HS_aBox.out hn2_aBox).mono ?_; rintro e w2 ⟨A_w0, n_w0, c_w0, A_w1, n_w1, c_w1, rfl, o_w0_2, o_w1_2, hb2⟩; have s2 := hb2.size
  have bw2 : Below w.heap.size w w2 := bcall bw1.size hb2 bw1
  have q2 := bw2.size
  have o_sp0_2 := own_later o_sp0_1 hb2 (Nat.le_refl _)
  have bc_w0_2 : Below w2.heap.size w2 w2 := Below.refl _ _; have oc_w0 := Lib.hid o_w0_2
  have lt_w0 := Lib.hid (fun g (h : (Value.slice A_w0 n_w0 c_w0).ownBlock = some g) => o_w0_2.lt g h)
  have ln_w0 : n_w0 ≤ 100000000 := by have h := o_w0_2.1; rw [length_intCells] at h; have := length_rowsR l_aBox; omega
  have bc_w1_2 : Below w2.heap.size w2 w2 := Below.refl _ _; have oc_w1 := Lib.hid o_w1_2
  have lt_w1 := Lib.hid (fun g (h : (Value.slice A_w1 n_w1 c_w1).ownBlock = some g) => o_w1_2.lt g h)
  have ln_w1 : n_w1 ≤ 100000000 := by have h := o_w1_2.1; rw [length_intCells] at h; have := length_colsR l_aBox; omega
  go_wp2_with fail
  refine (toStringS_any _ _ _ l_aBox _ (rd_aBox.later bw2 (Nat.le_refl _)) hn2_aBox).mono ?_; rintro e w3 ⟨g_x0, rfl, o_x0_3, hb3⟩; have s3 := hb3.size
  have bw3 : Below w.heap.size w w3 := bcall bw2.size hb3 bw2
  have q3 := bw3.size
  have o_sp0_3 := own_later o_sp0_2 hb3 (Nat.le_refl _)
  have o_w0_3 := own_later o_w0_2 hb3 (Nat.le_refl _)
  have o_w1_3 := own_later o_w1_2 hb3 (Nat.le_refl _)
  have bc_w0_3 : Below w2.heap.size w2 w3 := bc_w0_2.trans (hb3.mono (by omega))
  have bc_w1_3 : Below w2.heap.size w2 w3 := bc_w1_2.trans (hb3.mono (by omega))
  have lt_x0 := Lib.hid (fun g (h : (Value.slice (some ⟨g_x0, 0, none⟩) n_aBox n_aBox).ownBlock = some g) => o_x0_3.lt g h)
  go_wp2_with fail
  refine (rowsCols_any _ _ _ l_aBox _ (Rd.of_own o_x0_3) HS_aBox.out hn2_aBox).mono ?_; rintro e w4 ⟨A_g0, n_g0, c_g0, A_g1, n_g1, c_g1, rfl, o_g0_4, o_g1_4, ap_im, hb4⟩; have s4 := hb4.size
  have bw4 : Below w.heap.size w w4 := bcall bw3.size hb4 bw3
  have q4 := bw4.size
  have o_sp0_4 := own_later o_sp0_3 hb4 (Nat.le_refl _)
  have o_w0_4 := own_later o_w0_3 hb4 (Nat.le_refl _)
  have o_w1_4 := own_later o_w1_3 hb4 (Nat.le_refl _)
  have o_x0_4 := own_later o_x0_3 hb4 (Nat.le_refl _)
  have bc_w0_4 : Below w2.heap.size w2 w4 := bc_w0_3.trans (hb4.mono (by omega))
  have bc_w1_4 : Below w2.heap.size w2 w4 := bc_w1_3.trans (hb4.mono (by omega))
  have lt_g0 := Lib.hid (fun g (h : (Value.slice A_g0 n_g0 c_g0).ownBlock = some g) => o_g0_4.lt g h)
  have ln_g0 : n_g0 ≤ 100000000 := by have h := o_g0_4.1; rw [length_intCells] at h; have := length_rowsR l_aBox; omega
  have lt_g1 := Lib.hid (fun g (h : (Value.slice A_g1 n_g1 c_g1).ownBlock = some g) => o_g1_4.lt g h)
  have ln_g1 : n_g1 ≤ 100000000 := by have h := o_g1_4.1; rw [length_intCells] at h; have := length_colsR l_aBox; omega
  go_wp2_with fail
  refine (eqIntS_same _ _ _ _ _ _ _ _ (Rd.of_own o_g0_4) (Rd.of_own o_w0_4) (by omega) (by omega)).mono ?_; rintro e w5 ⟨rfl, hb5⟩; have s5 := hb5.size
  have bw5 : Below w.heap.size w w5 := bcall bw4.size hb5 bw4
  have q5 := bw5.size
  have o_sp0_5 := own_later o_sp0_4 hb5 (Nat.le_refl _)
  have o_w0_5 := own_later o_w0_4 hb5 (Nat.le_refl _)
  have o_w1_5 := own_later o_w1_4 hb5 (Nat.le_refl _)
  have o_x0_5 := own_later o_x0_4 hb5 (Nat.le_refl _)
  have o_g0_5 := own_later o_g0_4 hb5 (Nat.le_refl _)
  have o_g1_5 := own_later o_g1_4 hb5 (Nat.le_refl _)
  have bc_w0_5 : Below w2.heap.size w2 w5 := bc_w0_4.trans (hb5.mono (by omega))
  have bc_w1_5 : Below w2.heap.size w2 w5 := bc_w1_4.trans (hb5.mono (by omega))
  go_wp2_with fail
  refine (eqIntS_same _ _ _ _ _ _ _ _ (Rd.of_own o_g1_5) (Rd.of_own o_w1_5) (by omega) (by omega)).mono ?_; rintro e w6 ⟨rfl, hb6⟩; have s6 := hb6.size
  have bw6 : Below w.heap.size w w6 := bcall bw5.size hb6 bw5
  have q6 := bw6.size
  have o_sp0_6 := own_later o_sp0_5 hb6 (Nat.le_refl _)
  have o_w0_6 := own_later o_w0_5 hb6 (Nat.le_refl _)
  have o_w1_6 := own_later o_w1_5 hb6 (Nat.le_refl _)
  have o_x0_6 := own_later o_x0_5 hb6 (Nat.le_refl _)
  have o_g0_6 := own_later o_g0_5 hb6 (Nat.le_refl _)
  have o_g1_6 := own_later o_g1_5 hb6 (Nat.le_refl _)
  have bc_w0_6 : Below w2.heap.size w2 w6 := bc_w0_5.trans (hb6.mono (by omega))
  have bc_w1_6 : Below w2.heap.size w2 w6 := bc_w1_5.trans (hb6.mono (by omega))
  go_wp2_with fail
  refine (toStringS_any _ _ _ l_aBox _ (rd_aBox.later bw6 (Nat.le_refl _)) hn2_aBox).mono ?_; rintro e w7 ⟨g_cy6, rfl, o_cy6_7, hb7⟩; have s7 := hb7.size
  have bw7 : Below w.heap.size w w7 := bcall bw6.size hb7 bw6
  have q7 := bw7.size
  have o_sp0_7 := own_later o_sp0_6 hb7 (Nat.le_refl _)
  have o_w0_7 := own_later o_w0_6 hb7 (Nat.le_refl _)
  have o_w1_7 := own_later o_w1_6 hb7 (Nat.le_refl _)
  have o_x0_7 := own_later o_x0_6 hb7 (Nat.le_refl _)
  have o_g0_7 := own_later o_g0_6 hb7 (Nat.le_refl _)
  have o_g1_7 := own_later o_g1_6 hb7 (Nat.le_refl _)
  have bc_w0_7 : Below w2.heap.size w2 w7 := bc_w0_6.trans (hb7.mono (by omega))
  have bc_w1_7 : Below w2.heap.size w2 w7 := bc_w1_6.trans (hb7.mono (by omega))
  have lt_cy6 := Lib.hid (fun g (h : (Value.slice (some ⟨g_cy6, 0, none⟩) n_aBox n_aBox).ownBlock = some g) => o_cy6_7.lt g h)
  go_wp2_with fail
  refine (eqStringS_same _ _ _ _ _ _ _ _ (Rd.of_own o_x0_7) (Rd.of_own o_cy6_7) (by omega) (by omega)).mono ?_; rintro e w8 ⟨rfl, hb8⟩; have s8 := hb8.size
  have bw8 : Below w.heap.size w w8 := bcall bw7.size hb8 bw7
  have q8 := bw8.size
  have o_sp0_8 := own_later o_sp0_7 hb8 (Nat.le_refl _)
  have o_w0_8 := own_later o_w0_7 hb8 (Nat.le_refl _)
  have o_w1_8 := own_later o_w1_7 hb8 (Nat.le_refl _)
  have o_x0_8 := own_later o_x0_7 hb8 (Nat.le_refl _)
  have o_g0_8 := own_later o_g0_7 hb8 (Nat.le_refl _)
  have o_g1_8 := own_later o_g1_7 hb8 (Nat.le_refl _)
  have o_cy6_8 := own_later o_cy6_7 hb8 (Nat.le_refl _)
  have bc_w0_8 : Below w2.heap.size w2 w8 := bc_w0_7.trans (hb8.mono (by omega))
  have bc_w1_8 : Below w2.heap.size w2 w8 := bc_w1_7.trans (hb8.mono (by omega))
  go_wp2_with fail
  refine (markStringS_any _ _ _ _ _ _ _ o_x0_8 (by omega) (by omega) (by omega)).mono ?_; rintro e w9 ⟨rfl, o_x0_9, hb9, hg9⟩; have s9 := hb9.size
  have m9 : w8.heap.size ≤ w9.heap.size := hg9.size
  have bw9 : Below w.heap.size w w9 := bw8.trans (hb9.mono (by omega))
  have q9 := bw9.size
  have bc_w0_9 : Below w2.heap.size w2 w9 := bc_w0_8.trans (hb9.mono (by omega))
  have bc_w1_9 : Below w2.heap.size w2 w9 := bc_w1_8.trans (hb9.mono (by omega))
  have o_sp0_9 := o_sp0_8.kept hg9 (own_apart (by exact lt_sp0.out) (by exact lt_x0.out) (by omega))
  have o_w0_9 := o_w0_8.kept hg9 (own_apart (by exact lt_w0.out) (by exact lt_x0.out) (by omega))
  have o_w1_9 := o_w1_8.kept hg9 (own_apart (by exact lt_w1.out) (by exact lt_x0.out) (by omega))
  have o_g0_9 := o_g0_8.kept hg9 (own_apart (by exact lt_g0.out) (by exact lt_x0.out) (by omega))
  have o_g1_9 := o_g1_8.kept hg9 (own_apart (by exact lt_g1.out) (by exact lt_x0.out) (by omega))
  have o_cy6_9 := o_cy6_8.kept hg9 (own_apart (by exact lt_cy6.out) (by exact lt_x0.out) (by omega))
  go_wp2_with fail
  refine (eqIntS_same _ _ _ _ _ _ _ _ (Rd.of_own o_g0_9) (Rd.of_own o_w0_9) (by omega) (by omega)).mono ?_; rintro e w10 ⟨rfl, hb10⟩; have s10 := hb10.size
  have bw10 : Below w.heap.size w w10 := bcall bw9.size hb10 bw9
  have q10 := bw10.size
  have o_sp0_10 := own_later o_sp0_9 hb10 (Nat.le_refl _)
  have o_w0_10 := own_later o_w0_9 hb10 (Nat.le_refl _)
  have o_w1_10 := own_later o_w1_9 hb10 (Nat.le_refl _)
  have o_x0_10 := own_later o_x0_9 hb10 (Nat.le_refl _)
  have o_g0_10 := own_later o_g0_9 hb10 (Nat.le_refl _)
  have o_g1_10 := own_later o_g1_9 hb10 (Nat.le_refl _)
  have o_cy6_10 := own_later o_cy6_9 hb10 (Nat.le_refl _)
  have bc_w0_10 : Below w2.heap.size w2 w10 := bc_w0_9.trans (hb10.mono (by omega))
  have bc_w1_10 : Below w2.heap.size w2 w10 := bc_w1_9.trans (hb10.mono (by omega))
  go_wp2_with fail
  refine (eqIntS_same _ _ _ _ _ _ _ _ (Rd.of_own o_g1_10) (Rd.of_own o_w1_10) (by omega) (by omega)).mono ?_; rintro e w11 ⟨rfl, hb11⟩; have s11 := hb11.size
  have bw11 : Below w.heap.size w w11 := bcall bw10.size hb11 bw10
  have q11 := bw11.size
  have o_sp0_11 := own_later o_sp0_10 hb11 (Nat.le_refl _)
  have o_w0_11 := own_later o_w0_10 hb11 (Nat.le_refl _)
  have o_w1_11 := own_later o_w1_10 hb11 (Nat.le_refl _)
  have o_x0_11 := own_later o_x0_10 hb11 (Nat.le_refl _)
  have o_g0_11 := own_later o_g0_10 hb11 (Nat.le_refl _)
  have o_g1_11 := own_later o_g1_10 hb11 (Nat.le_refl _)
  have o_cy6_11 := own_later o_cy6_10 hb11 (Nat.le_refl _)
  have bc_w0_11 : Below w2.heap.size w2 w11 := bc_w0_10.trans (hb11.mono (by omega))
  have bc_w1_11 : Below w2.heap.size w2 w11 := bc_w1_10.trans (hb11.mono (by omega))
  go_wp2_with fail
  refine (markIntS_any _ _ _ _ _ _ _ o_g0_11 (by omega) (by omega) (by omega)).mono ?_; rintro e w12 ⟨rfl, o_g0_12, hb12, hg12⟩; have s12 := hb12.size
  have m12 : w11.heap.size ≤ w12.heap.size := hg12.size
  have bw12 : Below w.heap.size w w12 := bw11.trans (hb12.mono (by omega))
  have q12 := bw12.size
  have bc_w0_12 : Below w2.heap.size w2 w12 := bc_w0_11.trans (hb12.mono (by omega))
  have bc_w1_12 : Below w2.heap.size w2 w12 := bc_w1_11.trans (hb12.mono (by omega))
  have o_sp0_12 := o_sp0_11.kept hg12 (own_apart (by exact lt_sp0.out) (by exact lt_g0.out) (by omega))
  have o_w0_12 := o_w0_11.kept hg12 (own_apart (by exact lt_w0.out) (by exact lt_g0.out) (by omega))
  have o_w1_12 := o_w1_11.kept hg12 (own_apart (by exact lt_w1.out) (by exact lt_g0.out) (by omega))
  have o_x0_12 := o_x0_11.kept hg12 (own_apart (by exact lt_x0.out) (by exact lt_g0.out) (by omega))
  have o_g1_12 := o_g1_11.kept hg12 (ap_im.2)
  have o_cy6_12 := o_cy6_11.kept hg12 (own_apart (by exact lt_cy6.out) (by exact lt_g0.out) (by omega))
  go_wp2_with fail
  refine (markIntS_any _ _ _ _ _ _ _ o_g1_12 (by omega) (by omega) (by omega)).mono ?_; rintro e w13 ⟨rfl, o_g1_13, hb13, hg13⟩; have s13 := hb13.size
  have m13 : w12.heap.size ≤ w13.heap.size := hg13.size
  have bw13 : Below w.heap.size w w13 := bw12.trans (hb13.mono (by omega))
  have q13 := bw13.size
  have bc_w0_13 : Below w2.heap.size w2 w13 := bc_w0_12.trans (hb13.mono (by omega))
  have bc_w1_13 : Below w2.heap.size w2 w13 := bc_w1_12.trans (hb13.mono (by omega))
  have o_sp0_13 := o_sp0_12.kept hg13 (own_apart (by exact lt_sp0.out) (by exact lt_g1.out) (by omega))
  have o_w0_13 := o_w0_12.kept hg13 (own_apart (by exact lt_w0.out) (by exact lt_g1.out) (by omega))
  have o_w1_13 := o_w1_12.kept hg13 (own_apart (by exact lt_w1.out) (by exact lt_g1.out) (by omega))
  have o_x0_13 := o_x0_12.kept hg13 (own_apart (by exact lt_x0.out) (by exact lt_g1.out) (by omega))
  have o_g0_13 := o_g0_12.kept hg13 (ap_im.1)
  have o_cy6_13 := o_cy6_12.kept hg13 (own_apart (by exact lt_cy6.out) (by exact lt_g1.out) (by omega))
  go_wp2_with fail
  refine (heldIntS_any _ _ _ _ _ (Rd.of_own o_g0_13) (by omega) (by omega) (by omega)).mono ?_; rintro e wx ⟨rfl, rfl⟩
  go_wp2_with fail
  refine (heldIntS_any _ _ _ _ _ (Rd.of_own o_g1_13) (by omega) (by omega) (by omega)).mono ?_; rintro e wx ⟨rfl, rfl⟩
  go_wp2_with fail
  refine (toStringS_any _ _ _ l_aBox _ (rd_aBox.later bw13 (Nat.le_refl _)) hn2_aBox).mono ?_; rintro e w14 ⟨g_ag0, rfl, o_ag0_14, hb14⟩; have s14 := hb14.size
  have bw14 : Below w.heap.size w w14 := bcall bw13.size hb14 bw13
  have q14 := bw14.size
  have o_sp0_14 := own_later o_sp0_13 hb14 (Nat.le_refl _)
  have o_w0_14 := own_later o_w0_13 hb14 (Nat.le_refl _)
  have o_w1_14 := own_later o_w1_13 hb14 (Nat.le_refl _)
  have o_x0_14 := own_later o_x0_13 hb14 (Nat.le_refl _)
  have o_g0_14 := own_later o_g0_13 hb14 (Nat.le_refl _)
  have o_g1_14 := own_later o_g1_13 hb14 (Nat.le_refl _)
  have o_cy6_14 := own_later o_cy6_13 hb14 (Nat.le_refl _)
  have bc_w0_14 : Below w2.heap.size w2 w14 := bc_w0_13.trans (hb14.mono (by omega))
  have bc_w1_14 : Below w2.heap.size w2 w14 := bc_w1_13.trans (hb14.mono (by omega))
  have lt_ag0 := Lib.hid (fun g (h : (Value.slice (some ⟨g_ag0, 0, none⟩) n_aBox n_aBox).ownBlock = some g) => o_ag0_14.lt g h)
  go_wp2_with fail
  refine (rowsCols_any _ _ _ l_aBox _ (Rd.of_own o_ag0_14) HS_aBox.out hn2_aBox).mono ?_; rintro e w15 ⟨A_h0, n_h0, c_h0, A_h1, n_h1, c_h1, rfl, o_h0_15, o_h1_15, ap_ag, hb15⟩; have s15 := hb15.size
  have bw15 : Below w.heap.size w w15 := bcall bw14.size hb15 bw14
  have q15 := bw15.size
  have o_sp0_15 := own_later o_sp0_14 hb15 (Nat.le_refl _)
  have o_w0_15 := own_later o_w0_14 hb15 (Nat.le_refl _)
  have o_w1_15 := own_later o_w1_14 hb15 (Nat.le_refl _)
  have o_x0_15 := own_later o_x0_14 hb15 (Nat.le_refl _)
  have o_g0_15 := own_later o_g0_14 hb15 (Nat.le_refl _)
  have o_g1_15 := own_later o_g1_14 hb15 (Nat.le_refl _)
  have o_cy6_15 := own_later o_cy6_14 hb15 (Nat.le_refl _)
  have o_ag0_15 := own_later o_ag0_14 hb15 (Nat.le_refl _)
  have bc_w0_15 : Below w2.heap.size w2 w15 := bc_w0_14.trans (hb15.mono (by omega))
  have bc_w1_15 : Below w2.heap.size w2 w15 := bc_w1_14.trans (hb15.mono (by omega))
  have lt_h0 := Lib.hid (fun g (h : (Value.slice A_h0 n_h0 c_h0).ownBlock = some g) => o_h0_15.lt g h)
  have ln_h0 : n_h0 ≤ 100000000 := by have h := o_h0_15.1; rw [length_intCells] at h; have := length_rowsR l_aBox; omega
  have lt_h1 := Lib.hid (fun g (h : (Value.slice A_h1 n_h1 c_h1).ownBlock = some g) => o_h1_15.lt g h)
  have ln_h1 : n_h1 ≤ 100000000 := by have h := o_h1_15.1; rw [length_intCells] at h; have := length_colsR l_aBox; omega
  go_wp2_with fail
  refine (eqIntS_same _ _ _ _ _ _ _ _ (Rd.of_own o_h0_15) (Rd.of_own o_w0_15) (by omega) (by omega)).mono ?_; rintro e w16 ⟨rfl, hb16⟩; have s16 := hb16.size
  have bw16 : Below w.heap.size w w16 := bcall bw15.size hb16 bw15
  have q16 := bw16.size
  have o_sp0_16 := own_later o_sp0_15 hb16 (Nat.le_refl _)
  have o_w0_16 := own_later o_w0_15 hb16 (Nat.le_refl _)
  have o_w1_16 := own_later o_w1_15 hb16 (Nat.le_refl _)
  have o_x0_16 := own_later o_x0_15 hb16 (Nat.le_refl _)
  have o_g0_16 := own_later o_g0_15 hb16 (Nat.le_refl _)
  have o_g1_16 := own_later o_g1_15 hb16 (Nat.le_refl _)
  have o_cy6_16 := own_later o_cy6_15 hb16 (Nat.le_refl _)
  have o_ag0_16 := own_later o_ag0_15 hb16 (Nat.le_refl _)
  have o_h0_16 := own_later o_h0_15 hb16 (Nat.le_refl _)
  have o_h1_16 := own_later o_h1_15 hb16 (Nat.le_refl _)
  have bc_w0_16 : Below w2.heap.size w2 w16 := bc_w0_15.trans (hb16.mono (by omega))
  have bc_w1_16 : Below w2.heap.size w2 w16 := bc_w1_15.trans (hb16.mono (by omega))
  go_wp2_with fail
  refine (eqIntS_same _ _ _ _ _ _ _ _ (Rd.of_own o_h1_16) (Rd.of_own o_w1_16) (by omega) (by omega)).mono ?_; rintro e w17 ⟨rfl, hb17⟩; have s17 := hb17.size
  have bw17 : Below w.heap.size w w17 := bcall bw16.size hb17 bw16
  have q17 := bw17.size
  have o_sp0_17 := own_later o_sp0_16 hb17 (Nat.le_refl _)
  have o_w0_17 := own_later o_w0_16 hb17 (Nat.le_refl _)
  have o_w1_17 := own_later o_w1_16 hb17 (Nat.le_refl _)
  have o_x0_17 := own_later o_x0_16 hb17 (Nat.le_refl _)
  have o_g0_17 := own_later o_g0_16 hb17 (Nat.le_refl _)
  have o_g1_17 := own_later o_g1_16 hb17 (Nat.le_refl _)
  have o_cy6_17 := own_later o_cy6_16 hb17 (Nat.le_refl _)
  have o_ag0_17 := own_later o_ag0_16 hb17 (Nat.le_refl _)
  have o_h0_17 := own_later o_h0_16 hb17 (Nat.le_refl _)
  have o_h1_17 := own_later o_h1_16 hb17 (Nat.le_refl _)
  have bc_w0_17 : Below w2.heap.size w2 w17 := bc_w0_16.trans (hb17.mono (by omega))
  have bc_w1_17 : Below w2.heap.size w2 w17 := bc_w1_16.trans (hb17.mono (by omega))
  go_wp2_with fail
  refine (heldIntS_any _ _ _ _ _ (Rd.of_own o_g0_17) (by omega) (by omega) (by omega)).mono ?_; rintro e wx ⟨rfl, rfl⟩
  go_wp2_with fail
  refine (heldIntS_any _ _ _ _ _ (Rd.of_own o_g1_17) (by omega) (by omega) (by omega)).mono ?_; rintro e wx ⟨rfl, rfl⟩
  go_wp2
  go_ret
  exact ⟨rfl, bw17⟩

theorem own : ownKnob Tryd.prog.godebug = none := by kernel_rfl
theorem laidOut : laidOutB Tryd.prog = true := by kernel_rfl
def theLaid : List (String × DataW Unit) := [("unicode/utf8.acceptRanges", Rows.laid_unicode_utf8_acceptRanges), ("unicode/utf8.first", Rows.laid_unicode_utf8_first)]
theorem door_met (os : Os) (args : Array Value) : laidMetH Tryd.prog theLaid ((World.laidAll Tryd.prog os theLaid).forCall (fun _ _ => 0) ⟨#[], args, []⟩).memory :=
  laidMet_laidAll _ (by kernel_rfl) (by kernel_rfl)

set_option maxRecDepth 100000 in
theorem lifted (os : Os) (started : os.Started) (H : Type) (enc : TypeId × Value → H) :
    ReturnsInHanded {} Tryd.checked os 5 .any (fun w args => (Rows.fnExactRowsAndColumnsSpec.pre enc Tryd.prog Tryd.f5 [] false w args ∧ laidMetH Tryd.prog theLaid w) ∧ sizedMet enc Tryd.prog Tryd.f5 (OpenSpec.ofChange Rows.fnExactRowsAndColumnsSpec) false w args)
      (Rows.fnExactRowsAndColumnsSpec.post enc Tryd.prog Tryd.f5 false true false false) := by
  refine returnsInHanded_of_change_and (C := Tryd.checked) (X := fun w _ => laidMetH Tryd.prog theLaid w) (fun _ _ _ hh h => h.of_heap hh) own started (by kernel_rfl) Tryd.func5
    (ChangeSpec.witness_shaped (enc := enc) (C := Tryd.checked) (os := os) (X := fun w _ => laidMetH Tryd.prog theLaid w) false (World.laidAll Tryd.prog os theLaid) #[.slice none 0 0] 8 (World.laidAll_os _ _ _) (World.shaped_of_ZipB (by kernel_rfl) (by kernel_rfl)) (by kernel_rfl) (by kernel_rfl) (by kernel_rfl) (door_met os _)) ?_
  intro W base args ds gs before hval0 hW _ _ hL _
  have hval : ∀ (j : Nat) t v, Tryd.f5.params[j]? = some t → args[j]? = some v → Value.okWide Tryd.prog W .any base t v := hval0
  have hW' := hW
  obtain ⟨p, q, hA0, hV, rfl, hfz, hnd⟩ := hW
  have hA : DataW.TrodAll enc Tryd.prog W 0 (fun _ => true) true Tryd.f5.params.toList args.toList ds p := hA0
  rw [Tryd.params5] at hA hval
  obtain ⟨v0, vs0, d0, ds0, p0, q0, hargs, rfl, rfl, h0, r0⟩ := trodAll_cons hA
  obtain ⟨rfl, rfl, rfl⟩ := trodAll_nil r0
  obtain rfl : args = #[v0] := by cases args; simp_all
  obtain ⟨rfl, rfl⟩ := trodVars_none hV
  obtain ⟨A0, n0, c0, rfl⟩ := okWide_slice Tryd.underlying28 (hval 0 28 v0 rfl rfl)
  have k0 := h0
  have lt0 : ∀ x ∈ p0, x.block < W.heap.size := by obtain ⟨m, hm⟩ := k0; exact DataW.trod_lt m _ _ _ hm
  obtain ⟨xs0, rd0, sz0, hl0⟩ := open_strL Tryd.underlying28 Tryd.underlying9 (show Tryd.prog.cellsOf 9 = 1 by kernel_rfl) h0
  clear hA0 hval0
  skip
  refine (walk A0 n0 c0 xs0 W rd0 sz0 hl0).mono fun e W' ⟨he, bel⟩ => ?_
  subst he
  exact ⟨_, rfl, _, _, _, [], _, [], hW', trodAll_mk1 (shut_bool Tryd.underlying4 _), (trodAll_cons_mk (Below.trod laidOut (by kernel_rfl) (of_decide_eq_true (by kernel_rfl)) k0 bel lt0) trodAll_mk0), rfl, bel.frame _, fun h => by cases h⟩

theorem said : Rows.FnExactRowsAndColumnsSaid :=
  OpenClaim.holds_of_wide 5 Tryd.f5 rfl rfl rfl rfl rfl rfl rfl ⟨rfl, rfl, rfl, rfl, rfl⟩ rfl rfl rfl rfl rfl (by kernel_rfl) Tryd.func5 (by kernel_rfl)
    (of_decide_eq_true (by kernel_rfl)) (by unfold Func.isWrapper; first | (rw [if_pos (by decide +kernel)]; kernel_rfl) | (rw [if_neg (by decide +kernel)]; exact ⟨rfl, rfl⟩))
    (fun os started H enc _ => lifted os started H enc)

theorem proved : Rows.FnExactRowsAndColumnsCardSaid :=
  Claim7.holds_tied_plain_at .later [] [.data, .pinned] true (true, "4683d9c686a2f5ea22be4b3b40b5ebc27d89dae6d1b905fd5ccc1f2369e687d2") false
    said (fun _ h => by cases h) (by kernel_rfl) (fun _ h => by cases h) fnExactRowsAndColumns_row_tie rfl ⟨rfl, rfl⟩ (by kernel_rfl) rfl
    (fun f fn hf hfn => by
      obtain rfl : f = 5 := Option.some.inj ((show Tryd.prog.funcNamed "loop.example/g01377/laws.FnExactRowsAndColumns" = some 5 by kernel_rfl).symm.trans hf) |>.symm
      obtain rfl : fn = Tryd.f5 := (Option.some.inj (Tryd.func5.symm.trans hfn)).symm
      exact ⟨by kernel_rfl, fun j t ht => by
        rw [Tryd.params5] at ht
        have hm : t ∈ [28] := by simpa using Array.mem_of_getElem? ht
        have hall : ([28].all fun u => !Tryd.prog.wantsStandIn u) = true := by kernel_rfl
        exact (show Tryd.prog.wantsStandIn t = false by simpa using List.all_eq_true.1 hall t hm)⟩)
    (by kernel_rfl)

#print axioms proved
end Go.Proofs.YtcggiekhlophlabDoor.lawRowsAndColumns
