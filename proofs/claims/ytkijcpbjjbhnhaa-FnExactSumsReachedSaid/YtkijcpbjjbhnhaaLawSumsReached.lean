/-
  Proved: for every list of numbers the law's calls of SumsReached answer as the model does, in memory of their own, and leave the arguments alone. Conditions: none.
-/
import Derived.Test.YtkijcpbjjbhnhaaSumS
import Derived.Test.YtkijcpbjjbhnhaaIKit
import Derived.ProofKit
import Derived.OpenShut
import Derived.Lib.SmallJoins
namespace Go.Proofs.Ytkijcpbjjbhnhaa.lawSumsReached
open Go.ChangeShapes Go.WideShapes Go.ChangeAt Go.RowKit Go.Joins Go.Deep
set_option linter.unusedVariables false

set_option maxRecDepth 100000 in
set_option maxHeartbeats 4000000 in
theorem walk (A_aWeights : Option Addr) (n_aWeights c_aWeights : Nat) (l_aWeights : List Int) (w : World) (rd_aWeights : Rd w 1 A_aWeights n_aWeights (intCells l_aWeights)) (hw_aWeights : ∀ z ∈ l_aWeights, (Lit.int .i64 z).wf = true) (hn_aWeights : n_aWeights ≤ 9223372036854775807) :
    Calls Try.prog 7 #[.slice A_aWeights n_aWeights c_aWeights] w fun e w' => e = .returned (.bool true) ∧ Below w.heap.size w w' := by
  clear hw_aWeights
  go_enter Try.func7, Try.ntmps7
  have bw0 : Below w.heap.size w w := Below.refl _ _
  by_cases hn2_aWeights : n_aWeights ≤ 1048576
  case neg =>
    go_wp2
    go_ret
    exact ⟨rfl, bw0⟩
  go_wp2_with fail
  refine (toIntS_any _ _ _ l_aWeights _ (rd_aWeights.later bw0 (Nat.le_refl _)) hn2_aWeights).mono ?_; rintro e w1 ⟨g_sp0, rfl, o_sp0_1, hb1⟩; have s1 := hb1.size; (try simp at s1)
  have bw1 : Below w.heap.size w w1 := bcall bw0.size hb1 bw0
  have q1 := bw1.size
  have lt_sp0 := Lib.hid (fun g (h : (Value.slice (some ⟨g_sp0, 0, none⟩) n_aWeights n_aWeights).ownBlock = some g) => o_sp0_1.lt g h)
  go_wp2_with fail
  refine (sSumsReached_any _ _ _ l_aWeights _ (Rd.of_own o_sp0_1) (by omega)).mono ?_; rintro e w2 ⟨A_w0, n_w0, c_w0, rfl, o_w0_2, hb2⟩; have s2 := hb2.size
  have bw2 : Below w.heap.size w w2 := bcall bw1.size hb2 bw1
  have q2 := bw2.size
  have o_sp0_2 := own_later o_sp0_1 hb2 (Nat.le_refl _)
  have bc_w0_2 : Below w2.heap.size w2 w2 := Below.refl _ _; have oc_w0 := Lib.hid o_w0_2
  have lt_w0 := Lib.hid (fun g (h : (Value.slice A_w0 n_w0 c_w0).ownBlock = some g) => o_w0_2.lt g h)
  have ln_w0 : n_w0 ≤ 100000000 := by have h := o_w0_2.1; rw [length_intCells] at h; have := length_srR l_aWeights; omega
  go_wp2_with fail
  refine (toIntS_any _ _ _ l_aWeights _ (rd_aWeights.later bw2 (Nat.le_refl _)) hn2_aWeights).mono ?_; rintro e w3 ⟨g_x0, rfl, o_x0_3, hb3⟩; have s3 := hb3.size
  have bw3 : Below w.heap.size w w3 := bcall bw2.size hb3 bw2
  have q3 := bw3.size
  have o_sp0_3 := own_later o_sp0_2 hb3 (Nat.le_refl _)
  have o_w0_3 := own_later o_w0_2 hb3 (Nat.le_refl _)
  have bc_w0_3 : Below w2.heap.size w2 w3 := bc_w0_2.trans (hb3.mono (by omega))
  have lt_x0 := Lib.hid (fun g (h : (Value.slice (some ⟨g_x0, 0, none⟩) n_aWeights n_aWeights).ownBlock = some g) => o_x0_3.lt g h)
  go_wp2_with fail
  refine (sumsReached_any _ _ _ l_aWeights _ (Rd.of_own o_x0_3) (by omega)).mono ?_; rintro e w4 ⟨A_g0, n_g0, c_g0, rfl, o_g0_4, hb4⟩; have s4 := hb4.size
  have bw4 : Below w.heap.size w w4 := bcall bw3.size hb4 bw3
  have q4 := bw4.size
  have o_sp0_4 := own_later o_sp0_3 hb4 (Nat.le_refl _)
  have o_w0_4 := own_later o_w0_3 hb4 (Nat.le_refl _)
  have o_x0_4 := own_later o_x0_3 hb4 (Nat.le_refl _)
  have bc_w0_4 : Below w2.heap.size w2 w4 := bc_w0_3.trans (hb4.mono (by omega))
  have lt_g0 := Lib.hid (fun g (h : (Value.slice A_g0 n_g0 c_g0).ownBlock = some g) => o_g0_4.lt g h)
  have ln_g0 : n_g0 ≤ 100000000 := by have h := o_g0_4.1; rw [length_intCells] at h; have := length_srR l_aWeights; omega
  go_wp2_with fail
  refine (eqIntS_same _ _ _ _ _ _ _ _ (Rd.of_own o_g0_4) (Rd.of_own o_w0_4) (by omega) (by omega)).mono ?_; rintro e w5 ⟨rfl, hb5⟩; have s5 := hb5.size
  have bw5 : Below w.heap.size w w5 := bcall bw4.size hb5 bw4
  have q5 := bw5.size
  have o_sp0_5 := own_later o_sp0_4 hb5 (Nat.le_refl _)
  have o_w0_5 := own_later o_w0_4 hb5 (Nat.le_refl _)
  have o_x0_5 := own_later o_x0_4 hb5 (Nat.le_refl _)
  have o_g0_5 := own_later o_g0_4 hb5 (Nat.le_refl _)
  have bc_w0_5 : Below w2.heap.size w2 w5 := bc_w0_4.trans (hb5.mono (by omega))
  go_wp2_with fail
  refine (toIntS_any _ _ _ l_aWeights _ (rd_aWeights.later bw5 (Nat.le_refl _)) hn2_aWeights).mono ?_; rintro e w6 ⟨g_cy5, rfl, o_cy5_6, hb6⟩; have s6 := hb6.size
  have bw6 : Below w.heap.size w w6 := bcall bw5.size hb6 bw5
  have q6 := bw6.size
  have o_sp0_6 := own_later o_sp0_5 hb6 (Nat.le_refl _)
  have o_w0_6 := own_later o_w0_5 hb6 (Nat.le_refl _)
  have o_x0_6 := own_later o_x0_5 hb6 (Nat.le_refl _)
  have o_g0_6 := own_later o_g0_5 hb6 (Nat.le_refl _)
  have bc_w0_6 : Below w2.heap.size w2 w6 := bc_w0_5.trans (hb6.mono (by omega))
  have lt_cy5 := Lib.hid (fun g (h : (Value.slice (some ⟨g_cy5, 0, none⟩) n_aWeights n_aWeights).ownBlock = some g) => o_cy5_6.lt g h)
  go_wp2_with fail
  refine (eqIntS_same _ _ _ _ _ _ _ _ (Rd.of_own o_x0_6) (Rd.of_own o_cy5_6) (by omega) (by omega)).mono ?_; rintro e w7 ⟨rfl, hb7⟩; have s7 := hb7.size
  have bw7 : Below w.heap.size w w7 := bcall bw6.size hb7 bw6
  have q7 := bw7.size
  have o_sp0_7 := own_later o_sp0_6 hb7 (Nat.le_refl _)
  have o_w0_7 := own_later o_w0_6 hb7 (Nat.le_refl _)
  have o_x0_7 := own_later o_x0_6 hb7 (Nat.le_refl _)
  have o_g0_7 := own_later o_g0_6 hb7 (Nat.le_refl _)
  have o_cy5_7 := own_later o_cy5_6 hb7 (Nat.le_refl _)
  have bc_w0_7 : Below w2.heap.size w2 w7 := bc_w0_6.trans (hb7.mono (by omega))
  go_wp2_with fail
  refine (markIntS_any _ _ _ _ _ _ _ o_x0_7 (by omega) (by omega) (by omega)).mono ?_; rintro e w8 ⟨rfl, o_x0_8, hb8, hg8⟩; have s8 := hb8.size
  have m8 : w7.heap.size ≤ w8.heap.size := hg8.size
  have bw8 : Below w.heap.size w w8 := bw7.trans (hb8.mono (by omega))
  have q8 := bw8.size
  have bc_w0_8 : Below w2.heap.size w2 w8 := bc_w0_7.trans (hb8.mono (by omega))
  have o_sp0_8 := o_sp0_7.kept hg8 (own_apart (by exact lt_sp0.out) (by exact lt_x0.out) (by omega))
  have o_w0_8 := o_w0_7.kept hg8 (own_apart (by exact lt_w0.out) (by exact lt_x0.out) (by omega))
  have o_g0_8 := o_g0_7.kept hg8 (own_apart (by exact lt_g0.out) (by exact lt_x0.out) (by omega))
  have o_cy5_8 := o_cy5_7.kept hg8 (own_apart (by exact lt_cy5.out) (by exact lt_x0.out) (by omega))
  go_wp2_with fail
  refine (eqIntS_same _ _ _ _ _ _ _ _ (Rd.of_own o_g0_8) (Rd.of_own o_w0_8) (by omega) (by omega)).mono ?_; rintro e w9 ⟨rfl, hb9⟩; have s9 := hb9.size
  have bw9 : Below w.heap.size w w9 := bcall bw8.size hb9 bw8
  have q9 := bw9.size
  have o_sp0_9 := own_later o_sp0_8 hb9 (Nat.le_refl _)
  have o_w0_9 := own_later o_w0_8 hb9 (Nat.le_refl _)
  have o_x0_9 := own_later o_x0_8 hb9 (Nat.le_refl _)
  have o_g0_9 := own_later o_g0_8 hb9 (Nat.le_refl _)
  have o_cy5_9 := own_later o_cy5_8 hb9 (Nat.le_refl _)
  have bc_w0_9 : Below w2.heap.size w2 w9 := bc_w0_8.trans (hb9.mono (by omega))
  go_wp2_with fail
  refine (markIntS_any _ _ _ _ _ _ _ o_g0_9 (by omega) (by omega) (by omega)).mono ?_; rintro e w10 ⟨rfl, o_g0_10, hb10, hg10⟩; have s10 := hb10.size
  have m10 : w9.heap.size ≤ w10.heap.size := hg10.size
  have bw10 : Below w.heap.size w w10 := bw9.trans (hb10.mono (by omega))
  have q10 := bw10.size
  have bc_w0_10 : Below w2.heap.size w2 w10 := bc_w0_9.trans (hb10.mono (by omega))
  have o_sp0_10 := o_sp0_9.kept hg10 (own_apart (by exact lt_sp0.out) (by exact lt_g0.out) (by omega))
  have o_w0_10 := o_w0_9.kept hg10 (own_apart (by exact lt_w0.out) (by exact lt_g0.out) (by omega))
  have o_x0_10 := o_x0_9.kept hg10 (own_apart (by exact lt_x0.out) (by exact lt_g0.out) (by omega))
  have o_cy5_10 := o_cy5_9.kept hg10 (own_apart (by exact lt_cy5.out) (by exact lt_g0.out) (by omega))
  go_wp2_with fail
  refine (heldIntS_any _ _ _ _ _ (Rd.of_own o_g0_10) (by omega) (by omega) (by omega)).mono ?_; rintro e wx ⟨rfl, rfl⟩
  go_wp2_with fail
  refine (toIntS_any _ _ _ l_aWeights _ (rd_aWeights.later bw10 (Nat.le_refl _)) hn2_aWeights).mono ?_; rintro e w11 ⟨g_ag0, rfl, o_ag0_11, hb11⟩; have s11 := hb11.size
  have bw11 : Below w.heap.size w w11 := bcall bw10.size hb11 bw10
  have q11 := bw11.size
  have o_sp0_11 := own_later o_sp0_10 hb11 (Nat.le_refl _)
  have o_w0_11 := own_later o_w0_10 hb11 (Nat.le_refl _)
  have o_x0_11 := own_later o_x0_10 hb11 (Nat.le_refl _)
  have o_g0_11 := own_later o_g0_10 hb11 (Nat.le_refl _)
  have o_cy5_11 := own_later o_cy5_10 hb11 (Nat.le_refl _)
  have bc_w0_11 : Below w2.heap.size w2 w11 := bc_w0_10.trans (hb11.mono (by omega))
  have lt_ag0 := Lib.hid (fun g (h : (Value.slice (some ⟨g_ag0, 0, none⟩) n_aWeights n_aWeights).ownBlock = some g) => o_ag0_11.lt g h)
  go_wp2_with fail
  refine (sumsReached_any _ _ _ l_aWeights _ (Rd.of_own o_ag0_11) (by omega)).mono ?_; rintro e w12 ⟨A_h0, n_h0, c_h0, rfl, o_h0_12, hb12⟩; have s12 := hb12.size
  have bw12 : Below w.heap.size w w12 := bcall bw11.size hb12 bw11
  have q12 := bw12.size
  have o_sp0_12 := own_later o_sp0_11 hb12 (Nat.le_refl _)
  have o_w0_12 := own_later o_w0_11 hb12 (Nat.le_refl _)
  have o_x0_12 := own_later o_x0_11 hb12 (Nat.le_refl _)
  have o_g0_12 := own_later o_g0_11 hb12 (Nat.le_refl _)
  have o_cy5_12 := own_later o_cy5_11 hb12 (Nat.le_refl _)
  have o_ag0_12 := own_later o_ag0_11 hb12 (Nat.le_refl _)
  have bc_w0_12 : Below w2.heap.size w2 w12 := bc_w0_11.trans (hb12.mono (by omega))
  have lt_h0 := Lib.hid (fun g (h : (Value.slice A_h0 n_h0 c_h0).ownBlock = some g) => o_h0_12.lt g h)
  have ln_h0 : n_h0 ≤ 100000000 := by have h := o_h0_12.1; rw [length_intCells] at h; have := length_srR l_aWeights; omega
  go_wp2_with fail
  refine (eqIntS_same _ _ _ _ _ _ _ _ (Rd.of_own o_h0_12) (Rd.of_own o_w0_12) (by omega) (by omega)).mono ?_; rintro e w13 ⟨rfl, hb13⟩; have s13 := hb13.size
  have bw13 : Below w.heap.size w w13 := bcall bw12.size hb13 bw12
  have q13 := bw13.size
  have o_sp0_13 := own_later o_sp0_12 hb13 (Nat.le_refl _)
  have o_w0_13 := own_later o_w0_12 hb13 (Nat.le_refl _)
  have o_x0_13 := own_later o_x0_12 hb13 (Nat.le_refl _)
  have o_g0_13 := own_later o_g0_12 hb13 (Nat.le_refl _)
  have o_cy5_13 := own_later o_cy5_12 hb13 (Nat.le_refl _)
  have o_ag0_13 := own_later o_ag0_12 hb13 (Nat.le_refl _)
  have o_h0_13 := own_later o_h0_12 hb13 (Nat.le_refl _)
  have bc_w0_13 : Below w2.heap.size w2 w13 := bc_w0_12.trans (hb13.mono (by omega))
  go_wp2_with fail
  refine (heldIntS_any _ _ _ _ _ (Rd.of_own o_g0_13) (by omega) (by omega) (by omega)).mono ?_; rintro e wx ⟨rfl, rfl⟩
  go_wp2
  go_ret
  exact ⟨rfl, bw13⟩

theorem own : ownKnob Try.prog.godebug = none := by kernel_rfl
theorem laidOut : laidOutB Try.prog = true := by kernel_rfl

set_option maxRecDepth 100000 in
theorem lifted (os : Os) (started : os.Started) (H : Type) (enc : TypeId × Value → H) :
    ReturnsInHanded {} Try.checked os 7 .any (Rows.fnExactSumsReachedSpec.pre6 enc Try.prog Try.f7 Rows.fnExactSumsReachedRow.domain false) (Rows.fnExactSumsReachedSpec.post enc Try.prog Try.f7 false true false false) := by
  refine returnsInHanded_of_change (C := Try.checked) own started (by kernel_rfl) Try.func7
    (ChangeSpec.witness6 (enc := enc) (C := Try.checked) false ⟨#[], #[.slice none 0 0], []⟩ 8 (by kernel_rfl) (by kernel_rfl) (by kernel_rfl) (by kernel_rfl)) ?_
  intro W base args ds gs before hval0 hW hcnd _
  have hval : ∀ (j : Nat) t v, Try.f7.params[j]? = some t → args[j]? = some v → Value.okWide Try.prog W .any base t v := hval0
  have hW' := hW
  obtain ⟨p, q, hA0, hV, rfl, hfz, hnd⟩ := hW
  have hA : DataW.TrodAll enc Try.prog W 0 (fun _ => true) true Try.f7.params.toList args.toList ds p := hA0
  rw [Try.params7] at hA hval
  obtain ⟨v0, vs0, d0, ds0, p0, q0, hargs, rfl, rfl, h0, r0⟩ := trodAll_cons hA
  obtain ⟨rfl, rfl, rfl⟩ := trodAll_nil r0
  obtain rfl : args = #[v0] := by cases args; simp_all
  obtain ⟨rfl, rfl⟩ := trodVars_none hV
  obtain ⟨A0, n0, c0, rfl⟩ := okWide_slice Try.underlying22 (hval 0 22 v0 rfl rfl)
  have k0 := h0
  have lt0 : ∀ x ∈ p0, x.block < W.heap.size := by obtain ⟨m, hm⟩ := k0; exact DataW.trod_lt m _ _ _ hm
  obtain ⟨xs0, rd0, sz0, hl0⟩ := open_intL Try.underlying22 Try.underlying3 (show Try.prog.cellsOf 3 = 1 by kernel_rfl) h0
  clear hA0 hval0
  refine (walk A0 n0 c0 xs0 W rd0 sz0 hl0).mono fun e W' ⟨he, bel⟩ => ?_
  subst he
  exact ⟨_, rfl, _, _, _, [], _, [], hW', trodAll_mk1 (shut_bool Try.underlying4 _), (trodAll_cons_mk (Below.trod laidOut (by kernel_rfl) (of_decide_eq_true (by kernel_rfl)) k0 bel lt0) trodAll_mk0), rfl, bel.frame _, fun h => by cases h⟩

theorem proved : Rows.FnExactSumsReachedSaid :=
  OpenClaim.holds_of_wide 7 Try.f7 rfl rfl rfl rfl rfl rfl rfl ⟨rfl, rfl, rfl, rfl, rfl⟩ rfl rfl rfl rfl rfl (by kernel_rfl) Try.func7 (by kernel_rfl)
    (of_decide_eq_true (by kernel_rfl)) (by unfold Func.isWrapper; first | (rw [if_pos (by decide +kernel)]; kernel_rfl) | (rw [if_neg (by decide +kernel)]; exact ⟨rfl, rfl⟩))
    (fun os started H enc _ => lifted os started H enc)

#print axioms proved
end Go.Proofs.Ytkijcpbjjbhnhaa.lawSumsReached
