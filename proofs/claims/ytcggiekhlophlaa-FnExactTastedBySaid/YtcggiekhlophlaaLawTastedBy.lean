/-
  Proved: for every five numbers the law's calls of TastedBy answer as the model does, in memory of their own, and leave the arguments alone. Conditions: none.
-/
import Derived.Test.YtcggiekhlophlaaTasted
import Derived.ProofKit
import Derived.OpenShut
import Derived.Lib.SmallJoins
namespace Go.Proofs.Ytcggiekhlophlaa.lawTastedBy
open Go.ChangeShapes Go.WideShapes Go.ChangeAt Go.RowKit Go.Joins Go.Deep
set_option linter.unusedVariables false

set_option maxRecDepth 100000 in
set_option maxHeartbeats 4000000 in
theorem walk (z_aPralines : Int) (z_aTasters : Int) (z_aRounds : Int) (z_aTaster : Int) (z_aRound : Int) (w : World) (wz_aPralines : (Lit.int .i64 z_aPralines).wf = true) (wz_aTasters : (Lit.int .i64 z_aTasters).wf = true) (wz_aRounds : (Lit.int .i64 z_aRounds).wf = true) (wz_aTaster : (Lit.int .i64 z_aTaster).wf = true) (wz_aRound : (Lit.int .i64 z_aRound).wf = true) :
    Calls Try.prog 8 #[.int .i64 z_aPralines, .int .i64 z_aTasters, .int .i64 z_aRounds, .int .i64 z_aTaster, .int .i64 z_aRound] w fun e w' => e = .returned (.bool true) ∧ Below w.heap.size w w' := by
  clear wz_aPralines
  clear wz_aTasters
  clear wz_aRounds
  clear wz_aTaster
  clear wz_aRound
  go_enter Try.func8, Try.ntmps8
  have bw0 : Below w.heap.size w w := Below.refl _ _
  go_wp2_with fail
  refine (sTasted_any _ _ _ _ _ _  ).mono ?_; rintro e w1 ⟨A_w0, n_w0, c_w0, rfl, o_w0_1, hb1⟩; have s1 := hb1.size; (try simp at s1)
  have bw1 : Below w.heap.size w w1 := bcall bw0.size hb1 bw0
  have q1 := bw1.size
  have bc_w0_1 : Below w1.heap.size w1 w1 := Below.refl _ _; have oc_w0 := Lib.hid o_w0_1
  have lt_w0 := Lib.hid (fun g (h : (Value.slice A_w0 n_w0 c_w0).ownBlock = some g) => o_w0_1.lt g h)
  have ln_w0 : n_w0 ≤ 100000000 := by have h := o_w0_1.1; rw [length_intCells] at h; have := length_tbR z_aPralines z_aTasters z_aRounds z_aTaster z_aRound; omega
  go_wp2_with fail
  refine (tasted_any _ _ _ _ _ _  ).mono ?_; rintro e w2 ⟨A_g0, n_g0, c_g0, rfl, o_g0_2, hb2⟩; have s2 := hb2.size
  have bw2 : Below w.heap.size w w2 := bcall bw1.size hb2 bw1
  have q2 := bw2.size
  have o_w0_2 := own_later o_w0_1 hb2 (Nat.le_refl _)
  have bc_w0_2 : Below w1.heap.size w1 w2 := bc_w0_1.trans (hb2.mono (by omega))
  have lt_g0 := Lib.hid (fun g (h : (Value.slice A_g0 n_g0 c_g0).ownBlock = some g) => o_g0_2.lt g h)
  have ln_g0 : n_g0 ≤ 100000000 := by have h := o_g0_2.1; rw [length_intCells] at h; have := length_tbR z_aPralines z_aTasters z_aRounds z_aTaster z_aRound; omega
  go_wp2_with fail
  refine (eqIntS_same _ _ _ _ _ _ _ _ (Rd.of_own o_g0_2) (Rd.of_own o_w0_2) (by omega) (by omega)).mono ?_; rintro e w3 ⟨rfl, hb3⟩; have s3 := hb3.size
  have bw3 : Below w.heap.size w w3 := bcall bw2.size hb3 bw2
  have q3 := bw3.size
  have o_w0_3 := own_later o_w0_2 hb3 (Nat.le_refl _)
  have o_g0_3 := own_later o_g0_2 hb3 (Nat.le_refl _)
  have bc_w0_3 : Below w1.heap.size w1 w3 := bc_w0_2.trans (hb3.mono (by omega))
  go_wp2_with fail
  refine (markIntS_any _ _ _ _ _ _ _ o_g0_3 (by omega) (by omega) (by omega)).mono ?_; rintro e w4 ⟨rfl, o_g0_4, hb4, hg4⟩; have s4 := hb4.size
  have m4 : w3.heap.size ≤ w4.heap.size := hg4.size
  have bw4 : Below w.heap.size w w4 := bw3.trans (hb4.mono (by omega))
  have q4 := bw4.size
  have bc_w0_4 : Below w1.heap.size w1 w4 := bc_w0_3.trans (hb4.mono (by omega))
  have o_w0_4 := o_w0_3.kept hg4 (own_apart (by exact lt_w0.out) (by exact lt_g0.out) (by omega))
  go_wp2_with fail
  refine (heldIntS_any _ _ _ _ _ (Rd.of_own o_g0_4) (by omega) (by omega) (by omega)).mono ?_; rintro e wx ⟨rfl, rfl⟩
  go_wp2_with fail
  refine (tasted_any _ _ _ _ _ _  ).mono ?_; rintro e w5 ⟨A_h0, n_h0, c_h0, rfl, o_h0_5, hb5⟩; have s5 := hb5.size
  have bw5 : Below w.heap.size w w5 := bcall bw4.size hb5 bw4
  have q5 := bw5.size
  have o_w0_5 := own_later o_w0_4 hb5 (Nat.le_refl _)
  have o_g0_5 := own_later o_g0_4 hb5 (Nat.le_refl _)
  have bc_w0_5 : Below w1.heap.size w1 w5 := bc_w0_4.trans (hb5.mono (by omega))
  have lt_h0 := Lib.hid (fun g (h : (Value.slice A_h0 n_h0 c_h0).ownBlock = some g) => o_h0_5.lt g h)
  have ln_h0 : n_h0 ≤ 100000000 := by have h := o_h0_5.1; rw [length_intCells] at h; have := length_tbR z_aPralines z_aTasters z_aRounds z_aTaster z_aRound; omega
  go_wp2_with fail
  refine (eqIntS_same _ _ _ _ _ _ _ _ (Rd.of_own o_h0_5) (Rd.of_own o_w0_5) (by omega) (by omega)).mono ?_; rintro e w6 ⟨rfl, hb6⟩; have s6 := hb6.size
  have bw6 : Below w.heap.size w w6 := bcall bw5.size hb6 bw5
  have q6 := bw6.size
  have o_w0_6 := own_later o_w0_5 hb6 (Nat.le_refl _)
  have o_g0_6 := own_later o_g0_5 hb6 (Nat.le_refl _)
  have o_h0_6 := own_later o_h0_5 hb6 (Nat.le_refl _)
  have bc_w0_6 : Below w1.heap.size w1 w6 := bc_w0_5.trans (hb6.mono (by omega))
  go_wp2_with fail
  refine (heldIntS_any _ _ _ _ _ (Rd.of_own o_g0_6) (by omega) (by omega) (by omega)).mono ?_; rintro e wx ⟨rfl, rfl⟩
  go_wp2
  go_ret
  exact ⟨rfl, bw6⟩

theorem own : ownKnob Try.prog.godebug = none := by kernel_rfl
theorem laidOut : laidOutB Try.prog = true := by kernel_rfl

set_option maxRecDepth 100000 in
theorem lifted (os : Os) (started : os.Started) (H : Type) (enc : TypeId × Value → H) :
    ReturnsInHanded {} Try.checked os 8 .any (Rows.fnExactTastedBySpec.pre6 enc Try.prog Try.f8 Rows.fnExactTastedByRow.domain false) (Rows.fnExactTastedBySpec.post enc Try.prog Try.f8 false true false false) := by
  refine returnsInHanded_of_change (C := Try.checked) own started (by kernel_rfl) Try.func8
    (ChangeSpec.witness6 (enc := enc) (C := Try.checked) false ⟨#[], #[.int .i64 0, .int .i64 0, .int .i64 0, .int .i64 0, .int .i64 0], []⟩ 8 (by kernel_rfl) (by kernel_rfl) (by kernel_rfl) (by kernel_rfl)) ?_
  intro W base args ds gs before hval0 hW hcnd _
  have hval : ∀ (j : Nat) t v, Try.f8.params[j]? = some t → args[j]? = some v → Value.okWide Try.prog W .any base t v := hval0
  have hW' := hW
  obtain ⟨p, q, hA0, hV, rfl, hfz, hnd⟩ := hW
  have hA : DataW.TrodAll enc Try.prog W 0 (fun _ => true) true Try.f8.params.toList args.toList ds p := hA0
  rw [Try.params8] at hA hval
  obtain ⟨v0, vs0, d0, ds0, p0, q0, hargs, rfl, rfl, h0, r0⟩ := trodAll_cons hA
  obtain ⟨v1, vs1, d1, ds1, p1, q1, rfl, rfl, rfl, h1, r1⟩ := trodAll_cons r0
  obtain ⟨v2, vs2, d2, ds2, p2, q2, rfl, rfl, rfl, h2, r2⟩ := trodAll_cons r1
  obtain ⟨v3, vs3, d3, ds3, p3, q3, rfl, rfl, rfl, h3, r3⟩ := trodAll_cons r2
  obtain ⟨v4, vs4, d4, ds4, p4, q4, rfl, rfl, rfl, h4, r4⟩ := trodAll_cons r3
  obtain ⟨rfl, rfl, rfl⟩ := trodAll_nil r4
  obtain rfl : args = #[v0, v1, v2, v3, v4] := by cases args; simp_all
  obtain ⟨rfl, rfl⟩ := trodVars_none hV
  obtain ⟨a0, rfl, rfl, rfl, w0⟩ := open_int Try.underlying3 (hval 0 3 v0 rfl rfl) h0
  obtain ⟨a1, rfl, rfl, rfl, w1⟩ := open_int Try.underlying3 (hval 1 3 v1 rfl rfl) h1
  obtain ⟨a2, rfl, rfl, rfl, w2⟩ := open_int Try.underlying3 (hval 2 3 v2 rfl rfl) h2
  obtain ⟨a3, rfl, rfl, rfl, w3⟩ := open_int Try.underlying3 (hval 3 3 v3 rfl rfl) h3
  obtain ⟨a4, rfl, rfl, rfl, w4⟩ := open_int Try.underlying3 (hval 4 3 v4 rfl rfl) h4
  clear hA0 hval0
  refine (walk a0 a1 a2 a3 a4 W w0 w1 w2 w3 w4).mono fun e W' ⟨he, bel⟩ => ?_
  subst he
  exact ⟨_, rfl, _, _, _, [], _, [], hW', trodAll_mk1 (shut_bool Try.underlying4 _), (trodAll_cons_mk (shut_int Try.underlying3 w0) (trodAll_cons_mk (shut_int Try.underlying3 w1) (trodAll_cons_mk (shut_int Try.underlying3 w2) (trodAll_cons_mk (shut_int Try.underlying3 w3) (trodAll_cons_mk (shut_int Try.underlying3 w4) trodAll_mk0))))), rfl, bel.frame _, fun h => by cases h⟩

theorem proved : Rows.FnExactTastedBySaid :=
  OpenClaim.holds_of_wide 8 Try.f8 rfl rfl rfl rfl rfl rfl rfl ⟨rfl, rfl, rfl, rfl, rfl⟩ rfl rfl rfl rfl rfl (by kernel_rfl) Try.func8 (by kernel_rfl)
    (of_decide_eq_true (by kernel_rfl)) (by unfold Func.isWrapper; first | (rw [if_pos (by decide +kernel)]; kernel_rfl) | (rw [if_neg (by decide +kernel)]; exact ⟨rfl, rfl⟩))
    (fun os started H enc _ => lifted os started H enc)

#print axioms proved
end Go.Proofs.Ytcggiekhlophlaa.lawTastedBy
