/-
  Proved: for every two numbers the law's calls of SolidTablet answer as the model does, in memory of their own, and leave the arguments alone. Conditions: none.
-/
import Derived.Test.YtieiakljholkaaaSolidT
import Derived.Test.YtieiakljholkaaaMark
import Derived.Test.YtieiakljholkaaaSKit
import Derived.ProofKit
import Derived.OpenShut
import Derived.Lib.SmallJoins
namespace Go.Proofs.Ytieiakljholkaaa.lawSolidTablet
open Go.ChangeShapes Go.WideShapes Go.ChangeAt Go.RowKit Go.Joins Go.Deep
set_option linter.unusedVariables false

set_option maxRecDepth 100000 in
set_option maxHeartbeats 4000000 in
theorem walk (z_aWide : Int) (z_aHigh : Int) (w : World) (wz_aWide : (Lit.int .i64 z_aWide).wf = true) (wz_aHigh : (Lit.int .i64 z_aHigh).wf = true) :
    Calls Try.prog 3 #[.int .i64 z_aWide, .int .i64 z_aHigh] w fun e w' => e = .returned (.bool true) ∧ Below w.heap.size w w' := by
  clear wz_aWide
  clear wz_aHigh
  go_enter Try.func3, Try.ntmps3
  have bw0 : Below w.heap.size w w := Below.refl _ _
  go_wp2_with fail
  refine (sSolidTablet_any _ _ _  ).mono ?_; rintro e w1 ⟨A_w0, n_w0, c_w0, rfl, o_w0_1, hb1⟩; have s1 := hb1.size; (try simp at s1)
  have bw1 : Below w.heap.size w w1 := bcall bw0.size hb1 bw0
  have q1 := bw1.size
  have bc_w0_1 : Below w1.heap.size w1 w1 := Below.refl _ _; have oc_w0 := Lib.hid o_w0_1
  have lt_w0 := Lib.hid (fun g (h : (Value.slice A_w0 n_w0 c_w0).ownBlock = some g) => o_w0_1.lt g h)
  have ln_w0 : n_w0 ≤ 100000000 := by have h := o_w0_1.1; rw [length_strCells] at h; have := length_solR z_aWide z_aHigh; omega
  go_wp2_with fail
  refine (solidTablet_any _ _ _  ).mono ?_; rintro e w2 ⟨A_g0, n_g0, c_g0, rfl, o_g0_2, hb2⟩; have s2 := hb2.size
  have bw2 : Below w.heap.size w w2 := bcall bw1.size hb2 bw1
  have q2 := bw2.size
  have o_w0_2 := own_later o_w0_1 hb2 (Nat.le_refl _)
  have bc_w0_2 : Below w1.heap.size w1 w2 := bc_w0_1.trans (hb2.mono (by omega))
  have lt_g0 := Lib.hid (fun g (h : (Value.slice A_g0 n_g0 c_g0).ownBlock = some g) => o_g0_2.lt g h)
  have ln_g0 : n_g0 ≤ 100000000 := by have h := o_g0_2.1; rw [length_strCells] at h; have := length_solR z_aWide z_aHigh; omega
  go_wp2_with fail
  refine (eqStringS_same _ _ _ _ _ _ _ _ (Rd.of_own o_g0_2) (Rd.of_own o_w0_2) (by omega) (by omega)).mono ?_; rintro e w3 ⟨rfl, hb3⟩; have s3 := hb3.size
  have bw3 : Below w.heap.size w w3 := bcall bw2.size hb3 bw2
  have q3 := bw3.size
  have o_w0_3 := own_later o_w0_2 hb3 (Nat.le_refl _)
  have o_g0_3 := own_later o_g0_2 hb3 (Nat.le_refl _)
  have bc_w0_3 : Below w1.heap.size w1 w3 := bc_w0_2.trans (hb3.mono (by omega))
  go_wp2_with fail
  refine (markStringS_any _ _ _ _ _ _ _ o_g0_3 (by omega) (by omega) (by omega)).mono ?_; rintro e w4 ⟨rfl, o_g0_4, hb4, hg4⟩; have s4 := hb4.size
  have m4 : w3.heap.size ≤ w4.heap.size := hg4.size
  have bw4 : Below w.heap.size w w4 := bw3.trans (hb4.mono (by omega))
  have q4 := bw4.size
  have bc_w0_4 : Below w1.heap.size w1 w4 := bc_w0_3.trans (hb4.mono (by omega))
  have o_w0_4 := o_w0_3.kept hg4 (own_apart (by exact lt_w0.out) (by exact lt_g0.out) (by omega))
  go_wp2_with fail
  refine (heldStringS_any _ _ _ _ _ (Rd.of_own o_g0_4) (by omega) (by omega) (by omega)).mono ?_; rintro e w5 ⟨rfl, hb5⟩; have s5 := hb5.size
  have bw5 : Below w.heap.size w w5 := bcall bw4.size hb5 bw4
  have q5 := bw5.size
  have o_w0_5 := own_later o_w0_4 hb5 (Nat.le_refl _)
  have o_g0_5 := own_later o_g0_4 hb5 (Nat.le_refl _)
  have bc_w0_5 : Below w1.heap.size w1 w5 := bc_w0_4.trans (hb5.mono (by omega))
  go_wp2_with fail
  refine (solidTablet_any _ _ _  ).mono ?_; rintro e w6 ⟨A_h0, n_h0, c_h0, rfl, o_h0_6, hb6⟩; have s6 := hb6.size
  have bw6 : Below w.heap.size w w6 := bcall bw5.size hb6 bw5
  have q6 := bw6.size
  have o_w0_6 := own_later o_w0_5 hb6 (Nat.le_refl _)
  have o_g0_6 := own_later o_g0_5 hb6 (Nat.le_refl _)
  have bc_w0_6 : Below w1.heap.size w1 w6 := bc_w0_5.trans (hb6.mono (by omega))
  have lt_h0 := Lib.hid (fun g (h : (Value.slice A_h0 n_h0 c_h0).ownBlock = some g) => o_h0_6.lt g h)
  have ln_h0 : n_h0 ≤ 100000000 := by have h := o_h0_6.1; rw [length_strCells] at h; have := length_solR z_aWide z_aHigh; omega
  go_wp2_with fail
  refine (eqStringS_same _ _ _ _ _ _ _ _ (Rd.of_own o_h0_6) (Rd.of_own o_w0_6) (by omega) (by omega)).mono ?_; rintro e w7 ⟨rfl, hb7⟩; have s7 := hb7.size
  have bw7 : Below w.heap.size w w7 := bcall bw6.size hb7 bw6
  have q7 := bw7.size
  have o_w0_7 := own_later o_w0_6 hb7 (Nat.le_refl _)
  have o_g0_7 := own_later o_g0_6 hb7 (Nat.le_refl _)
  have o_h0_7 := own_later o_h0_6 hb7 (Nat.le_refl _)
  have bc_w0_7 : Below w1.heap.size w1 w7 := bc_w0_6.trans (hb7.mono (by omega))
  go_wp2_with fail
  refine (heldStringS_any _ _ _ _ _ (Rd.of_own o_g0_7) (by omega) (by omega) (by omega)).mono ?_; rintro e w8 ⟨rfl, hb8⟩; have s8 := hb8.size
  have bw8 : Below w.heap.size w w8 := bcall bw7.size hb8 bw7
  have q8 := bw8.size
  have o_w0_8 := own_later o_w0_7 hb8 (Nat.le_refl _)
  have o_g0_8 := own_later o_g0_7 hb8 (Nat.le_refl _)
  have o_h0_8 := own_later o_h0_7 hb8 (Nat.le_refl _)
  have bc_w0_8 : Below w1.heap.size w1 w8 := bc_w0_7.trans (hb8.mono (by omega))
  go_wp2
  go_ret
  exact ⟨rfl, bw8⟩

theorem own : ownKnob Try.prog.godebug = none := by kernel_rfl
theorem laidOut : laidOutB Try.prog = true := by kernel_rfl

set_option maxRecDepth 100000 in
theorem lifted (os : Os) (started : os.Started) (H : Type) (enc : TypeId × Value → H) :
    ReturnsInHanded {} Try.checked os 3 .any (Rows.fnExactSolidTabletSpec.pre6 enc Try.prog Try.f3 Rows.fnExactSolidTabletRow.domain false) (Rows.fnExactSolidTabletSpec.post enc Try.prog Try.f3 false true false false) := by
  refine returnsInHanded_of_change (C := Try.checked) own started (by kernel_rfl) Try.func3
    (ChangeSpec.witness6 (enc := enc) (C := Try.checked) false ⟨#[], #[.int .i64 0, .int .i64 0], []⟩ 8 (by kernel_rfl) (by kernel_rfl) (by kernel_rfl) (by kernel_rfl)) ?_
  intro W base args ds gs before hval0 hW hcnd _
  have hval : ∀ (j : Nat) t v, Try.f3.params[j]? = some t → args[j]? = some v → Value.okWide Try.prog W .any base t v := hval0
  have hW' := hW
  obtain ⟨p, q, hA0, hV, rfl, hfz, hnd⟩ := hW
  have hA : DataW.TrodAll enc Try.prog W 0 (fun _ => true) true Try.f3.params.toList args.toList ds p := hA0
  rw [Try.params3] at hA hval
  obtain ⟨v0, vs0, d0, ds0, p0, q0, hargs, rfl, rfl, h0, r0⟩ := trodAll_cons hA
  obtain ⟨v1, vs1, d1, ds1, p1, q1, rfl, rfl, rfl, h1, r1⟩ := trodAll_cons r0
  obtain ⟨rfl, rfl, rfl⟩ := trodAll_nil r1
  obtain rfl : args = #[v0, v1] := by cases args; simp_all
  obtain ⟨rfl, rfl⟩ := trodVars_none hV
  obtain ⟨a0, rfl, rfl, rfl, w0⟩ := open_int Try.underlying3 (hval 0 3 v0 rfl rfl) h0
  obtain ⟨a1, rfl, rfl, rfl, w1⟩ := open_int Try.underlying3 (hval 1 3 v1 rfl rfl) h1
  clear hA0 hval0
  refine (walk a0 a1 W w0 w1).mono fun e W' ⟨he, bel⟩ => ?_
  subst he
  exact ⟨_, rfl, _, _, _, [], _, [], hW', trodAll_mk1 (shut_bool Try.underlying4 _), (trodAll_cons_mk (shut_int Try.underlying3 w0) (trodAll_cons_mk (shut_int Try.underlying3 w1) trodAll_mk0)), rfl, bel.frame _, fun h => by cases h⟩

theorem proved : Rows.FnExactSolidTabletSaid :=
  OpenClaim.holds_of_wide 3 Try.f3 rfl rfl rfl rfl rfl rfl rfl ⟨rfl, rfl, rfl, rfl, rfl⟩ rfl rfl rfl rfl rfl (by kernel_rfl) Try.func3 (by kernel_rfl)
    (of_decide_eq_true (by kernel_rfl)) (by unfold Func.isWrapper; first | (rw [if_pos (by decide +kernel)]; kernel_rfl) | (rw [if_neg (by decide +kernel)]; exact ⟨rfl, rfl⟩))
    (fun os started H enc _ => lifted os started H enc)

#print axioms proved
end Go.Proofs.Ytieiakljholkaaa.lawSolidTablet
