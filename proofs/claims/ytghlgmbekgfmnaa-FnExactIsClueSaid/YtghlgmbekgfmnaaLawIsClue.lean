/-
  Proved: for every clue the law's calls of IsClue answer as the model does and leave the arguments alone. Conditions: none.
-/
import Derived.Test.YtghlgmbekgfmnaaPzC
import Derived.Test.YtghlgmbekgfmnaaPzM
import Derived.Test.YtghlgmbekgfmnaaFacts
import Derived.ProofKit
import Derived.OpenShut
import Derived.Lib.SmallJoins
namespace Go.Proofs.Ytghlgmbekgfmnaa.lawIsClue
open Go.ChangeShapes Go.WideShapes Go.ChangeAt Go.RowKit Go.Joins Go.Deep
set_option linter.unusedVariables false

set_option maxRecDepth 100000 in
set_option maxHeartbeats 4000000 in
theorem walk (x_aC y_aC z_aC : Int) (w : World) (wx_aC : (Lit.int .i64 x_aC).wf = true) (wy_aC : (Lit.int .i64 y_aC).wf = true) (wz_aC : (Lit.int .i64 z_aC).wf = true) :
    Calls Try.prog 3 #[bx3 x_aC y_aC z_aC] w fun e w' => e = .returned (.bool true) ∧ Below w.heap.size w w' := by
  clear wx_aC wy_aC wz_aC
  go_enter Try.func3, Try.ntmps3
  have bw0 : Below w.heap.size w w := Below.refl _ _
  obtain ⟨w1, hw1⟩ : ∃ wm, wm = w.alloc (.cells #[.int .i64 x_aC, .int .i64 y_aC, .int .i64 z_aC] 23) := ⟨_, rfl⟩
  have hb1 : Below w.heap.size w w1 := by rw [hw1]; exact (Below.refl _ _).alloc (Nat.le_refl _) _
  have cs0_0_1 : w1.cell? ⟨w.heap.size, 0, none⟩ = some (.int .i64 x_aC) := by rw [hw1]; simp [go_sem]
  have cs0_1_1 : w1.cell? ⟨w.heap.size, 1, none⟩ = some (.int .i64 y_aC) := by rw [hw1]; simp [go_sem]
  have cs0_2_1 : w1.cell? ⟨w.heap.size, 2, none⟩ = some (.int .i64 z_aC) := by rw [hw1]; simp [go_sem]
  have s1 : w.heap.size + 1 ≤ w1.heap.size := by rw [hw1]; simp
  have HW1 := Lib.hid hw1; clear hw1
  have bw1 : Below w.heap.size w w1 := bcall bw0.size hb1 bw0
  have q1 := bw1.size
  have zs0_1 : w.heap.size < w1.heap.size := by omega
  have cx1_0_0 : (w.alloc (.cells #[.int .i64 x_aC, .int .i64 y_aC, .int .i64 z_aC] 23)).cell? ⟨w.heap.size, 0, none⟩ = some (.int .i64 x_aC) := by rw [← HW1.out]; exact cs0_0_1
  have cx1_0_1 : (w.alloc (.cells #[.int .i64 x_aC, .int .i64 y_aC, .int .i64 z_aC] 23)).cell? ⟨w.heap.size, 1, none⟩ = some (.int .i64 y_aC) := by rw [← HW1.out]; exact cs0_1_1
  have cx1_0_2 : (w.alloc (.cells #[.int .i64 x_aC, .int .i64 y_aC, .int .i64 z_aC] 23)).cell? ⟨w.heap.size, 2, none⟩ = some (.int .i64 z_aC) := by rw [← HW1.out]; exact cs0_2_1
  go_wp2_with fail
  rw [← HW1.out]
  refine (toClue_any _ _ _ _).mono ?_; rintro e w2 ⟨rfl, hb2⟩; have s2 := hb2.size
  have bw2 : Below w.heap.size w w2 := bcall bw1.size hb2 bw1
  have q2 := bw2.size
  have cs0_0_2 := (hb2.cell (p := ⟨w.heap.size, 0, none⟩) (by show w.heap.size < w1.heap.size; omega)).trans cs0_0_1; clear cs0_0_1
  have cs0_1_2 := (hb2.cell (p := ⟨w.heap.size, 1, none⟩) (by show w.heap.size < w1.heap.size; omega)).trans cs0_1_1; clear cs0_1_1
  have cs0_2_2 := (hb2.cell (p := ⟨w.heap.size, 2, none⟩) (by show w.heap.size < w1.heap.size; omega)).trans cs0_2_1; clear cs0_2_1
  have zs0_2 : w.heap.size < w2.heap.size := by omega
  go_wp2_with fail
  refine (sIsClue_any _ _ _ _  ).mono ?_; rintro e w3 ⟨rfl, hb3⟩; have s3 := hb3.size
  have bw3 : Below w.heap.size w w3 := bcall bw2.size hb3 bw2
  have q3 := bw3.size
  have cs0_0_3 := (hb3.cell (p := ⟨w.heap.size, 0, none⟩) (by show w.heap.size < w2.heap.size; omega)).trans cs0_0_2; clear cs0_0_2
  have cs0_1_3 := (hb3.cell (p := ⟨w.heap.size, 1, none⟩) (by show w.heap.size < w2.heap.size; omega)).trans cs0_1_2; clear cs0_1_2
  have cs0_2_3 := (hb3.cell (p := ⟨w.heap.size, 2, none⟩) (by show w.heap.size < w2.heap.size; omega)).trans cs0_2_2; clear cs0_2_2
  have zs0_3 : w.heap.size < w3.heap.size := by omega
  go_wp2_with fail
  refine (toClue_any _ _ _ _).mono ?_; rintro e w4 ⟨rfl, hb4⟩; have s4 := hb4.size
  have bw4 : Below w.heap.size w w4 := bcall bw3.size hb4 bw3
  have q4 := bw4.size
  have cs0_0_4 := (hb4.cell (p := ⟨w.heap.size, 0, none⟩) (by show w.heap.size < w3.heap.size; omega)).trans cs0_0_3; clear cs0_0_3
  have cs0_1_4 := (hb4.cell (p := ⟨w.heap.size, 1, none⟩) (by show w.heap.size < w3.heap.size; omega)).trans cs0_1_3; clear cs0_1_3
  have cs0_2_4 := (hb4.cell (p := ⟨w.heap.size, 2, none⟩) (by show w.heap.size < w3.heap.size; omega)).trans cs0_2_3; clear cs0_2_3
  have zs0_4 : w.heap.size < w4.heap.size := by omega
  go_wp2_with fail
  refine (isClue_any _ _ _ _  ).mono ?_; rintro e w5 ⟨rfl, hb5⟩; have s5 := hb5.size
  have bw5 : Below w.heap.size w w5 := bcall bw4.size hb5 bw4
  have q5 := bw5.size
  have cs0_0_5 := (hb5.cell (p := ⟨w.heap.size, 0, none⟩) (by show w.heap.size < w4.heap.size; omega)).trans cs0_0_4; clear cs0_0_4
  have cs0_1_5 := (hb5.cell (p := ⟨w.heap.size, 1, none⟩) (by show w.heap.size < w4.heap.size; omega)).trans cs0_1_4; clear cs0_1_4
  have cs0_2_5 := (hb5.cell (p := ⟨w.heap.size, 2, none⟩) (by show w.heap.size < w4.heap.size; omega)).trans cs0_2_4; clear cs0_2_4
  have zs0_5 : w.heap.size < w5.heap.size := by omega
  go_wp2
  go_ret
  exact ⟨rfl, bw5⟩

theorem own : ownKnob Try.prog.godebug = none := by kernel_rfl
theorem laidOut : laidOutB Try.prog = true := by kernel_rfl

set_option maxRecDepth 100000 in
theorem lifted (os : Os) (started : os.Started) (H : Type) (enc : TypeId × Value → H) :
    ReturnsInHanded {} Try.checked os 3 .any (Rows.fnExactIsClueSpec.pre6 enc Try.prog Try.f3 Rows.fnExactIsClueRow.domain false) (Rows.fnExactIsClueSpec.post enc Try.prog Try.f3 false true false false) := by
  refine returnsInHanded_of_change (C := Try.checked) own started (by kernel_rfl) Try.func3
    (ChangeSpec.witness6 (enc := enc) (C := Try.checked) false ⟨#[], #[.agg #[.int .i64 0, .int .i64 0, .int .i64 0]], []⟩ 8 (by kernel_rfl) (by kernel_rfl) (by kernel_rfl) (by kernel_rfl)) ?_
  intro W base args ds gs before hval0 hW hcnd _
  have hval : ∀ (j : Nat) t v, Try.f3.params[j]? = some t → args[j]? = some v → Value.okWide Try.prog W .any base t v := hval0
  have hW' := hW
  obtain ⟨p, q, hA0, hV, rfl, hfz, hnd⟩ := hW
  have hA : DataW.TrodAll enc Try.prog W 0 (fun _ => true) true Try.f3.params.toList args.toList ds p := hA0
  rw [Try.params3] at hA hval
  obtain ⟨v0, vs0, d0, ds0, p0, q0, hargs, rfl, rfl, h0, r0⟩ := trodAll_cons hA
  obtain ⟨rfl, rfl, rfl⟩ := trodAll_nil r0
  obtain rfl : args = #[v0] := by cases args; simp_all
  obtain ⟨rfl, rfl⟩ := trodVars_none hV
  have k0 := h0
  have lt0 : ∀ x ∈ p0, x.block < W.heap.size := by obtain ⟨m, hm⟩ := k0; exact DataW.trod_lt m _ _ _ hm
  obtain ⟨c0_0, c0_1, c0_2, y0_0, y0_1, y0_2, m0, rfl, rfl, rfl, e0_0, e0_1, e0_2⟩ := open_agg3 Try.underlying23 (by kernel_rfl) (show Try.prog.cellsOf 23 = 3 by kernel_rfl) (hval 0 23 v0 rfl rfl) h0
  obtain ⟨a0_0, q0_0, rfl, w0_0⟩ := DataW.trod_int Try.underlying3 e0_0
  obtain ⟨a0_1, q0_1, rfl, w0_1⟩ := DataW.trod_int Try.underlying3 e0_1
  obtain ⟨a0_2, q0_2, rfl, w0_2⟩ := DataW.trod_int Try.underlying3 e0_2
  simp at q0_0 q0_1 q0_2
  subst q0_0 q0_1 q0_2
  clear hA0 hval0
  refine (walk a0_0 a0_1 a0_2 W w0_0 w0_1 w0_2).mono fun e W' ⟨he, bel⟩ => ?_
  subst he
  exact ⟨_, rfl, _, _, _, [], _, [], hW', trodAll_mk1 (shut_bool Try.underlying4 _), (trodAll_cons_mk (Below.trod laidOut (by kernel_rfl) (of_decide_eq_true (by kernel_rfl)) k0 bel lt0) trodAll_mk0), rfl, bel.frame _, fun h => by cases h⟩

set_option maxHeartbeats 40000000 in
theorem closedF : joinedFacts Try.prog 3 Try.f3 Rows.fnExactIsClueSpec Rows.fnExactIsClueRow = true := by
  unfold joinedFacts
  repeat' (with_reducible apply and_t)
  all_goals first | (with_reducible exact mayEnterP) | (rw [liftsP]; kernel_rfl) | (rw [makeP]; kernel_rfl) | (as_aux_lemma => kernel_rfl)

theorem proved : Rows.FnExactIsClueSaid :=
  OpenClaim.holds_of_wide 3 Try.f3 rfl rfl rfl rfl rfl rfl rfl ⟨rfl, rfl, rfl, rfl, rfl⟩ rfl rfl rfl rfl rfl (by kernel_rfl) Try.func3 closedF
    (of_decide_eq_true (by kernel_rfl)) (by unfold Func.isWrapper; first | (rw [if_pos (by decide +kernel)]; kernel_rfl) | (rw [if_neg (by decide +kernel)]; exact ⟨rfl, rfl⟩))
    (fun os started H enc _ => lifted os started H enc)

#print axioms proved
end Go.Proofs.Ytghlgmbekgfmnaa.lawIsClue
