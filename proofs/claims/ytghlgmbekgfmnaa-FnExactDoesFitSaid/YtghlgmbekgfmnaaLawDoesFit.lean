/-
  Proved: for every clue and list of numbers the law's calls of DoesFit answer as the model does and leave the arguments alone. Conditions: none.
-/
import Derived.Test.YtghlgmbekgfmnaaPzG
import Derived.Test.YtghlgmbekgfmnaaIKit
import Derived.Test.YtghlgmbekgfmnaaOpenI
import Derived.Test.YtghlgmbekgfmnaaFacts
import Derived.ProofKit
import Derived.OpenShut
import Derived.Lib.SmallJoins
namespace Go.Proofs.Ytghlgmbekgfmnaa.lawDoesFit
open Go.ChangeShapes Go.WideShapes Go.ChangeAt Go.RowKit Go.Joins Go.Deep
set_option linter.unusedVariables false

set_option maxRecDepth 100000 in
set_option maxHeartbeats 4000000 in
theorem walk (x_aC y_aC z_aC : Int) (A_aRows : Option Addr) (n_aRows c_aRows : Nat) (l_aRows : List Int) (w : World) (wx_aC : (Lit.int .i64 x_aC).wf = true) (wy_aC : (Lit.int .i64 y_aC).wf = true) (wz_aC : (Lit.int .i64 z_aC).wf = true) (rd_aRows : Rd w 1 A_aRows n_aRows (intCells l_aRows)) (hw_aRows : ∀ z ∈ l_aRows, (Lit.int .i64 z).wf = true) (hn_aRows : n_aRows ≤ 9223372036854775807) :
    Calls Try.prog 5 #[bx3 x_aC y_aC z_aC, .slice A_aRows n_aRows c_aRows] w fun e w' => e = .returned (.bool true) ∧ Below w.heap.size w w' := by
  clear wx_aC wy_aC wz_aC
  clear hw_aRows
  go_enter Try.func5, Try.ntmps5
  have bw0 : Below w.heap.size w w := Below.refl _ _
  obtain ⟨w1, hw1⟩ : ∃ wm, wm = w.alloc (.cells #[.int .i64 x_aC, .int .i64 y_aC, .int .i64 z_aC] 23) := ⟨_, rfl⟩
  have hb1 : Below w.heap.size w w1 := by rw [hw1]; exact (Below.refl _ _).alloc (Nat.le_refl _) _
  have cs0_0_1 : w1.cell? ⟨w.heap.size, 0, none⟩ = some (.int .i64 x_aC) := by rw [hw1]; simp [go_sem]
  have cs0_1_1 : w1.cell? ⟨w.heap.size, 1, none⟩ = some (.int .i64 y_aC) := by rw [hw1]; simp [go_sem]
  have cs0_2_1 : w1.cell? ⟨w.heap.size, 2, none⟩ = some (.int .i64 z_aC) := by rw [hw1]; simp [go_sem]
  have s1 : w.heap.size + 1 ≤ w1.heap.size := by rw [hw1]; simp
  have HW1 := Lib.hid hw1; clear hw1
  have bw1 : Below w.heap.size w w1 := bcall bw0.size hb1 bw0
  have q1 := bw1.size
  have zs0_1 : w.heap.size < w1.heap.size := by omega
  have cx1_0_0 : (w.alloc (.cells #[.int .i64 x_aC, .int .i64 y_aC, .int .i64 z_aC] 23)).cell? ⟨w.heap.size, 0, none⟩ = some (.int .i64 x_aC) := by rw [← HW1.out]; exact cs0_0_1
  have cx1_0_1 : (w.alloc (.cells #[.int .i64 x_aC, .int .i64 y_aC, .int .i64 z_aC] 23)).cell? ⟨w.heap.size, 1, none⟩ = some (.int .i64 y_aC) := by rw [← HW1.out]; exact cs0_1_1
  have cx1_0_2 : (w.alloc (.cells #[.int .i64 x_aC, .int .i64 y_aC, .int .i64 z_aC] 23)).cell? ⟨w.heap.size, 2, none⟩ = some (.int .i64 z_aC) := by rw [← HW1.out]; exact cs0_2_1
  by_cases hn2_aRows : n_aRows ≤ 1048576
  case neg =>
    go_wp2
    go_ret
    exact ⟨rfl, by rw [← HW1.out]; exact bw1⟩
  go_wp2_with fail
  rw [← HW1.out]
  refine (toClue_any _ _ _ _).mono ?_; rintro e w2 ⟨rfl, hb2⟩; have s2 := hb2.size
  have bw2 : Below w.heap.size w w2 := bcall bw1.size hb2 bw1
  have q2 := bw2.size
  have cs0_0_2 := (hb2.cell (p := ⟨w.heap.size, 0, none⟩) (by show w.heap.size < w1.heap.size; omega)).trans cs0_0_1; clear cs0_0_1
  have cs0_1_2 := (hb2.cell (p := ⟨w.heap.size, 1, none⟩) (by show w.heap.size < w1.heap.size; omega)).trans cs0_1_1; clear cs0_1_1
  have cs0_2_2 := (hb2.cell (p := ⟨w.heap.size, 2, none⟩) (by show w.heap.size < w1.heap.size; omega)).trans cs0_2_1; clear cs0_2_1
  have zs0_2 : w.heap.size < w2.heap.size := by omega
  go_wp2_with fail
  refine (toIntS_any _ _ _ l_aRows _ (rd_aRows.later bw2 (Nat.le_refl _)) hn2_aRows).mono ?_; rintro e w3 ⟨g_sp1, rfl, o_sp1_3, hb3⟩; have s3 := hb3.size
  have bw3 : Below w.heap.size w w3 := bcall bw2.size hb3 bw2
  have q3 := bw3.size
  have cs0_0_3 := (hb3.cell (p := ⟨w.heap.size, 0, none⟩) (by show w.heap.size < w2.heap.size; omega)).trans cs0_0_2; clear cs0_0_2
  have cs0_1_3 := (hb3.cell (p := ⟨w.heap.size, 1, none⟩) (by show w.heap.size < w2.heap.size; omega)).trans cs0_1_2; clear cs0_1_2
  have cs0_2_3 := (hb3.cell (p := ⟨w.heap.size, 2, none⟩) (by show w.heap.size < w2.heap.size; omega)).trans cs0_2_2; clear cs0_2_2
  have zs0_3 : w.heap.size < w3.heap.size := by omega
  have lt_sp1 := Lib.hid (fun g (h : (Value.slice (some ⟨g_sp1, 0, none⟩) n_aRows n_aRows).ownBlock = some g) => o_sp1_3.lt g h)
  go_wp2_with fail
  refine (sDoesFit_any _ _ _ _ _ _ l_aRows _ (Rd.of_own o_sp1_3) (by omega)).mono ?_; rintro e w4 ⟨rfl, hb4⟩; have s4 := hb4.size
  have bw4 : Below w.heap.size w w4 := bcall bw3.size hb4 bw3
  have q4 := bw4.size
  have o_sp1_4 := own_later o_sp1_3 hb4 (Nat.le_refl _)
  have cs0_0_4 := (hb4.cell (p := ⟨w.heap.size, 0, none⟩) (by show w.heap.size < w3.heap.size; omega)).trans cs0_0_3; clear cs0_0_3
  have cs0_1_4 := (hb4.cell (p := ⟨w.heap.size, 1, none⟩) (by show w.heap.size < w3.heap.size; omega)).trans cs0_1_3; clear cs0_1_3
  have cs0_2_4 := (hb4.cell (p := ⟨w.heap.size, 2, none⟩) (by show w.heap.size < w3.heap.size; omega)).trans cs0_2_3; clear cs0_2_3
  have zs0_4 : w.heap.size < w4.heap.size := by omega
  go_wp2_with fail
  refine (toIntS_any _ _ _ l_aRows _ (rd_aRows.later bw4 (Nat.le_refl _)) hn2_aRows).mono ?_; rintro e w5 ⟨g_x1, rfl, o_x1_5, hb5⟩; have s5 := hb5.size
  have bw5 : Below w.heap.size w w5 := bcall bw4.size hb5 bw4
  have q5 := bw5.size
  have o_sp1_5 := own_later o_sp1_4 hb5 (Nat.le_refl _)
  have cs0_0_5 := (hb5.cell (p := ⟨w.heap.size, 0, none⟩) (by show w.heap.size < w4.heap.size; omega)).trans cs0_0_4; clear cs0_0_4
  have cs0_1_5 := (hb5.cell (p := ⟨w.heap.size, 1, none⟩) (by show w.heap.size < w4.heap.size; omega)).trans cs0_1_4; clear cs0_1_4
  have cs0_2_5 := (hb5.cell (p := ⟨w.heap.size, 2, none⟩) (by show w.heap.size < w4.heap.size; omega)).trans cs0_2_4; clear cs0_2_4
  have zs0_5 : w.heap.size < w5.heap.size := by omega
  have lt_x1 := Lib.hid (fun g (h : (Value.slice (some ⟨g_x1, 0, none⟩) n_aRows n_aRows).ownBlock = some g) => o_x1_5.lt g h)
  go_wp2_with fail
  refine (toClue_any _ _ _ _).mono ?_; rintro e w6 ⟨rfl, hb6⟩; have s6 := hb6.size
  have bw6 : Below w.heap.size w w6 := bcall bw5.size hb6 bw5
  have q6 := bw6.size
  have o_sp1_6 := own_later o_sp1_5 hb6 (Nat.le_refl _)
  have o_x1_6 := own_later o_x1_5 hb6 (Nat.le_refl _)
  have cs0_0_6 := (hb6.cell (p := ⟨w.heap.size, 0, none⟩) (by show w.heap.size < w5.heap.size; omega)).trans cs0_0_5; clear cs0_0_5
  have cs0_1_6 := (hb6.cell (p := ⟨w.heap.size, 1, none⟩) (by show w.heap.size < w5.heap.size; omega)).trans cs0_1_5; clear cs0_1_5
  have cs0_2_6 := (hb6.cell (p := ⟨w.heap.size, 2, none⟩) (by show w.heap.size < w5.heap.size; omega)).trans cs0_2_5; clear cs0_2_5
  have zs0_6 : w.heap.size < w6.heap.size := by omega
  go_wp2_with fail
  refine (doesFit_any _ _ _ _ _ _ l_aRows _ (Rd.of_own o_x1_6) (by omega)).mono ?_; rintro e w7 ⟨rfl, hb7⟩; have s7 := hb7.size
  have bw7 : Below w.heap.size w w7 := bcall bw6.size hb7 bw6
  have q7 := bw7.size
  have o_sp1_7 := own_later o_sp1_6 hb7 (Nat.le_refl _)
  have o_x1_7 := own_later o_x1_6 hb7 (Nat.le_refl _)
  have cs0_0_7 := (hb7.cell (p := ⟨w.heap.size, 0, none⟩) (by show w.heap.size < w6.heap.size; omega)).trans cs0_0_6; clear cs0_0_6
  have cs0_1_7 := (hb7.cell (p := ⟨w.heap.size, 1, none⟩) (by show w.heap.size < w6.heap.size; omega)).trans cs0_1_6; clear cs0_1_6
  have cs0_2_7 := (hb7.cell (p := ⟨w.heap.size, 2, none⟩) (by show w.heap.size < w6.heap.size; omega)).trans cs0_2_6; clear cs0_2_6
  have zs0_7 : w.heap.size < w7.heap.size := by omega
  go_wp2_with fail
  refine (toIntS_any _ _ _ l_aRows _ (rd_aRows.later bw7 (Nat.le_refl _)) hn2_aRows).mono ?_; rintro e w8 ⟨g_cy7, rfl, o_cy7_8, hb8⟩; have s8 := hb8.size
  have bw8 : Below w.heap.size w w8 := bcall bw7.size hb8 bw7
  have q8 := bw8.size
  have o_sp1_8 := own_later o_sp1_7 hb8 (Nat.le_refl _)
  have o_x1_8 := own_later o_x1_7 hb8 (Nat.le_refl _)
  have cs0_0_8 := (hb8.cell (p := ⟨w.heap.size, 0, none⟩) (by show w.heap.size < w7.heap.size; omega)).trans cs0_0_7; clear cs0_0_7
  have cs0_1_8 := (hb8.cell (p := ⟨w.heap.size, 1, none⟩) (by show w.heap.size < w7.heap.size; omega)).trans cs0_1_7; clear cs0_1_7
  have cs0_2_8 := (hb8.cell (p := ⟨w.heap.size, 2, none⟩) (by show w.heap.size < w7.heap.size; omega)).trans cs0_2_7; clear cs0_2_7
  have zs0_8 : w.heap.size < w8.heap.size := by omega
  have lt_cy7 := Lib.hid (fun g (h : (Value.slice (some ⟨g_cy7, 0, none⟩) n_aRows n_aRows).ownBlock = some g) => o_cy7_8.lt g h)
  go_wp2_with fail
  refine (eqIntS_same _ _ _ _ _ _ _ _ (Rd.of_own o_x1_8) (Rd.of_own o_cy7_8) (by omega) (by omega)).mono ?_; rintro e w9 ⟨rfl, hb9⟩; have s9 := hb9.size
  have bw9 : Below w.heap.size w w9 := bcall bw8.size hb9 bw8
  have q9 := bw9.size
  have o_sp1_9 := own_later o_sp1_8 hb9 (Nat.le_refl _)
  have o_x1_9 := own_later o_x1_8 hb9 (Nat.le_refl _)
  have o_cy7_9 := own_later o_cy7_8 hb9 (Nat.le_refl _)
  have cs0_0_9 := (hb9.cell (p := ⟨w.heap.size, 0, none⟩) (by show w.heap.size < w8.heap.size; omega)).trans cs0_0_8; clear cs0_0_8
  have cs0_1_9 := (hb9.cell (p := ⟨w.heap.size, 1, none⟩) (by show w.heap.size < w8.heap.size; omega)).trans cs0_1_8; clear cs0_1_8
  have cs0_2_9 := (hb9.cell (p := ⟨w.heap.size, 2, none⟩) (by show w.heap.size < w8.heap.size; omega)).trans cs0_2_8; clear cs0_2_8
  have zs0_9 : w.heap.size < w9.heap.size := by omega
  go_wp2
  go_ret
  exact ⟨rfl, bw9⟩

theorem own : ownKnob Try.prog.godebug = none := by kernel_rfl
theorem laidOut : laidOutB Try.prog = true := by kernel_rfl

set_option maxRecDepth 100000 in
theorem lifted (os : Os) (started : os.Started) (H : Type) (enc : TypeId × Value → H) :
    ReturnsInHanded {} Try.checked os 5 .any (Rows.fnExactDoesFitSpec.pre6 enc Try.prog Try.f5 Rows.fnExactDoesFitRow.domain false) (Rows.fnExactDoesFitSpec.post enc Try.prog Try.f5 false true false false) := by
  refine returnsInHanded_of_change (C := Try.checked) own started (by kernel_rfl) Try.func5
    (ChangeSpec.witness6 (enc := enc) (C := Try.checked) false ⟨#[], #[.agg #[.int .i64 0, .int .i64 0, .int .i64 0], .slice none 0 0], []⟩ 8 (by kernel_rfl) (by kernel_rfl) (by kernel_rfl) (by kernel_rfl)) ?_
  intro W base args ds gs before hval0 hW hcnd _
  have hval : ∀ (j : Nat) t v, Try.f5.params[j]? = some t → args[j]? = some v → Value.okWide Try.prog W .any base t v := hval0
  have hW' := hW
  obtain ⟨p, q, hA0, hV, rfl, hfz, hnd⟩ := hW
  have hA : DataW.TrodAll enc Try.prog W 0 (fun _ => true) true Try.f5.params.toList args.toList ds p := hA0
  rw [Try.params5] at hA hval
  obtain ⟨v0, vs0, d0, ds0, p0, q0, hargs, rfl, rfl, h0, r0⟩ := trodAll_cons hA
  obtain ⟨v1, vs1, d1, ds1, p1, q1, rfl, rfl, rfl, h1, r1⟩ := trodAll_cons r0
  obtain ⟨rfl, rfl, rfl⟩ := trodAll_nil r1
  obtain rfl : args = #[v0, v1] := by cases args; simp_all
  obtain ⟨rfl, rfl⟩ := trodVars_none hV
  have k0 := h0
  have lt0 : ∀ x ∈ p0, x.block < W.heap.size := by obtain ⟨m, hm⟩ := k0; exact DataW.trod_lt m _ _ _ hm
  obtain ⟨c0_0, c0_1, c0_2, y0_0, y0_1, y0_2, m0, rfl, rfl, rfl, e0_0, e0_1, e0_2⟩ := open_agg3 Try.underlying23 (by kernel_rfl) (show Try.prog.cellsOf 23 = 3 by kernel_rfl) (hval 0 23 v0 rfl rfl) h0
  obtain ⟨a0_0, q0_0, rfl, w0_0⟩ := DataW.trod_int Try.underlying3 e0_0
  obtain ⟨a0_1, q0_1, rfl, w0_1⟩ := DataW.trod_int Try.underlying3 e0_1
  obtain ⟨a0_2, q0_2, rfl, w0_2⟩ := DataW.trod_int Try.underlying3 e0_2
  simp at q0_0 q0_1 q0_2
  subst q0_0 q0_1 q0_2
  obtain ⟨A1, n1, c1, rfl⟩ := okWide_slice Try.underlying39 (hval 1 39 v1 rfl rfl)
  have k1 := h1
  have lt1 : ∀ x ∈ p1, x.block < W.heap.size := by obtain ⟨m, hm⟩ := k1; exact DataW.trod_lt m _ _ _ hm
  obtain ⟨xs1, rd1, sz1, hl1⟩ := open_intL Try.underlying39 Try.underlying3 (show Try.prog.cellsOf 3 = 1 by kernel_rfl) h1
  clear hA0 hval0
  refine (walk a0_0 a0_1 a0_2 A1 n1 c1 xs1 W w0_0 w0_1 w0_2 rd1 sz1 hl1).mono fun e W' ⟨he, bel⟩ => ?_
  subst he
  exact ⟨_, rfl, _, _, _, [], _, [], hW', trodAll_mk1 (shut_bool Try.underlying4 _), (trodAll_cons_mk (Below.trod laidOut (by kernel_rfl) (of_decide_eq_true (by kernel_rfl)) k0 bel lt0) (trodAll_cons_mk (Below.trod laidOut (by kernel_rfl) (of_decide_eq_true (by kernel_rfl)) k1 bel lt1) trodAll_mk0)), rfl, bel.frame _, fun h => by cases h⟩

set_option maxHeartbeats 40000000 in
theorem closedF : joinedFacts Try.prog 5 Try.f5 Rows.fnExactDoesFitSpec Rows.fnExactDoesFitRow = true := by
  unfold joinedFacts
  repeat' (with_reducible apply and_t)
  all_goals first | (with_reducible exact mayEnterP) | (rw [liftsP]; kernel_rfl) | (rw [makeP]; kernel_rfl) | (as_aux_lemma => kernel_rfl)

theorem proved : Rows.FnExactDoesFitSaid :=
  OpenClaim.holds_of_wide 5 Try.f5 rfl rfl rfl rfl rfl rfl rfl ⟨rfl, rfl, rfl, rfl, rfl⟩ rfl rfl rfl rfl rfl (by kernel_rfl) Try.func5 closedF
    (of_decide_eq_true (by kernel_rfl)) (by unfold Func.isWrapper; first | (rw [if_pos (by decide +kernel)]; kernel_rfl) | (rw [if_neg (by decide +kernel)]; exact ⟨rfl, rfl⟩))
    (fun os started H enc _ => lifted os started H enc)

#print axioms proved
end Go.Proofs.Ytghlgmbekgfmnaa.lawDoesFit
