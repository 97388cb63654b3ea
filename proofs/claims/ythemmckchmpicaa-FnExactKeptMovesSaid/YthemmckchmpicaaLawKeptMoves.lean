/-
  Proved: for every bar the law's calls of KeptMoves answer as the model does, in memory of their own, and leave the arguments alone. Conditions: none.
-/
import Derived.Test.YthemmckchmpicaaKeptF
import Derived.Test.YthemmckchmpicaaEqBars
import Derived.Test.YthemmckchmpicaaStrs
import Derived.ProofKit
import Derived.OpenShut
import Derived.Lib.SmallJoins
namespace Go.Proofs.Ythemmckchmpicaa.lawKeptMoves
open Go.ChangeShapes Go.WideShapes Go.ChangeAt Go.RowKit Go.Joins Go.Deep
set_option linter.unusedVariables false

set_option maxRecDepth 100000 in
set_option maxHeartbeats 4000000 in
theorem walk (x_aB y_aB : Int) (w : World) (wx_aB : (Lit.int .i64 x_aB).wf = true) (wy_aB : (Lit.int .i64 y_aB).wf = true) :
    Calls Try.prog 5 #[bar2 x_aB y_aB] w fun e w' => e = .returned (.bool true) ∧ Below w.heap.size w w' := by
  clear wx_aB wy_aB
  go_enter Try.func5, Try.ntmps5
  have bw0 : Below w.heap.size w (w.alloc (.cells #[.int .i64 x_aB, .int .i64 y_aB] 23)) := by (repeat (first | (with_reducible exact Below.refl _ _) | (with_reducible assumption) | (with_reducible refine Below.drew ?_) | ((with_reducible refine balloc ?_ _ ?_); · (first | (simp; done) | (simp; omega) | omega)) | ((with_reducible refine bset ?_ _ ?_); · (first | (simp; done) | (simp; omega) | omega)) | (with_reducible refine bdrewN _ ?_) | ((with_reducible refine bcall ?_ (by assumption) ?_); · (first | (simp; done) | (simp; omega) | omega))))
  go_wp2_with fail
  refine (toBar_any _ _ _).mono ?_; rintro e w1 ⟨rfl, hb1⟩; have s1 := hb1.size; (try simp at s1)
  have bw1 : Below w.heap.size w w1 := bcall bw0.size hb1 bw0
  have q1 := bw1.size
  obtain ⟨hc1, hf1⟩ := bcell hb1
  have z1_0 : w.heap.size < w1.heap.size := by have := s1; first | omega | (simp at this; omega)
  go_wp2_with fail
  refine (sKeptMoves_any _ _ _  ).mono ?_; rintro e w2 ⟨A_w0, n_w0, c_w0, rfl, o_w0_2, hb2⟩; have s2 := hb2.size
  have bw2 : Below w.heap.size w w2 := bcall bw1.size hb2 bw1
  have q2 := bw2.size
  obtain ⟨hc2, hf2⟩ := bcell hb2
  have z2_0 : w.heap.size < w2.heap.size := by have := s2; first | omega | (simp at this; omega)
  have bc_w0_2 : Below w2.heap.size w2 w2 := Below.refl _ _; have oc_w0 := Lib.hid o_w0_2
  have lt_w0 := Lib.hid (fun g (h : (Value.slice A_w0 n_w0 c_w0).ownBlock = some g) => o_w0_2.lt g h)
  have ln_w0 : n_w0 ≤ 100000000 := by have h := o_w0_2.1; rw [length_pairCells] at h; have := length_kmR x_aB y_aB; omega
  go_wp2_with fail
  refine (toBar_any _ _ _).mono ?_; rintro e w3 ⟨rfl, hb3⟩; have s3 := hb3.size
  have bw3 : Below w.heap.size w w3 := bcall bw2.size hb3 bw2
  have q3 := bw3.size
  obtain ⟨hc3, hf3⟩ := bcell hb3
  have z3_0 : w.heap.size < w3.heap.size := by have := s3; first | omega | (simp at this; omega)
  have o_w0_3 := own_later o_w0_2 hb3 (Nat.le_refl _)
  have bc_w0_3 : Below w2.heap.size w2 w3 := bc_w0_2.trans (hb3.mono (by omega))
  go_wp2_with fail
  refine (keptMovesF_any _ _ _  ).mono ?_; rintro e w4 ⟨A_g0, n_g0, c_g0, rfl, o_g0_4, hb4⟩; have s4 := hb4.size
  have bw4 : Below w.heap.size w w4 := bcall bw3.size hb4 bw3
  have q4 := bw4.size
  obtain ⟨hc4, hf4⟩ := bcell hb4
  have z4_0 : w.heap.size < w4.heap.size := by have := s4; first | omega | (simp at this; omega)
  have o_w0_4 := own_later o_w0_3 hb4 (Nat.le_refl _)
  have bc_w0_4 : Below w2.heap.size w2 w4 := bc_w0_3.trans (hb4.mono (by omega))
  have lt_g0 := Lib.hid (fun g (h : (Value.slice A_g0 n_g0 c_g0).ownBlock = some g) => o_g0_4.lt g h)
  have ln_g0 : n_g0 ≤ 100000000 := by have h := o_g0_4.1; rw [length_pairCells] at h; have := length_kmR x_aB y_aB; omega
  go_wp2_with fail
  refine (eqBarS_same _ _ _ _ _ _ _ _ (Rd.of_own o_g0_4) (Rd.of_own o_w0_4) (by omega) (by omega)).mono ?_; rintro e w5 ⟨rfl, hb5⟩; have s5 := hb5.size
  have bw5 : Below w.heap.size w w5 := bcall bw4.size hb5 bw4
  have q5 := bw5.size
  obtain ⟨hc5, hf5⟩ := bcell hb5
  have z5_0 : w.heap.size < w5.heap.size := by have := s5; first | omega | (simp at this; omega)
  have o_w0_5 := own_later o_w0_4 hb5 (Nat.le_refl _)
  have o_g0_5 := own_later o_g0_4 hb5 (Nat.le_refl _)
  have bc_w0_5 : Below w2.heap.size w2 w5 := bc_w0_4.trans (hb5.mono (by omega))
  go_wp2_with fail
  refine (markBarS_g _ _ _ _ _ _ _ o_g0_5 (by omega) (by omega) (by omega)).mono ?_; rintro e w6 ⟨rfl, o_g0_6, hb6, hg6⟩; have s6 := hb6.size
  have m6 : w5.heap.size ≤ w6.heap.size := hg6.size
  have bw6 : Below w.heap.size w w6 := bw5.trans (hb6.mono (by omega))
  have q6 := bw6.size
  obtain ⟨hc6, hf6⟩ := bcellB hb6
  have z6_0 : w.heap.size < w6.heap.size := by have := s6; first | omega | (simp at this; omega)
  have bc_w0_6 : Below w2.heap.size w2 w6 := bc_w0_5.trans (hb6.mono (by omega))
  have o_w0_6 := o_w0_5.kept hg6 (own_apart (by exact lt_w0.out) (by exact lt_g0.out) (by omega))
  go_wp2_with fail
  refine (heldBarS_any _ _ _ _ _ (Rd.of_own o_g0_6) (by omega) (by omega) (by omega)).mono ?_; rintro e wx ⟨rfl, rfl⟩
  go_wp2_with fail
  refine (toBar_any _ _ _).mono ?_; rintro e w7 ⟨rfl, hb7⟩; have s7 := hb7.size
  have bw7 : Below w.heap.size w w7 := bcall bw6.size hb7 bw6
  have q7 := bw7.size
  obtain ⟨hc7, hf7⟩ := bcell hb7
  have z7_0 : w.heap.size < w7.heap.size := by have := s7; first | omega | (simp at this; omega)
  have o_w0_7 := own_later o_w0_6 hb7 (Nat.le_refl _)
  have o_g0_7 := own_later o_g0_6 hb7 (Nat.le_refl _)
  have bc_w0_7 : Below w2.heap.size w2 w7 := bc_w0_6.trans (hb7.mono (by omega))
  go_wp2_with fail
  refine (keptMovesF_any _ _ _  ).mono ?_; rintro e w8 ⟨A_h0, n_h0, c_h0, rfl, o_h0_8, hb8⟩; have s8 := hb8.size
  have bw8 : Below w.heap.size w w8 := bcall bw7.size hb8 bw7
  have q8 := bw8.size
  obtain ⟨hc8, hf8⟩ := bcell hb8
  have z8_0 : w.heap.size < w8.heap.size := by have := s8; first | omega | (simp at this; omega)
  have o_w0_8 := own_later o_w0_7 hb8 (Nat.le_refl _)
  have o_g0_8 := own_later o_g0_7 hb8 (Nat.le_refl _)
  have bc_w0_8 : Below w2.heap.size w2 w8 := bc_w0_7.trans (hb8.mono (by omega))
  have lt_h0 := Lib.hid (fun g (h : (Value.slice A_h0 n_h0 c_h0).ownBlock = some g) => o_h0_8.lt g h)
  have ln_h0 : n_h0 ≤ 100000000 := by have h := o_h0_8.1; rw [length_pairCells] at h; have := length_kmR x_aB y_aB; omega
  go_wp2_with fail
  refine (eqBarS_same _ _ _ _ _ _ _ _ (Rd.of_own o_h0_8) (Rd.of_own o_w0_8) (by omega) (by omega)).mono ?_; rintro e w9 ⟨rfl, hb9⟩; have s9 := hb9.size
  have bw9 : Below w.heap.size w w9 := bcall bw8.size hb9 bw8
  have q9 := bw9.size
  obtain ⟨hc9, hf9⟩ := bcell hb9
  have z9_0 : w.heap.size < w9.heap.size := by have := s9; first | omega | (simp at this; omega)
  have o_w0_9 := own_later o_w0_8 hb9 (Nat.le_refl _)
  have o_g0_9 := own_later o_g0_8 hb9 (Nat.le_refl _)
  have o_h0_9 := own_later o_h0_8 hb9 (Nat.le_refl _)
  have bc_w0_9 : Below w2.heap.size w2 w9 := bc_w0_8.trans (hb9.mono (by omega))
  go_wp2_with fail
  refine (heldBarS_any _ _ _ _ _ (Rd.of_own o_g0_9) (by omega) (by omega) (by omega)).mono ?_; rintro e wx ⟨rfl, rfl⟩
  go_wp2
  go_ret
  exact ⟨rfl, bw9⟩

theorem own : ownKnob Try.prog.godebug = none := by kernel_rfl
theorem laidOut : laidOutB Try.prog = true := by kernel_rfl

set_option maxRecDepth 100000 in
theorem lifted (os : Os) (started : os.Started) (H : Type) (enc : TypeId × Value → H) :
    ReturnsInHanded {} Try.checked os 5 .any (Rows.fnExactKeptMovesSpec.pre6 enc Try.prog Try.f5 Rows.fnExactKeptMovesRow.domain false) (Rows.fnExactKeptMovesSpec.post enc Try.prog Try.f5 false true false false) := by
  refine returnsInHanded_of_change (C := Try.checked) own started (by kernel_rfl) Try.func5
    (ChangeSpec.witness6 (enc := enc) (C := Try.checked) false ⟨#[], #[.agg #[.int .i64 0, .int .i64 0]], []⟩ 8 (by kernel_rfl) (by kernel_rfl) (by kernel_rfl) (by kernel_rfl)) ?_
  intro W base args ds gs before hval0 hW hcnd _
  have hval : ∀ (j : Nat) t v, Try.f5.params[j]? = some t → args[j]? = some v → Value.okWide Try.prog W .any base t v := hval0
  have hW' := hW
  obtain ⟨p, q, hA0, hV, rfl, hfz, hnd⟩ := hW
  have hA : DataW.TrodAll enc Try.prog W 0 (fun _ => true) true Try.f5.params.toList args.toList ds p := hA0
  rw [Try.params5] at hA hval
  obtain ⟨v0, vs0, d0, ds0, p0, q0, hargs, rfl, rfl, h0, r0⟩ := trodAll_cons hA
  obtain ⟨rfl, rfl, rfl⟩ := trodAll_nil r0
  obtain rfl : args = #[v0] := by cases args; simp_all
  obtain ⟨rfl, rfl⟩ := trodVars_none hV
  have k0 := h0
  have lt0 : ∀ x ∈ p0, x.block < W.heap.size := by obtain ⟨m, hm⟩ := k0; exact DataW.trod_lt m _ _ _ hm
  obtain ⟨c0_0, c0_1, y0_0, y0_1, m0, rfl, rfl, rfl, e0_0, e0_1⟩ := open_agg2 Try.underlying23 (by kernel_rfl) (show Try.prog.cellsOf 23 = 2 by kernel_rfl) (hval 0 23 v0 rfl rfl) h0
  obtain ⟨a0_0, q0_0, rfl, w0_0⟩ := DataW.trod_int Try.underlying3 e0_0
  obtain ⟨a0_1, q0_1, rfl, w0_1⟩ := DataW.trod_int Try.underlying3 e0_1
  simp at q0_0 q0_1
  subst q0_0 q0_1
  clear hA0 hval0
  refine (walk a0_0 a0_1 W w0_0 w0_1).mono fun e W' ⟨he, bel⟩ => ?_
  subst he
  exact ⟨_, rfl, _, _, _, [], _, [], hW', trodAll_mk1 (shut_bool Try.underlying4 _), (trodAll_cons_mk (Below.trod laidOut (by kernel_rfl) (of_decide_eq_true (by kernel_rfl)) k0 bel lt0) trodAll_mk0), rfl, bel.frame _, fun h => by cases h⟩

theorem proved : Rows.FnExactKeptMovesSaid :=
  OpenClaim.holds_of_wide 5 Try.f5 rfl rfl rfl rfl rfl rfl rfl ⟨rfl, rfl, rfl, rfl, rfl⟩ rfl rfl rfl rfl rfl (by kernel_rfl) Try.func5 (by kernel_rfl)
    (of_decide_eq_true (by kernel_rfl)) (by unfold Func.isWrapper; first | (rw [if_pos (by decide +kernel)]; kernel_rfl) | (rw [if_neg (by decide +kernel)]; exact ⟨rfl, rfl⟩))
    (fun os started H enc _ => lifted os started H enc)

#print axioms proved
end Go.Proofs.Ythemmckchmpicaa.lawKeptMoves
