/-
  Proved: for every list of texts and number the law's calls of PoorestPiece answer as the model does and leave the arguments alone. Conditions: none.
-/
import Derived.Test.YtfbmnaepobhnkaaSKit
import Derived.Test.YtfbmnaepobhnkaaPiece
import Derived.ProofKit
import Derived.OpenShut
import Derived.Lib.SmallJoins
namespace Go.Proofs.Ytfbmnaepobhnkaa.lawPoorestPiece
open Go.ChangeShapes Go.WideShapes Go.ChangeAt Go.RowKit Go.Joins Go.Deep
set_option linter.unusedVariables false

set_option maxRecDepth 100000 in
set_option maxHeartbeats 4000000 in
theorem walk (A_aNuts : Option Addr) (n_aNuts c_aNuts : Nat) (l_aNuts : List ByteArray) (z_aSharers : Int) (w : World) (rd_aNuts : Rd w 1 A_aNuts n_aNuts (strCells l_aNuts)) (hs_aNuts : ∀ s ∈ l_aNuts, s.size ≤ 9223372036854775807) (hn_aNuts : n_aNuts ≤ 9223372036854775807) (wz_aSharers : (Lit.int .i64 z_aSharers).wf = true) :
    Calls Try.prog 6 #[.slice A_aNuts n_aNuts c_aNuts, .int .i64 z_aSharers] w fun e w' => e = .returned (.bool true) ∧ Below w.heap.size w w' := by
  have HS_aNuts := Lib.hid hs_aNuts; clear hs_aNuts
  clear wz_aSharers
  go_enter Try.func6, Try.ntmps6
  have bw0 : Below w.heap.size w w := Below.refl _ _
  go_wp2_with fail
  refine (szStringS_any _ _ _ _ l_aNuts _ rd_aNuts HS_aNuts.out hn_aNuts (by omega) (by omega)).mono ?_; rintro e wx ⟨⟨v1, rfl, hv1⟩, rfl⟩
  have ht1 := totS_nonneg l_aNuts
  rcases hv1 with rfl | ⟨va1, vb1⟩
  · go_wp2
    go_ret
    exact ⟨rfl, bw0⟩
  have hn2_aNuts : n_aNuts ≤ 1048576 := by omega
  have vc1 : v1 ≤ 1048576 := by omega
  clear vb1
  go_wp2_with fail
  refine (toStringS_any _ _ _ l_aNuts _ (rd_aNuts.later bw0 (Nat.le_refl _)) hn2_aNuts).mono ?_; rintro e w1 ⟨g_sp0, rfl, o_sp0_1, hb1⟩; have s1 := hb1.size; (try simp at s1)
  have bw1 : Below w.heap.size w w1 := bcall bw0.size hb1 bw0
  have q1 := bw1.size
  have lt_sp0 := Lib.hid (fun g (h : (Value.slice (some ⟨g_sp0, 0, none⟩) n_aNuts n_aNuts).ownBlock = some g) => o_sp0_1.lt g h)
  go_wp2_with fail
  refine (sPoorestPiece_any _ _ _ l_aNuts _ _ (Rd.of_own o_sp0_1) ).mono ?_; rintro e wx ⟨rfl, rfl⟩
  go_wp2_with fail
  refine (toStringS_any _ _ _ l_aNuts _ (rd_aNuts.later bw1 (Nat.le_refl _)) hn2_aNuts).mono ?_; rintro e w2 ⟨g_x0, rfl, o_x0_2, hb2⟩; have s2 := hb2.size
  have bw2 : Below w.heap.size w w2 := bcall bw1.size hb2 bw1
  have q2 := bw2.size
  have o_sp0_2 := own_later o_sp0_1 hb2 (Nat.le_refl _)
  have lt_x0 := Lib.hid (fun g (h : (Value.slice (some ⟨g_x0, 0, none⟩) n_aNuts n_aNuts).ownBlock = some g) => o_x0_2.lt g h)
  go_wp2_with fail
  refine (poorestPiece_any _ _ _ l_aNuts _ _ (Rd.of_own o_x0_2) ).mono ?_; rintro e w3 ⟨rfl, hb3⟩; have s3 := hb3.size
  have bw3 : Below w.heap.size w w3 := bcall bw2.size hb3 bw2
  have q3 := bw3.size
  have o_sp0_3 := own_later o_sp0_2 hb3 (Nat.le_refl _)
  have o_x0_3 := own_later o_x0_2 hb3 (Nat.le_refl _)
  go_wp2_with fail
  refine (toStringS_any _ _ _ l_aNuts _ (rd_aNuts.later bw3 (Nat.le_refl _)) hn2_aNuts).mono ?_; rintro e w4 ⟨g_cy3, rfl, o_cy3_4, hb4⟩; have s4 := hb4.size
  have bw4 : Below w.heap.size w w4 := bcall bw3.size hb4 bw3
  have q4 := bw4.size
  have o_sp0_4 := own_later o_sp0_3 hb4 (Nat.le_refl _)
  have o_x0_4 := own_later o_x0_3 hb4 (Nat.le_refl _)
  have lt_cy3 := Lib.hid (fun g (h : (Value.slice (some ⟨g_cy3, 0, none⟩) n_aNuts n_aNuts).ownBlock = some g) => o_cy3_4.lt g h)
  go_wp2_with fail
  refine (eqStringS_same _ _ _ _ _ _ _ _ (Rd.of_own o_x0_4) (Rd.of_own o_cy3_4) (by omega) (by omega)).mono ?_; rintro e w5 ⟨rfl, hb5⟩; have s5 := hb5.size
  have bw5 : Below w.heap.size w w5 := bcall bw4.size hb5 bw4
  have q5 := bw5.size
  have o_sp0_5 := own_later o_sp0_4 hb5 (Nat.le_refl _)
  have o_x0_5 := own_later o_x0_4 hb5 (Nat.le_refl _)
  have o_cy3_5 := own_later o_cy3_4 hb5 (Nat.le_refl _)
  go_wp2
  go_ret
  exact ⟨rfl, bw5⟩

theorem own : ownKnob Try.prog.godebug = none := by kernel_rfl
theorem laidOut : laidOutB Try.prog = true := by kernel_rfl

set_option maxRecDepth 100000 in
theorem lifted (os : Os) (started : os.Started) (H : Type) (enc : TypeId × Value → H) :
    ReturnsInHanded {} Try.checked os 6 .any (Rows.fnExactPoorestPieceSpec.pre6 enc Try.prog Try.f6 Rows.fnExactPoorestPieceRow.domain false) (Rows.fnExactPoorestPieceSpec.post enc Try.prog Try.f6 false true false false) := by
  refine returnsInHanded_of_change (C := Try.checked) own started (by kernel_rfl) Try.func6
    (ChangeSpec.witness6 (enc := enc) (C := Try.checked) false ⟨#[], #[.slice none 0 0, .int .i64 0], []⟩ 8 (by kernel_rfl) (by kernel_rfl) (by kernel_rfl) (by kernel_rfl)) ?_
  intro W base args ds gs before hval0 hW hcnd _
  have hval : ∀ (j : Nat) t v, Try.f6.params[j]? = some t → args[j]? = some v → Value.okWide Try.prog W .any base t v := hval0
  have hW' := hW
  obtain ⟨p, q, hA0, hV, rfl, hfz, hnd⟩ := hW
  have hA : DataW.TrodAll enc Try.prog W 0 (fun _ => true) true Try.f6.params.toList args.toList ds p := hA0
  rw [Try.params6] at hA hval
  obtain ⟨v0, vs0, d0, ds0, p0, q0, hargs, rfl, rfl, h0, r0⟩ := trodAll_cons hA
  obtain ⟨v1, vs1, d1, ds1, p1, q1, rfl, rfl, rfl, h1, r1⟩ := trodAll_cons r0
  obtain ⟨rfl, rfl, rfl⟩ := trodAll_nil r1
  obtain rfl : args = #[v0, v1] := by cases args; simp_all
  obtain ⟨rfl, rfl⟩ := trodVars_none hV
  obtain ⟨A0, n0, c0, rfl⟩ := okWide_slice Try.underlying34 (hval 0 34 v0 rfl rfl)
  have k0 := h0
  have lt0 : ∀ x ∈ p0, x.block < W.heap.size := by obtain ⟨m, hm⟩ := k0; exact DataW.trod_lt m _ _ _ hm
  obtain ⟨xs0, rd0, sz0, hl0⟩ := open_strL Try.underlying34 Try.underlying9 (show Try.prog.cellsOf 9 = 1 by kernel_rfl) h0
  obtain ⟨a1, rfl, rfl, rfl, w1⟩ := open_int Try.underlying3 (hval 1 3 v1 rfl rfl) h1
  clear hA0 hval0
  refine (walk A0 n0 c0 xs0 a1 W rd0 sz0 hl0 w1).mono fun e W' ⟨he, bel⟩ => ?_
  subst he
  exact ⟨_, rfl, _, _, _, [], _, [], hW', trodAll_mk1 (shut_bool Try.underlying4 _), (trodAll_cons_mk (Below.trod laidOut (by kernel_rfl) (of_decide_eq_true (by kernel_rfl)) k0 bel lt0) (trodAll_cons_mk (shut_int Try.underlying3 w1) trodAll_mk0)), rfl, bel.frame _, fun h => by cases h⟩

theorem proved : Rows.FnExactPoorestPieceSaid :=
  OpenClaim.holds_of_wide 6 Try.f6 rfl rfl rfl rfl rfl rfl rfl ⟨rfl, rfl, rfl, rfl, rfl⟩ rfl rfl rfl rfl rfl (by kernel_rfl) Try.func6 (by kernel_rfl)
    (of_decide_eq_true (by kernel_rfl)) (by unfold Func.isWrapper; first | (rw [if_pos (by decide +kernel)]; kernel_rfl) | (rw [if_neg (by decide +kernel)]; exact ⟨rfl, rfl⟩))
    (fun os started H enc _ => lifted os started H enc)

#print axioms proved
end Go.Proofs.Ytfbmnaepobhnkaa.lawPoorestPiece
