/-
  Proved: for every three numbers and list of numbers the law's calls of PralineOfCode answer as the model does and leave the arguments alone. Conditions: none.
-/
import Derived.Test.YtcggiekhlophlaaPOf
import Derived.Test.YtcggiekhlophlaaOpenI
import Derived.Test.YtcggiekhlophlaaIKit
import Derived.ProofKit
import Derived.OpenShut
import Derived.Lib.SmallJoins
namespace Go.Proofs.Ytcggiekhlophlaa.lawPralineOfCode
open Go.ChangeShapes Go.WideShapes Go.ChangeAt Go.RowKit Go.Joins Go.Deep
set_option linter.unusedVariables false

set_option maxRecDepth 100000 in
set_option maxHeartbeats 4000000 in
theorem walk (z_aPralines : Int) (z_aTasters : Int) (z_aRounds : Int) (A_aCode : Option Addr) (n_aCode c_aCode : Nat) (l_aCode : List Int) (w : World) (wz_aPralines : (Lit.int .i64 z_aPralines).wf = true) (wz_aTasters : (Lit.int .i64 z_aTasters).wf = true) (wz_aRounds : (Lit.int .i64 z_aRounds).wf = true) (rd_aCode : Rd w 1 A_aCode n_aCode (intCells l_aCode)) (hw_aCode : ∀ z ∈ l_aCode, (Lit.int .i64 z).wf = true) (hn_aCode : n_aCode ≤ 9223372036854775807) :
    Calls Try.prog 7 #[.int .i64 z_aPralines, .int .i64 z_aTasters, .int .i64 z_aRounds, .slice A_aCode n_aCode c_aCode] w fun e w' => e = .returned (.bool true) ∧ Below w.heap.size w w' := by
  clear wz_aPralines
  clear wz_aTasters
  clear wz_aRounds
  clear hw_aCode
  go_enter Try.func7, Try.ntmps7
  have bw0 : Below w.heap.size w w := Below.refl _ _
  by_cases hn2_aCode : n_aCode ≤ 1048576
  case neg =>
    go_wp2
    go_ret
    exact ⟨rfl, bw0⟩
  go_wp2_with fail
  refine (toIntS_any _ _ _ l_aCode _ (rd_aCode.later bw0 (Nat.le_refl _)) hn2_aCode).mono ?_; rintro e w1 ⟨g_sp3, rfl, o_sp3_1, hb1⟩; have s1 := hb1.size; (try simp at s1)
  have bw1 : Below w.heap.size w w1 := bcall bw0.size hb1 bw0
  have q1 := bw1.size
  have lt_sp3 := Lib.hid (fun g (h : (Value.slice (some ⟨g_sp3, 0, none⟩) n_aCode n_aCode).ownBlock = some g) => o_sp3_1.lt g h)
  go_wp2_with fail
  refine (sPralineOf_any _ _ _ _ _ _ l_aCode _ (Rd.of_own o_sp3_1) (by omega)).mono ?_; rintro e w2 ⟨rfl, hb2⟩; have s2 := hb2.size
  have bw2 : Below w.heap.size w w2 := bcall bw1.size hb2 bw1
  have q2 := bw2.size
  have o_sp3_2 := own_later o_sp3_1 hb2 (Nat.le_refl _)
  go_wp2_with fail
  refine (toIntS_any _ _ _ l_aCode _ (rd_aCode.later bw2 (Nat.le_refl _)) hn2_aCode).mono ?_; rintro e w3 ⟨g_x3, rfl, o_x3_3, hb3⟩; have s3 := hb3.size
  have bw3 : Below w.heap.size w w3 := bcall bw2.size hb3 bw2
  have q3 := bw3.size
  have o_sp3_3 := own_later o_sp3_2 hb3 (Nat.le_refl _)
  have lt_x3 := Lib.hid (fun g (h : (Value.slice (some ⟨g_x3, 0, none⟩) n_aCode n_aCode).ownBlock = some g) => o_x3_3.lt g h)
  go_wp2_with fail
  refine (pralineOf_any _ _ _ _ _ _ l_aCode _ (Rd.of_own o_x3_3) (by omega)).mono ?_; rintro e w4 ⟨rfl, hb4⟩; have s4 := hb4.size
  have bw4 : Below w.heap.size w w4 := bcall bw3.size hb4 bw3
  have q4 := bw4.size
  have o_sp3_4 := own_later o_sp3_3 hb4 (Nat.le_refl _)
  have o_x3_4 := own_later o_x3_3 hb4 (Nat.le_refl _)
  go_wp2_with fail
  refine (toIntS_any _ _ _ l_aCode _ (rd_aCode.later bw4 (Nat.le_refl _)) hn2_aCode).mono ?_; rintro e w5 ⟨g_cy4, rfl, o_cy4_5, hb5⟩; have s5 := hb5.size
  have bw5 : Below w.heap.size w w5 := bcall bw4.size hb5 bw4
  have q5 := bw5.size
  have o_sp3_5 := own_later o_sp3_4 hb5 (Nat.le_refl _)
  have o_x3_5 := own_later o_x3_4 hb5 (Nat.le_refl _)
  have lt_cy4 := Lib.hid (fun g (h : (Value.slice (some ⟨g_cy4, 0, none⟩) n_aCode n_aCode).ownBlock = some g) => o_cy4_5.lt g h)
  go_wp2_with fail
  refine (eqIntS_same _ _ _ _ _ _ _ _ (Rd.of_own o_x3_5) (Rd.of_own o_cy4_5) (by omega) (by omega)).mono ?_; rintro e w6 ⟨rfl, hb6⟩; have s6 := hb6.size
  have bw6 : Below w.heap.size w w6 := bcall bw5.size hb6 bw5
  have q6 := bw6.size
  have o_sp3_6 := own_later o_sp3_5 hb6 (Nat.le_refl _)
  have o_x3_6 := own_later o_x3_5 hb6 (Nat.le_refl _)
  have o_cy4_6 := own_later o_cy4_5 hb6 (Nat.le_refl _)
  go_wp2
  go_ret
  exact ⟨rfl, bw6⟩

theorem own : ownKnob Try.prog.godebug = none := by kernel_rfl
theorem laidOut : laidOutB Try.prog = true := by kernel_rfl

set_option maxRecDepth 100000 in
theorem lifted (os : Os) (started : os.Started) (H : Type) (enc : TypeId × Value → H) :
    ReturnsInHanded {} Try.checked os 7 .any (Rows.fnExactPralineOfCodeSpec.pre6 enc Try.prog Try.f7 Rows.fnExactPralineOfCodeRow.domain false) (Rows.fnExactPralineOfCodeSpec.post enc Try.prog Try.f7 false true false false) := by
  refine returnsInHanded_of_change (C := Try.checked) own started (by kernel_rfl) Try.func7
    (ChangeSpec.witness6 (enc := enc) (C := Try.checked) false ⟨#[], #[.int .i64 0, .int .i64 0, .int .i64 0, .slice none 0 0], []⟩ 8 (by kernel_rfl) (by kernel_rfl) (by kernel_rfl) (by kernel_rfl)) ?_
  intro W base args ds gs before hval0 hW hcnd _
  have hval : ∀ (j : Nat) t v, Try.f7.params[j]? = some t → args[j]? = some v → Value.okWide Try.prog W .any base t v := hval0
  have hW' := hW
  obtain ⟨p, q, hA0, hV, rfl, hfz, hnd⟩ := hW
  have hA : DataW.TrodAll enc Try.prog W 0 (fun _ => true) true Try.f7.params.toList args.toList ds p := hA0
  rw [Try.params7] at hA hval
  obtain ⟨v0, vs0, d0, ds0, p0, q0, hargs, rfl, rfl, h0, r0⟩ := trodAll_cons hA
  obtain ⟨v1, vs1, d1, ds1, p1, q1, rfl, rfl, rfl, h1, r1⟩ := trodAll_cons r0
  obtain ⟨v2, vs2, d2, ds2, p2, q2, rfl, rfl, rfl, h2, r2⟩ := trodAll_cons r1
  obtain ⟨v3, vs3, d3, ds3, p3, q3, rfl, rfl, rfl, h3, r3⟩ := trodAll_cons r2
  obtain ⟨rfl, rfl, rfl⟩ := trodAll_nil r3
  obtain rfl : args = #[v0, v1, v2, v3] := by cases args; simp_all
  obtain ⟨rfl, rfl⟩ := trodVars_none hV
  obtain ⟨a0, rfl, rfl, rfl, w0⟩ := open_int Try.underlying3 (hval 0 3 v0 rfl rfl) h0
  obtain ⟨a1, rfl, rfl, rfl, w1⟩ := open_int Try.underlying3 (hval 1 3 v1 rfl rfl) h1
  obtain ⟨a2, rfl, rfl, rfl, w2⟩ := open_int Try.underlying3 (hval 2 3 v2 rfl rfl) h2
  obtain ⟨A3, n3, c3, rfl⟩ := okWide_slice Try.underlying25 (hval 3 25 v3 rfl rfl)
  have k3 := h3
  have lt3 : ∀ x ∈ p3, x.block < W.heap.size := by obtain ⟨m, hm⟩ := k3; exact DataW.trod_lt m _ _ _ hm
  obtain ⟨xs3, rd3, sz3, hl3⟩ := open_intL Try.underlying25 Try.underlying3 (show Try.prog.cellsOf 3 = 1 by kernel_rfl) h3
  clear hA0 hval0
  refine (walk a0 a1 a2 A3 n3 c3 xs3 W w0 w1 w2 rd3 sz3 hl3).mono fun e W' ⟨he, bel⟩ => ?_
  subst he
  exact ⟨_, rfl, _, _, _, [], _, [], hW', trodAll_mk1 (shut_bool Try.underlying4 _), (trodAll_cons_mk (shut_int Try.underlying3 w0) (trodAll_cons_mk (shut_int Try.underlying3 w1) (trodAll_cons_mk (shut_int Try.underlying3 w2) (trodAll_cons_mk (Below.trod laidOut (by kernel_rfl) (of_decide_eq_true (by kernel_rfl)) k3 bel lt3) trodAll_mk0)))), rfl, bel.frame _, fun h => by cases h⟩

theorem proved : Rows.FnExactPralineOfCodeSaid :=
  OpenClaim.holds_of_wide 7 Try.f7 rfl rfl rfl rfl rfl rfl rfl ⟨rfl, rfl, rfl, rfl, rfl⟩ rfl rfl rfl rfl rfl (by kernel_rfl) Try.func7 (by kernel_rfl)
    (of_decide_eq_true (by kernel_rfl)) (by unfold Func.isWrapper; first | (rw [if_pos (by decide +kernel)]; kernel_rfl) | (rw [if_neg (by decide +kernel)]; exact ⟨rfl, rfl⟩))
    (fun os started H enc _ => lifted os started H enc)

#print axioms proved
end Go.Proofs.Ytcggiekhlophlaa.lawPralineOfCode
