/-
  Proved: for every bar and number the law's calls of FirstToEat answer as the model does and leave the argument alone. Conditions: none.
-/
import Derived.Test.YtobncknlipeinaaFstE
import Derived.ProofKit
import Derived.OpenShut
import Derived.Lib.SmallJoins
namespace Go.Proofs.Ytobncknlipeinaa.lawFirstToEat
open Go.ChangeShapes Go.WideShapes Go.ChangeAt Go.RowKit Go.Joins
set_option linter.unusedVariables false

set_option maxHeartbeats 1000000 in
theorem walk (x y z : Int) (w : World) (wx : (Lit.int .i64 x).wf = true) (wy : (Lit.int .i64 y).wf = true) (wz : (Lit.int .i64 z).wf = true) :
    Calls Try.prog 4 #[bar2 x y, .int .i64 z] w fun e w' => e = .returned (.bool true) ∧ Below w.heap.size w w' := by
  clear wx wy wz
  by_cases hok : someB x y z = false ∨ (someB x y z = true ∧ (z = 0 ∨ z = x * y))
  · have HS := Lib.hid (fun wx => sFirst_no x y z wx hok)
    have HI := Lib.hid (fun wx => first_no x y z wx hok)
    clear hok
    go_enter Try.func4, Try.ntmps4
    go_wp2_with fail
    refine (toBar_any _ _ _).mono ?_; rintro e w1 ⟨rfl, hb1⟩; have s1 := hb1.size; obtain ⟨hc1, hf1⟩ := bcell hb1; have z1_w0 : w.heap.size < w1.heap.size := (by have q := s1; first | omega | (simp at q; omega))
    go_wp2_with fail
    refine (HS.out _).mono ?_; rintro e w2 ⟨rfl, hb2⟩; have s2 := hb2.size; obtain ⟨hc2, hf2⟩ := bcell hb2; have z2_w0 : w.heap.size < w2.heap.size := (by have q := s2; first | omega | (simp at q; omega))
    go_wp2_with fail
    refine (toBar_any _ _ _).mono ?_; rintro e w3 ⟨rfl, hb3⟩; have s3 := hb3.size; obtain ⟨hc3, hf3⟩ := bcell hb3; have z3_w0 : w.heap.size < w3.heap.size := (by have q := s3; first | omega | (simp at q; omega))
    go_wp2_with fail
    refine (HI.out _).mono ?_; rintro e w4 ⟨rfl, hb4⟩; have s4 := hb4.size; obtain ⟨hc4, hf4⟩ := bcell hb4; have z4_w0 : w.heap.size < w4.heap.size := (by have q := s4; first | omega | (simp at q; omega))
    go_wp2
    go_ret
    exact ⟨rfl, by (repeat (first | (with_reducible exact Below.refl _ _) | (with_reducible assumption) | (with_reducible refine Below.drew ?_) | ((with_reducible refine balloc ?_ _ ?_); · (first | (simp; done) | (simp; omega) | omega)) | ((with_reducible refine bset ?_ _ ?_); · (first | (simp; done) | (simp; omega) | omega)) | (with_reducible refine bdrewN _ ?_) | ((with_reducible refine bcall ?_ (by assumption) ?_); · (first | (simp; done) | (simp; omega) | omega))))⟩
  · have h1 : someB x y z = true := by
      cases e : someB x y z
      · exact absurd (.inl e) hok
      · rfl
    have h2 : ¬ (z = 0 ∨ z = x * y) := fun q => hok (.inr ⟨h1, q⟩)
    obtain ⟨a, b, k, rfl, rfl, rfl, ha1, ha2, hb1', hb2', hk⟩ := someB_true h1
    have hk0 : 0 < k := by
      rcases Nat.eq_zero_or_pos k with q | q
      · exact absurd (.inl (by omega)) h2
      · exact q
    have hkl : k < a * b := by
      rcases Nat.lt_or_ge k (a * b) with q | q
      · exact q
      · exact absurd (.inr (by have e : k = a * b := by omega
                               rw [e]; exact Int.natCast_mul a b)) h2
    have HS := Lib.hid (fun wx => sFirst_yes a b k wx ha1 ha2 hb1' hb2' hk0 hkl)
    have HI : Hid (∀ (M : C3) (d : Bool) (t : Nat) (wx : World), RecM M a b → FirstHit M a b k d t → Calls Try.prog 12 #[bar2 a b, .int .i64 k] wx fun e w' => e = .returned (.tuple #[.bool d, .int .i64 t, .bool true]) ∧ Below wx.heap.size wx w') := by
      intro M d t wx hM hf
      refine (first_yes M a b k wx hM ha1 ha2 hb1' hb2' hk0 hkl).mono ?_
      rintro e w' ⟨d', t', hf', rfl, hb⟩
      obtain ⟨rfl, rfl⟩ := hf.same hf'
      exact ⟨rfl, hb⟩
    clear hok h1 h2
    go_enter Try.func4, Try.ntmps4
    go_wp2_with fail
    refine (toBar_any _ _ _).mono ?_; rintro e w1 ⟨rfl, hb1⟩; have s1 := hb1.size; obtain ⟨hc1, hf1⟩ := bcell hb1; have z1_w0 : w.heap.size < w1.heap.size := (by have q := s1; first | omega | (simp at q; omega))
    go_wp2_with fail
    refine (HS.out _).mono ?_; rintro e w2 ⟨M, d, t, hM, hf, rfl, hb2⟩; have s2 := hb2.size; have hc2 := (bcell hb2).1; have hf2 := (bcell hb2).2; (try simp at s2)
    have HI2 := Lib.hid (fun wx => HI.out M d t wx hM hf)
    clear hf
    go_wp2_with fail
    refine (toBar_any _ _ _).mono ?_; rintro e w3 ⟨rfl, hb3⟩; have s3 := hb3.size; obtain ⟨hc3, hf3⟩ := bcell hb3; have z3_w0 : w.heap.size < w3.heap.size := (by have q := s3; first | omega | (simp at q; omega))
    go_wp2_with fail
    refine (HI2.out _).mono ?_; rintro e w4 ⟨rfl, hb4⟩; have s4 := hb4.size; obtain ⟨hc4, hf4⟩ := bcell hb4; have z4_w0 : w.heap.size < w4.heap.size := (by have q := s4; first | omega | (simp at q; omega))
    go_wp2
    go_ret
    exact ⟨rfl, by (repeat (first | (with_reducible exact Below.refl _ _) | (with_reducible assumption) | (with_reducible refine Below.drew ?_) | ((with_reducible refine balloc ?_ _ ?_); · (first | (simp; done) | (simp; omega) | omega)) | ((with_reducible refine bset ?_ _ ?_); · (first | (simp; done) | (simp; omega) | omega)) | (with_reducible refine bdrewN _ ?_) | ((with_reducible refine bcall ?_ (by assumption) ?_); · (first | (simp; done) | (simp; omega) | omega))))⟩

theorem own : ownKnob Try.prog.godebug = none := by kernel_rfl
theorem laidOut : laidOutB Try.prog = true := by kernel_rfl

set_option maxRecDepth 100000 in
theorem lifted (os : Os) (started : os.Started) (H : Type) (enc : TypeId × Value → H) :
    ReturnsInHanded {} Try.checked os 4 .any (Rows.fnExactFirstToEatSpec.pre6 enc Try.prog Try.f4 Rows.fnExactFirstToEatRow.domain false) (Rows.fnExactFirstToEatSpec.post enc Try.prog Try.f4 false true false false) := by
  refine returnsInHanded_of_change (C := Try.checked) own started (by kernel_rfl) Try.func4
    (ChangeSpec.witness6 (enc := enc) (C := Try.checked) false ⟨#[], #[.agg #[.int .i64 0, .int .i64 0], .int .i64 0], []⟩ 8 (by kernel_rfl) (by kernel_rfl) (by kernel_rfl) (by kernel_rfl)) ?_
  intro W base args ds gs before hval0 hW hcnd _
  have hval : ∀ (j : Nat) t v, Try.f4.params[j]? = some t → args[j]? = some v → Value.okWide Try.prog W .any base t v := hval0
  have hW' := hW
  obtain ⟨p, q, hA0, hV, rfl, hfz, hnd⟩ := hW
  have hA : DataW.TrodAll enc Try.prog W 0 (fun _ => true) true Try.f4.params.toList args.toList ds p := hA0
  rw [Try.params4] at hA hval
  obtain ⟨v0, vs0, d0, ds0, p0, q0, hargs, rfl, rfl, h0, r0⟩ := trodAll_cons hA
  obtain ⟨v1, vs1, d1, ds1, p1, q1, rfl, rfl, rfl, h1, r1⟩ := trodAll_cons r0
  obtain ⟨rfl, rfl, rfl⟩ := trodAll_nil r1
  obtain rfl : args = #[v0, v1] := by cases args; simp_all
  obtain ⟨rfl, rfl⟩ := trodVars_none hV
  have k0 := h0
  have lt0 : ∀ x ∈ p0, x.block < W.heap.size := by obtain ⟨m, hm⟩ := k0; exact DataW.trod_lt m _ _ _ hm
  obtain ⟨c0_0, c0_1, y0_0, y0_1, m0, rfl, rfl, rfl, e0_0, e0_1⟩ := open_agg2 Try.underlying23 (by kernel_rfl) (show Try.prog.cellsOf 23 = 2 by kernel_rfl) (hval 0 23 v0 rfl rfl) h0
  obtain ⟨a0_0, q0_0, rfl, w0_0⟩ := DataW.trod_int Try.underlying3 e0_0
  obtain ⟨a0_1, q0_1, rfl, w0_1⟩ := DataW.trod_int Try.underlying3 e0_1
  simp at q0_0 q0_1
  subst q0_0 q0_1
  obtain ⟨a1, rfl, rfl, rfl, w1⟩ := open_int Try.underlying3 (hval 1 3 v1 rfl rfl) h1
  clear hA0 hval0
  refine (walk a0_0 a0_1 a1 W w0_0 w0_1 w1).mono fun e W' ⟨he, bel⟩ => ?_
  subst he
  exact ⟨_, rfl, _, _, _, [], _, [], hW', trodAll_mk1 (shut_bool Try.underlying4 _), (trodAll_cons_mk (Below.trod laidOut (by kernel_rfl) (of_decide_eq_true (by kernel_rfl)) k0 bel lt0) (trodAll_cons_mk (shut_int Try.underlying3 w1) trodAll_mk0)), rfl, bel.frame _, fun h => by cases h⟩

theorem proved : Rows.FnExactFirstToEatSaid :=
  OpenClaim.holds_of_wide 4 Try.f4 rfl rfl rfl rfl rfl rfl rfl ⟨rfl, rfl, rfl, rfl, rfl⟩ rfl rfl rfl rfl rfl (by kernel_rfl) Try.func4 (by kernel_rfl)
    (of_decide_eq_true (by kernel_rfl)) (by unfold Func.isWrapper; first | (rw [if_pos (by decide +kernel)]; kernel_rfl) | (rw [if_neg (by decide +kernel)]; exact ⟨rfl, rfl⟩))
    (fun os started H enc _ => lifted os started H enc)

#print axioms proved
end Go.Proofs.Ytobncknlipeinaa.lawFirstToEat
