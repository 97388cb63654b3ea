/-
  Proved: for every bar the law's calls of PlainBreaks answer as the model does, in memory of their own, and leave the arguments alone. Conditions: none.
-/
import Derived.Test.YtjfedmcejeeocaaPlainS
import Derived.Test.YtjfedmcejeeocaaBrkM
import Derived.ProofKit
import Derived.OpenShut
import Derived.Lib.SmallJoins
namespace Go.Proofs.Ytjfedmcejeeocaa.lawPlainBreaks
open Go.ChangeShapes Go.WideShapes Go.ChangeAt Go.RowKit Go.Joins
set_option linter.unusedVariables false

set_option maxHeartbeats 2000000 in
theorem walk (x y : Int) (w : World) (wx : (Lit.int .i64 x).wf = true) (wy : (Lit.int .i64 y).wf = true) :
    Calls Try.prog 3 #[bar2 x y] w fun e w' => e = .returned (.bool true) ∧ Below w.heap.size w w' := by
  clear wx wy
  have hlen := length_plainR x y
  go_enter Try.func3, Try.ntmps3
  go_wp2_with fail
  refine (toBar_any _ _ _).mono ?_; rintro e w1 ⟨rfl, hb1⟩; have s1 := hb1.size; obtain ⟨hc1, hf1⟩ := bcell hb1; have z1_w0 : w.heap.size < w1.heap.size := (by have q := s1; first | omega | (simp at q; omega))
  go_wp2_with fail
  refine (sPlainBreaks_any _ _ _).mono ?_; rintro e w2 ⟨A1, n1, c1, rfl, own1, hb2⟩; have s2 := hb2.size; obtain ⟨hc2, hf2⟩ := bcell hb2
  have z2_w0 : w.heap.size < w2.heap.size := by omega
  have ln1 : n1 ≤ 288 := by have h := own1.1; rw [length_tripCells] at h; omega
  go_wp2_with fail
  refine (toBar_any _ _ _).mono ?_; rintro e w3 ⟨rfl, hb3⟩; have s3 := hb3.size; obtain ⟨hc3, hf3⟩ := bcell hb3; have z3_w0 : w.heap.size < w3.heap.size := (by have q := s3; first | omega | (simp at q; omega))
  go_wp2_with fail
  refine (plainBreaks_any _ _ _).mono ?_; rintro e w4 ⟨A2, n2, c2, rfl, own2, hb4⟩; have s4 := hb4.size; obtain ⟨hc4, hf4⟩ := bcell hb4
  have z4_w0 : w.heap.size < w4.heap.size := by omega
  have ln2 : n2 ≤ 288 := by have h := own2.1; rw [length_tripCells] at h; omega
  have b24 : Below w2.heap.size w2 w4 := bcall s3 hb4 hb3
  have r1 := Rd.of_own (own_later own1 b24 (Nat.le_refl _))
  have r2 := Rd.of_own own2
  go_wp2_with fail
  refine (eqBreakS_any _ _ _ _ _ _ _ _ _ r2 r1 (by omega) (by omega)).mono ?_; rintro e w5 ⟨rfl, hb5⟩; have s5 := hb5.size; obtain ⟨hc5, hf5⟩ := bcell hb5
  have z5_w0 : w.heap.size < w5.heap.size := by omega
  have e5 : decide (plainR x y = plainR x y) = true := by simp
  clear r1 r2
  go_wp2_with fail
  refine (markBreakS_all _ _ _ _ _ _ (own_later own2 hb5 (Nat.le_refl _)) (by omega)).mono ?_; rintro e w6 ⟨rfl, own6, hb6⟩; have s6 := hb6.size; obtain ⟨hc6, hf6⟩ := bcellB hb6
  have z6_w0 : w.heap.size < w6.heap.size := by omega
  go_wp2_with fail
  refine (heldBreakS_all _ _ _ _ (Rd.of_own own6) (by omega)).mono ?_; rintro e w7 ⟨rfl, rfl⟩
  have t7 : ((1 : Int) + 3 * (n2 : Int) < 0) = False := by simp; omega
  go_wp2_with fail
  refine (toBar_any _ _ _).mono ?_; rintro e w8 ⟨rfl, hb8⟩; have s8 := hb8.size; obtain ⟨hc8, hf8⟩ := bcell hb8; have z8_w0 : w.heap.size < w8.heap.size := (by have q := s8; first | omega | (simp at q; omega))
  go_wp2_with fail
  refine (plainBreaks_any _ _ _).mono ?_; rintro e w9 ⟨A3, n3, c3, rfl, own3, hb9⟩; have s9 := hb9.size; obtain ⟨hc9, hf9⟩ := bcell hb9
  have z9_w0 : w.heap.size < w9.heap.size := by omega
  have ln3 : n3 ≤ 288 := by have h := own3.1; rw [length_tripCells] at h; omega
  have b46 : Below w3.heap.size w4 w6 := (hb5.mono s4).trans hb6
  have b26 : Below w2.heap.size w2 w6 := b24.trans (b46.mono s3)
  have b29 : Below w2.heap.size w2 w9 := bcall (by omega) hb9 (bcall (by omega) hb8 b26)
  have r1 := Rd.of_own (own_later own1 b29 (Nat.le_refl _))
  have r3 := Rd.of_own own3
  go_wp2_with fail
  refine (eqBreakS_any _ _ _ _ _ _ _ _ _ r3 r1 (by omega) (by omega)).mono ?_; rintro e w10 ⟨rfl, hb10⟩; have s10 := hb10.size; obtain ⟨hc10, hf10⟩ := bcell hb10
  have z10_w0 : w.heap.size < w10.heap.size := by omega
  clear r1 r3
  have b610 : Below w6.heap.size w6 w10 := bcall (by omega) hb10 (bcall (by omega) hb9 hb8)
  go_wp2_with fail
  refine (heldBreakS_all _ _ _ _ (Rd.of_own (own_later own6 b610 (Nat.le_refl _))) (by omega)).mono ?_; rintro e w11 ⟨rfl, rfl⟩
  go_wp2
  go_ret
  have fin : Below w.heap.size w w10 := bcall (by omega) b610 (Below.trans (by (repeat (first | (with_reducible exact Below.refl _ _) | (with_reducible assumption) | (with_reducible refine Below.drew ?_) | ((with_reducible refine balloc ?_ _ ?_); · (first | (simp; done) | (simp; omega) | omega)) | ((with_reducible refine bset ?_ _ ?_); · (first | (simp; done) | (simp; omega) | omega)) | (with_reducible refine bdrewN _ ?_) | ((with_reducible refine bcall ?_ (by assumption) ?_); · (first | (simp; done) | (simp; omega) | omega))))) (b26.mono (by omega)))
  exact ⟨rfl, fin⟩

theorem own : ownKnob Try.prog.godebug = none := by kernel_rfl
theorem laidOut : laidOutB Try.prog = true := by kernel_rfl

set_option maxRecDepth 100000 in
theorem lifted (os : Os) (started : os.Started) (H : Type) (enc : TypeId × Value → H) :
    ReturnsInHanded {} Try.checked os 3 .any (Rows.fnExactPlainBreaksSpec.pre6 enc Try.prog Try.f3 Rows.fnExactPlainBreaksRow.domain false) (Rows.fnExactPlainBreaksSpec.post enc Try.prog Try.f3 false true false false) := by
  refine returnsInHanded_of_change (C := Try.checked) own started (by kernel_rfl) Try.func3
    (ChangeSpec.witness6 (enc := enc) (C := Try.checked) false ⟨#[], #[.agg #[.int .i64 0, .int .i64 0]], []⟩ 8 (by kernel_rfl) (by kernel_rfl) (by kernel_rfl) (by kernel_rfl)) ?_
  intro W base args ds gs before hval0 hW hcnd _
  have hval : ∀ (j : Nat) t v, Try.f3.params[j]? = some t → args[j]? = some v → Value.okWide Try.prog W .any base t v := hval0
  have hW' := hW
  obtain ⟨p, q, hA0, hV, rfl, hfz, hnd⟩ := hW
  have hA : DataW.TrodAll enc Try.prog W 0 (fun _ => true) true Try.f3.params.toList args.toList ds p := hA0
  rw [Try.params3] at hA hval
  obtain ⟨v0, vs0, d0, ds0, p0, q0, hargs, rfl, rfl, h0, r0⟩ := trodAll_cons hA
  obtain ⟨rfl, rfl, rfl⟩ := trodAll_nil r0
  obtain rfl : args = #[v0] := by cases args; simp_all
  obtain ⟨rfl, rfl⟩ := trodVars_none hV
  have k0 := h0
  have lt0 : ∀ x ∈ p0, x.block < W.heap.size := by obtain ⟨m, hm⟩ := k0; exact DataW.trod_lt m _ _ _ hm
  obtain ⟨c0_0, c0_1, y0_0, y0_1, m0, rfl, rfl, rfl, e0_0, e0_1⟩ := open_agg2 Try.underlying23 (by kernel_rfl) (show Try.prog.cellsOf 23 = 2 by kernel_rfl) (hval 0 23 v0 rfl rfl) h0
  obtain ⟨a0_0, q0_0, rfl, w0_0⟩ := DataW.trod_int Try.underlying3 e0_0
  obtain ⟨a0_1, q0_1, rfl, w0_1⟩ := DataW.trod_int Try.underlying3 e0_1
  simp at q0_0 q0_1
  subst q0_0 q0_1
  clear hA0 hval0
  refine (walk a0_0 a0_1 W w0_0 w0_1).mono fun e W' ⟨he, bel⟩ => ?_
  subst he
  exact ⟨_, rfl, _, _, _, [], _, [], hW', trodAll_mk1 (shut_bool Try.underlying4 _), (trodAll_cons_mk (Below.trod laidOut (by kernel_rfl) (of_decide_eq_true (by kernel_rfl)) k0 bel lt0) trodAll_mk0), rfl, bel.frame _, fun h => by cases h⟩

theorem proved : Rows.FnExactPlainBreaksSaid :=
  OpenClaim.holds_of_wide 3 Try.f3 rfl rfl rfl rfl rfl rfl rfl ⟨rfl, rfl, rfl, rfl, rfl⟩ rfl rfl rfl rfl rfl (by kernel_rfl) Try.func3 (by kernel_rfl)
    (of_decide_eq_true (by kernel_rfl)) (by unfold Func.isWrapper; first | (rw [if_pos (by decide +kernel)]; kernel_rfl) | (rw [if_neg (by decide +kernel)]; exact ⟨rfl, rfl⟩))
    (fun os started H enc _ => lifted os started H enc)

#print axioms proved

end Go.Proofs.Ytjfedmcejeeocaa.lawPlainBreaks
