/-
  Proved: for every list of numbers, number and bool the law's calls of GoodStrips answer as the model does, in memory of their own, and leave the arguments alone. Conditions: none.
-/
import Derived.Test.YtcocdidkkcjbgaaDoorLaidE
import Derived.Test.YtcocdidkkcjbgaaDoorGstP
import Derived.Test.YtcocdidkkcjbgaaDoorIKit
import Derived.Test.YtcocdidkkcjbgaaDoorOpenI
import Derived.Test.YtcocdidkkcjbgaaDoorSS
import Derived.ProofKit
import Derived.OpenShut
import Derived.Lib.SmallJoins
import Derived.LaidMore
import Derived.Stop.Joined
import Derived.SevenTiedAt
import Derived.Test.YtcocdidkkcjbgaaDoorCards
import Derived.Test.YtcocdidkkcjbgaaDoorTie
namespace Go.Proofs.YtcocdidkkcjbgaaDoor.lawGoodStrips
open Go.ChangeShapes Go.WideShapes Go.ChangeAt Go.RowKit Go.Joins Go.Deep
set_option linter.unusedVariables false

set_option maxRecDepth 100000 in
set_option maxHeartbeats 4000000 in
theorem walk (A_aStrips : Option Addr) (n_aStrips c_aStrips : Nat) (l_aStrips : List Int) (z_aLeast : Int) (z_aUnlike : Bool) (w : World) (rd_aStrips : Rd w 1 A_aStrips n_aStrips (intCells l_aStrips)) (hw_aStrips : ∀ z ∈ l_aStrips, (Lit.int .i64 z).wf = true) (hn_aStrips : n_aStrips ≤ 9223372036854775807) (wz_aLeast : (Lit.int .i64 z_aLeast).wf = true) (a0 : Addr) (hL : LaidE w a0) :
    Calls Tryd.prog 5 #[.slice A_aStrips n_aStrips c_aStrips, .int .i64 z_aLeast, .bool z_aUnlike] w fun e w' => e = .returned (.bool true) ∧ Below w.heap.size w w' := by
  clear hw_aStrips
  clear wz_aLeast
  have hng := hL.2.2
  go_enter Tryd.func5, Tryd.ntmps5
  have bw0 : Below w.heap.size w w := Below.refl _ _
  by_cases hn2_aStrips : n_aStrips ≤ 1048576
  case neg =>
    go_wp2
    go_ret
    exact ⟨rfl, bw0⟩
  go_wp2_with fail
  refine (toIntS_any _ _ _ l_aStrips _ (rd_aStrips.later bw0 (Nat.le_refl _)) hn2_aStrips).mono ?_; rintro e w1 ⟨g_sp0, rfl, o_sp0_1, hb1⟩; have s1 := hb1.size; (try simp at s1)
  have bw1 : Below w.heap.size w w1 := bcall bw0.size hb1 bw0
  have q1 := bw1.size
  have lt_sp0 := Lib.hid (fun g (h : (Value.slice (some ⟨g_sp0, 0, none⟩) n_aStrips n_aStrips).ownBlock = some g) => o_sp0_1.lt g h)
  go_wp2_with fail
  refine (sGoodStrips_any _ _ _ l_aStrips _ _ _ (Rd.of_own o_sp0_1) (by omega)).mono ?_; rintro e w2 ⟨A_w0, n_w0, c_w0, rfl, ln_w0, o_w0_2, hb2⟩; have s2 := hb2.size
  have bw2 : Below w.heap.size w w2 := bcall bw1.size hb2 bw1
  have q2 := bw2.size
  have o_sp0_2 := own_later o_sp0_1 hb2 (Nat.le_refl _)
  have nl_w0 := Lib.hid ln_w0.1; replace ln_w0 := ln_w0.2
  have bc_w0_2 : Below w2.heap.size w2 w2 := Below.refl _ _; have oc_w0 := Lib.hid o_w0_2
  go_wp2_with fail
  refine (toIntS_any _ _ _ l_aStrips _ (rd_aStrips.later bw2 (Nat.le_refl _)) hn2_aStrips).mono ?_; rintro e w3 ⟨g_x0, rfl, o_x0_3, hb3⟩; have s3 := hb3.size
  have bw3 : Below w.heap.size w w3 := bcall bw2.size hb3 bw2
  have q3 := bw3.size
  have o_sp0_3 := own_later o_sp0_2 hb3 (Nat.le_refl _)
  have o_w0_3 := OwnSS.later o_w0_2 hb3 (Nat.le_refl _)
  have bc_w0_3 : Below w2.heap.size w2 w3 := bc_w0_2.trans (hb3.mono (by omega))
  have lt_x0 := Lib.hid (fun g (h : (Value.slice (some ⟨g_x0, 0, none⟩) n_aStrips n_aStrips).ownBlock = some g) => o_x0_3.lt g h)
  go_wp2_with fail
  refine (goodStrips_any _ _ _ l_aStrips _ _ _ (Rd.of_own o_x0_3) (by omega) a0 (LaidE.later hL bw3 hng (by omega))).mono ?_; rintro e w4 ⟨A_g0, n_g0, c_g0, rfl, ln_g0, o_g0_4, hb4⟩; have s4 := hb4.size
  have bw4 : Below w.heap.size w w4 := bcall bw3.size hb4 bw3
  have q4 := bw4.size
  have o_sp0_4 := own_later o_sp0_3 hb4 (Nat.le_refl _)
  have o_w0_4 := OwnSS.later o_w0_3 hb4 (Nat.le_refl _)
  have o_x0_4 := own_later o_x0_3 hb4 (Nat.le_refl _)
  have bc_w0_4 : Below w2.heap.size w2 w4 := bc_w0_3.trans (hb4.mono (by omega))
  have e_g0 : n_w0 = n_g0 := nl_w0.out.trans ln_g0.1.symm; replace ln_g0 := ln_g0.2; subst e_g0
  have bc_g0_4 : Below w4.heap.size w4 w4 := Below.refl _ _; have oc_g0 := Lib.hid o_g0_4
  go_wp2_with fail
  refine (eqIntSS_same _ _ _ _ _ (prR (gsR l_aStrips z_aLeast z_aUnlike)) _ (OwnSS.rd o_g0_4) (OwnSS.rd o_w0_4) (by omega) (fun i _ => Nat.le_trans ((prR_6 (gsR l_aStrips z_aLeast z_aUnlike)) i) (by omega))).mono ?_; rintro e w5 ⟨rfl, hb5⟩; have s5 := hb5.size
  have bw5 : Below w.heap.size w w5 := bcall bw4.size hb5 bw4
  have q5 := bw5.size
  have o_sp0_5 := own_later o_sp0_4 hb5 (Nat.le_refl _)
  have o_w0_5 := OwnSS.later o_w0_4 hb5 (Nat.le_refl _)
  have o_x0_5 := own_later o_x0_4 hb5 (Nat.le_refl _)
  have o_g0_5 := OwnSS.later o_g0_4 hb5 (Nat.le_refl _)
  have bc_w0_5 : Below w2.heap.size w2 w5 := bc_w0_4.trans (hb5.mono (by omega))
  have bc_g0_5 : Below w4.heap.size w4 w5 := bc_g0_4.trans (hb5.mono (by omega))
  go_wp2_with fail
  refine (toIntS_any _ _ _ l_aStrips _ (rd_aStrips.later bw5 (Nat.le_refl _)) hn2_aStrips).mono ?_; rintro e w6 ⟨g_cy5, rfl, o_cy5_6, hb6⟩; have s6 := hb6.size
  have bw6 : Below w.heap.size w w6 := bcall bw5.size hb6 bw5
  have q6 := bw6.size
  have o_sp0_6 := own_later o_sp0_5 hb6 (Nat.le_refl _)
  have o_w0_6 := OwnSS.later o_w0_5 hb6 (Nat.le_refl _)
  have o_x0_6 := own_later o_x0_5 hb6 (Nat.le_refl _)
  have o_g0_6 := OwnSS.later o_g0_5 hb6 (Nat.le_refl _)
  have bc_w0_6 : Below w2.heap.size w2 w6 := bc_w0_5.trans (hb6.mono (by omega))
  have bc_g0_6 : Below w4.heap.size w4 w6 := bc_g0_5.trans (hb6.mono (by omega))
  have lt_cy5 := Lib.hid (fun g (h : (Value.slice (some ⟨g_cy5, 0, none⟩) n_aStrips n_aStrips).ownBlock = some g) => o_cy5_6.lt g h)
  go_wp2_with fail
  refine (eqIntS_same _ _ _ _ _ _ _ _ (Rd.of_own o_x0_6) (Rd.of_own o_cy5_6) (by omega) (by omega)).mono ?_; rintro e w7 ⟨rfl, hb7⟩; have s7 := hb7.size
  have bw7 : Below w.heap.size w w7 := bcall bw6.size hb7 bw6
  have q7 := bw7.size
  have o_sp0_7 := own_later o_sp0_6 hb7 (Nat.le_refl _)
  have o_w0_7 := OwnSS.later o_w0_6 hb7 (Nat.le_refl _)
  have o_x0_7 := own_later o_x0_6 hb7 (Nat.le_refl _)
  have o_g0_7 := OwnSS.later o_g0_6 hb7 (Nat.le_refl _)
  have o_cy5_7 := own_later o_cy5_6 hb7 (Nat.le_refl _)
  have bc_w0_7 : Below w2.heap.size w2 w7 := bc_w0_6.trans (hb7.mono (by omega))
  have bc_g0_7 : Below w4.heap.size w4 w7 := bc_g0_6.trans (hb7.mono (by omega))
  go_wp2_with fail
  refine (markIntS_any _ _ _ _ _ _ _ o_x0_7 (by omega) (by omega) (by omega)).mono ?_; rintro e w8 ⟨rfl, o_x0_8, hb8, hg8⟩; have s8 := hb8.size
  have m8 : w7.heap.size ≤ w8.heap.size := hg8.size
  have bw8 : Below w.heap.size w w8 := bw7.trans (hb8.mono (by omega))
  have q8 := bw8.size
  have bc_w0_8 : Below w2.heap.size w2 w8 := bc_w0_7.trans (hb8.mono (by omega))
  have o_sp0_8 := o_sp0_7.kept hg8 (own_apart (by exact lt_sp0.out) (by exact lt_x0.out) (by omega))
  have o_w0_8 := OwnSS.later oc_w0.out bc_w0_8 (Nat.le_refl _)
  have o_g0_8 := OwnSS.kept o_g0_7 hg8 (fun g hgg => by have := (lt_x0.out g hgg); omega)
  have o_cy5_8 := o_cy5_7.kept hg8 (own_apart (by exact lt_cy5.out) (by exact lt_x0.out) (by omega))
  go_wp2_with fail
  refine (eqIntSS_same _ _ _ _ _ (prR (gsR l_aStrips z_aLeast z_aUnlike)) _ (OwnSS.rd o_g0_8) (OwnSS.rd o_w0_8) (by omega) (fun i _ => Nat.le_trans ((prR_6 (gsR l_aStrips z_aLeast z_aUnlike)) i) (by omega))).mono ?_; rintro e w9 ⟨rfl, hb9⟩; have s9 := hb9.size
  have bw9 : Below w.heap.size w w9 := bcall bw8.size hb9 bw8
  have q9 := bw9.size
  have o_sp0_9 := own_later o_sp0_8 hb9 (Nat.le_refl _)
  have o_w0_9 := OwnSS.later o_w0_8 hb9 (Nat.le_refl _)
  have o_x0_9 := own_later o_x0_8 hb9 (Nat.le_refl _)
  have o_g0_9 := OwnSS.later o_g0_8 hb9 (Nat.le_refl _)
  have o_cy5_9 := own_later o_cy5_8 hb9 (Nat.le_refl _)
  have bc_w0_9 : Below w2.heap.size w2 w9 := bc_w0_8.trans (hb9.mono (by omega))
  have pl_g0 := pre_le6 (prR_6 (gsR l_aStrips z_aLeast z_aUnlike)) n_w0
  go_wp2_with fail
  refine (markIntSS_any _ _ _ _ _ (prR (gsR l_aStrips z_aLeast z_aUnlike)) _ o_g0_9 (by omega) (by omega) (by omega) (by omega)).mono ?_; rintro e w10 ⟨rfl, o_g0_10, hb10⟩; have s10 := hb10.size
  have bw10 : Below w.heap.size w w10 := bw9.trans (hb10.mono (by omega))
  have q10 := bw10.size
  have bc_w0_10 : Below w2.heap.size w2 w10 := bc_w0_9.trans (hb10.mono (by omega))
  have o_w0_10 := OwnSS.later oc_w0.out bc_w0_10 (Nat.le_refl _)
  go_wp2_with fail
  refine (heldIntSS_any _ _ _ _ (prR (gsR l_aStrips z_aLeast z_aUnlike)) _ (OwnSS.rd o_g0_10) (by omega) (by omega) (by omega) (by omega)).mono ?_; rintro e wx ⟨rfl, rfl⟩
  go_wp2_with fail
  refine (toIntS_any _ _ _ l_aStrips _ (rd_aStrips.later bw10 (Nat.le_refl _)) hn2_aStrips).mono ?_; rintro e w11 ⟨g_ag0, rfl, o_ag0_11, hb11⟩; have s11 := hb11.size
  have bw11 : Below w.heap.size w w11 := bcall bw10.size hb11 bw10
  have q11 := bw11.size
  have o_w0_11 := OwnSS.later o_w0_10 hb11 (Nat.le_refl _)
  have o_g0_11 := OwnSS.later o_g0_10 hb11 (Nat.le_refl _)
  have bc_w0_11 : Below w2.heap.size w2 w11 := bc_w0_10.trans (hb11.mono (by omega))
  have lt_ag0 := Lib.hid (fun g (h : (Value.slice (some ⟨g_ag0, 0, none⟩) n_aStrips n_aStrips).ownBlock = some g) => o_ag0_11.lt g h)
  go_wp2_with fail
  refine (goodStrips_any _ _ _ l_aStrips _ _ _ (Rd.of_own o_ag0_11) (by omega) a0 (LaidE.later hL bw11 hng (by omega))).mono ?_; rintro e w12 ⟨A_h0, n_h0, c_h0, rfl, ln_h0, o_h0_12, hb12⟩; have s12 := hb12.size
  have bw12 : Below w.heap.size w w12 := bcall bw11.size hb12 bw11
  have q12 := bw12.size
  have o_w0_12 := OwnSS.later o_w0_11 hb12 (Nat.le_refl _)
  have o_g0_12 := OwnSS.later o_g0_11 hb12 (Nat.le_refl _)
  have o_ag0_12 := own_later o_ag0_11 hb12 (Nat.le_refl _)
  have bc_w0_12 : Below w2.heap.size w2 w12 := bc_w0_11.trans (hb12.mono (by omega))
  have e_h0 : n_w0 = n_h0 := nl_w0.out.trans ln_h0.1.symm; replace ln_h0 := ln_h0.2; subst e_h0
  have bc_h0_12 : Below w12.heap.size w12 w12 := Below.refl _ _; have oc_h0 := Lib.hid o_h0_12
  go_wp2_with fail
  refine (eqIntSS_same _ _ _ _ _ (prR (gsR l_aStrips z_aLeast z_aUnlike)) _ (OwnSS.rd o_h0_12) (OwnSS.rd o_w0_12) (by omega) (fun i _ => Nat.le_trans ((prR_6 (gsR l_aStrips z_aLeast z_aUnlike)) i) (by omega))).mono ?_; rintro e w13 ⟨rfl, hb13⟩; have s13 := hb13.size
  have bw13 : Below w.heap.size w w13 := bcall bw12.size hb13 bw12
  have q13 := bw13.size
  have o_w0_13 := OwnSS.later o_w0_12 hb13 (Nat.le_refl _)
  have o_g0_13 := OwnSS.later o_g0_12 hb13 (Nat.le_refl _)
  have o_ag0_13 := own_later o_ag0_12 hb13 (Nat.le_refl _)
  have o_h0_13 := OwnSS.later o_h0_12 hb13 (Nat.le_refl _)
  have bc_w0_13 : Below w2.heap.size w2 w13 := bc_w0_12.trans (hb13.mono (by omega))
  have bc_h0_13 : Below w12.heap.size w12 w13 := bc_h0_12.trans (hb13.mono (by omega))
  go_wp2_with fail
  refine (heldIntSS_any _ _ _ _ (prR (gsR l_aStrips z_aLeast z_aUnlike)) _ (OwnSS.rd o_g0_13) (by omega) (by omega) (by omega) (by omega)).mono ?_; rintro e wx ⟨rfl, rfl⟩
  go_wp2
  go_ret
  exact ⟨rfl, bw13⟩

theorem own : ownKnob Tryd.prog.godebug = none := by kernel_rfl
theorem laidOut : laidOutB Tryd.prog = true := by kernel_rfl
def theLaid : List (String × DataW Unit) := [("errors.errorType", Rows.laid_errors_errorType), ("loop.example/g01377/impl.errLikeParts", Rows.laid_loop_example_g01377_impl_errLikeParts)]
theorem door_met (os : Os) (args : Array Value) : laidMetH Tryd.prog theLaid ((World.doorLaid Tryd.prog 400 os).forCall (fun _ _ => 0) ⟨#[], args, []⟩).memory :=
  laidMetH_of_parts3 (fuel := 8) (laidMet_of_run' 8 (by kernel_rfl) (by kernel_rfl)) (by kernel_rfl) (by kernel_rfl)

set_option maxRecDepth 100000 in
theorem lifted (os : Os) (started : os.Started) (H : Type) (enc : TypeId × Value → H) :
    ReturnsInHanded {} Tryd.checked os 5 .any (fun w args => (Rows.fnExactGoodStripsSpec.pre enc Tryd.prog Tryd.f5 [] false w args ∧ laidMetH Tryd.prog theLaid w) ∧ sizedMet enc Tryd.prog Tryd.f5 (OpenSpec.ofChange Rows.fnExactGoodStripsSpec) false w args)
      (Rows.fnExactGoodStripsSpec.post enc Tryd.prog Tryd.f5 false true false false) := by
  refine returnsInHanded_of_change_and (C := Tryd.checked) (X := fun w _ => laidMetH Tryd.prog theLaid w) (fun _ _ _ hh h => h.of_heap hh) own started (by kernel_rfl) Tryd.func5
    (ChangeSpec.witness_shaped (enc := enc) (C := Tryd.checked) (os := os) (X := fun w _ => laidMetH Tryd.prog theLaid w) false (World.doorLaid Tryd.prog 400 os) #[.slice none 0 0, .int .i64 0, .bool false] 8 rfl (World.shaped_of_RefB (by kernel_rfl) (by kernel_rfl)) (by kernel_rfl) (by kernel_rfl) (by kernel_rfl) (door_met os _)) ?_
  intro W base args ds gs before hval0 hW _ _ hL _
  have hval : ∀ (j : Nat) t v, Tryd.f5.params[j]? = some t → args[j]? = some v → Value.okWide Tryd.prog W .any base t v := hval0
  have hW' := hW
  obtain ⟨p, q, hA0, hV, rfl, hfz, hnd⟩ := hW
  have hA : DataW.TrodAll enc Tryd.prog W 0 (fun _ => true) true Tryd.f5.params.toList args.toList ds p := hA0
  rw [Tryd.params5] at hA hval
  obtain ⟨v0, vs0, d0, ds0, p0, q0, hargs, rfl, rfl, h0, r0⟩ := trodAll_cons hA
  obtain ⟨v1, vs1, d1, ds1, p1, q1, rfl, rfl, rfl, h1, r1⟩ := trodAll_cons r0
  obtain ⟨v2, vs2, d2, ds2, p2, q2, rfl, rfl, rfl, h2, r2⟩ := trodAll_cons r1
  obtain ⟨rfl, rfl, rfl⟩ := trodAll_nil r2
  obtain rfl : args = #[v0, v1, v2] := by cases args; simp_all
  obtain ⟨g0, rfl⟩ : ∃ g0, gs = [g0] := by
    have hl := Go.Proofs.YtcocdidkkcjbgaaDoor.trodVars_len hV
    match gs, hl with
    | [b0], _ => exact ⟨b0, rfl⟩
  obtain ⟨A0, n0, c0, rfl⟩ := okWide_slice Tryd.underlying33 (hval 0 33 v0 rfl rfl)
  have k0 := h0
  have lt0 : ∀ x ∈ p0, x.block < W.heap.size := by obtain ⟨m, hm⟩ := k0; exact DataW.trod_lt m _ _ _ hm
  obtain ⟨xs0, rd0, sz0, hl0⟩ := open_intL Tryd.underlying33 Tryd.underlying3 (show Tryd.prog.cellsOf 3 = 1 by kernel_rfl) h0
  obtain ⟨a1, rfl, rfl, rfl, w1⟩ := open_int Tryd.underlying3 (hval 1 3 v1 rfl rfl) h1
  obtain ⟨a2, rfl, rfl, rfl⟩ := open_bool Tryd.underlying4 (hval 2 4 v2 rfl rfl) h2
  clear hA0 hval0
  obtain ⟨aL, hLE⟩ := laidE_of hL
  refine (walk A0 n0 c0 xs0 a1 a2 W rd0 sz0 hl0 w1 aL hLE).mono fun e W' ⟨he, bel⟩ => ?_
  subst he
  exact ⟨_, rfl, _, _, _, [], _, q, hW', trodAll_mk1 (shut_bool Tryd.underlying4 _), (trodAll_cons_mk (Below.trod laidOut (by kernel_rfl) (of_decide_eq_true (by kernel_rfl)) k0 bel lt0) (trodAll_cons_mk (shut_int Tryd.underlying3 w1) (trodAll_cons_mk (shut_bool Tryd.underlying4 _) trodAll_mk0))), Below.trodVars laidOut bel (by kernel_rfl) hV, bel.frame _, fun h => by cases h⟩

theorem said : Rows.FnExactGoodStripsSaid :=
  OpenClaim.holds_of_wide 5 Tryd.f5 rfl rfl rfl rfl rfl rfl rfl ⟨rfl, rfl, rfl, rfl, rfl⟩ rfl rfl rfl rfl rfl (by kernel_rfl) Tryd.func5 (by kernel_rfl)
    (of_decide_eq_true (by kernel_rfl)) (by unfold Func.isWrapper; first | (rw [if_pos (by decide +kernel)]; kernel_rfl) | (rw [if_neg (by decide +kernel)]; exact ⟨rfl, rfl⟩))
    (fun os started H enc _ => lifted os started H enc)

theorem proved : Rows.FnExactGoodStripsCardSaid :=
  Claim7.holds_tied_plain_at .later [] [.handle, .sentinel] true (true, "8763b2fe60e89338b6e56fb427e0977fda09e0ac6dff10337bec613ded2e5776") true
    said (fun _ h => by cases h) (by kernel_rfl) (fun _ h => by cases h) fnExactGoodStrips_row_tie rfl ⟨rfl, rfl⟩ (by kernel_rfl) rfl
    (fun f fn hf hfn => by
      obtain rfl : f = 5 := Option.some.inj ((show Tryd.prog.funcNamed "loop.example/g01377/laws.FnExactGoodStrips" = some 5 by kernel_rfl).symm.trans hf) |>.symm
      obtain rfl : fn = Tryd.f5 := (Option.some.inj (Tryd.func5.symm.trans hfn)).symm
      exact ⟨by kernel_rfl, fun j t ht => by
        rw [Tryd.params5] at ht
        have hm : t ∈ [33, 3, 4] := by simpa using Array.mem_of_getElem? ht
        have hall : ([33, 3, 4].all fun u => !Tryd.prog.wantsStandIn u) = true := by kernel_rfl
        exact (show Tryd.prog.wantsStandIn t = false by simpa using List.all_eq_true.1 hall t hm)⟩)
    (by kernel_rfl)

#print axioms proved
end Go.Proofs.YtcocdidkkcjbgaaDoor.lawGoodStrips
