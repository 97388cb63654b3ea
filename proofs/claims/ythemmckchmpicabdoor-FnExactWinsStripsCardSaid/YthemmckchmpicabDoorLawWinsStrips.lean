/-
  Proved: for every list of numbers, number and bool the law's calls of WinsStrips answer as the model does and leave the arguments alone. Conditions: none.
-/
import Derived.Test.YthemmckchmpicabDoorLaidE
import Derived.Test.YthemmckchmpicabDoorAreS
import Derived.Test.YthemmckchmpicabDoorIKit
import Derived.Test.YthemmckchmpicabDoorOpenI
import Derived.ProofKit
import Derived.OpenShut
import Derived.Lib.SmallJoins
import Derived.LaidMore
import Derived.Stop.Joined
import Derived.SevenTiedAt
import Derived.Test.YthemmckchmpicabDoorCards
import Derived.Test.YthemmckchmpicabDoorTie
namespace Go.Proofs.YthemmckchmpicabDoor.lawWinsStrips
open Go.ChangeShapes Go.WideShapes Go.ChangeAt Go.RowKit Go.Joins Go.Deep
set_option linter.unusedVariables false

set_option maxRecDepth 100000 in
set_option maxHeartbeats 4000000 in
theorem walk (A_aStrips : Option Addr) (n_aStrips c_aStrips : Nat) (l_aStrips : List Int) (z_aLeast : Int) (z_aUnlike : Bool) (w : World) (rd_aStrips : Rd w 1 A_aStrips n_aStrips (intCells l_aStrips)) (hw_aStrips : ∀ z ∈ l_aStrips, (Lit.int .i64 z).wf = true) (hn_aStrips : n_aStrips ≤ 9223372036854775807) (wz_aLeast : (Lit.int .i64 z_aLeast).wf = true) (a0 : Addr) (hL : LaidE w a0) :
    Calls Tryd.prog 3 #[.slice A_aStrips n_aStrips c_aStrips, .int .i64 z_aLeast, .bool z_aUnlike] w fun e w' => e = .returned (.bool true) ∧ Below w.heap.size w w' := by
  clear hw_aStrips
  clear wz_aLeast
  have hng := hL.2.2
  go_enter Tryd.func3, Tryd.ntmps3
  have bw0 : Below w.heap.size w w := Below.refl _ _
  by_cases hn2_aStrips : n_aStrips ≤ 1048576
  case neg =>
    go_wp2
    go_ret
    exact ⟨rfl, bw0⟩
  go_wp2_with fail
  refine (toIntS_any _ _ _ l_aStrips _ (rd_aStrips.later bw0 (Nat.le_refl _)) hn2_aStrips).mono ?_; rintro e w1 ⟨g_sp0, rfl, o_sp0_1, hb1⟩; have s1 := hb1.size; (try simp at s1)
  have bw1 : Below w.heap.size w w1 := bcall bw0.size hb1 bw0
  have q1 := bw1.size
  have lt_sp0 := Lib.hid (fun g (h : (Value.slice (some ⟨g_sp0, 0, none⟩) n_aStrips n_aStrips).ownBlock = some g) => o_sp0_1.lt g h)
  go_wp2_with fail
  refine (sWinsStrips_any _ _ _ l_aStrips _ _ _ (Rd.of_own o_sp0_1) (by omega)).mono ?_; rintro e w2 ⟨rfl, hb2⟩; have s2 := hb2.size
  have bw2 : Below w.heap.size w w2 := bcall bw1.size hb2 bw1
  have q2 := bw2.size
  have o_sp0_2 := own_later o_sp0_1 hb2 (Nat.le_refl _)
  go_wp2_with fail
  refine (toIntS_any _ _ _ l_aStrips _ (rd_aStrips.later bw2 (Nat.le_refl _)) hn2_aStrips).mono ?_; rintro e w3 ⟨g_x0, rfl, o_x0_3, hb3⟩; have s3 := hb3.size
  have bw3 : Below w.heap.size w w3 := bcall bw2.size hb3 bw2
  have q3 := bw3.size
  have o_sp0_3 := own_later o_sp0_2 hb3 (Nat.le_refl _)
  have lt_x0 := Lib.hid (fun g (h : (Value.slice (some ⟨g_x0, 0, none⟩) n_aStrips n_aStrips).ownBlock = some g) => o_x0_3.lt g h)
  go_wp2_with fail
  refine (winsStrips_any _ _ _ l_aStrips _ _ _ (Rd.of_own o_x0_3) (by omega) a0 (LaidE.later hL bw3 hng (by omega))).mono ?_; rintro e w4 ⟨rfl, hb4⟩; have s4 := hb4.size
  have bw4 : Below w.heap.size w w4 := bcall bw3.size hb4 bw3
  have q4 := bw4.size
  have o_sp0_4 := own_later o_sp0_3 hb4 (Nat.le_refl _)
  have o_x0_4 := own_later o_x0_3 hb4 (Nat.le_refl _)
  go_wp2_with fail
  refine (toIntS_any _ _ _ l_aStrips _ (rd_aStrips.later bw4 (Nat.le_refl _)) hn2_aStrips).mono ?_; rintro e w5 ⟨g_cy4, rfl, o_cy4_5, hb5⟩; have s5 := hb5.size
  have bw5 : Below w.heap.size w w5 := bcall bw4.size hb5 bw4
  have q5 := bw5.size
  have o_sp0_5 := own_later o_sp0_4 hb5 (Nat.le_refl _)
  have o_x0_5 := own_later o_x0_4 hb5 (Nat.le_refl _)
  have lt_cy4 := Lib.hid (fun g (h : (Value.slice (some ⟨g_cy4, 0, none⟩) n_aStrips n_aStrips).ownBlock = some g) => o_cy4_5.lt g h)
  go_wp2_with fail
  refine (eqIntS_same _ _ _ _ _ _ _ _ (Rd.of_own o_x0_5) (Rd.of_own o_cy4_5) (by omega) (by omega)).mono ?_; rintro e w6 ⟨rfl, hb6⟩; have s6 := hb6.size
  have bw6 : Below w.heap.size w w6 := bcall bw5.size hb6 bw5
  have q6 := bw6.size
  have o_sp0_6 := own_later o_sp0_5 hb6 (Nat.le_refl _)
  have o_x0_6 := own_later o_x0_5 hb6 (Nat.le_refl _)
  have o_cy4_6 := own_later o_cy4_5 hb6 (Nat.le_refl _)
  go_wp2
  go_ret
  exact ⟨rfl, bw6⟩

theorem own : ownKnob Tryd.prog.godebug = none := by kernel_rfl
theorem laidOut : laidOutB Tryd.prog = true := by kernel_rfl
def theLaid : List (String × DataW Unit) := [("errors.errorType", Rows.laid_errors_errorType), ("loop.example/g01377/impl.errLikeParts", Rows.laid_loop_example_g01377_impl_errLikeParts)]
theorem door_met (os : Os) (args : Array Value) : laidMetH Tryd.prog theLaid ((World.doorLaid Tryd.prog 400 os).forCall (fun _ _ => 0) ⟨#[], args, []⟩).memory :=
  laidMetH_of_parts3 (fuel := 8) (laidMet_of_run' 8 (by kernel_rfl) (by kernel_rfl)) (by kernel_rfl) (by kernel_rfl)

set_option maxRecDepth 100000 in
theorem lifted (os : Os) (started : os.Started) (H : Type) (enc : TypeId × Value → H) :
    ReturnsInHanded {} Tryd.checked os 3 .any (fun w args => (Rows.fnExactWinsStripsSpec.pre enc Tryd.prog Tryd.f3 [] false w args ∧ laidMetH Tryd.prog theLaid w) ∧ sizedMet enc Tryd.prog Tryd.f3 (OpenSpec.ofChange Rows.fnExactWinsStripsSpec) false w args)
      (Rows.fnExactWinsStripsSpec.post enc Tryd.prog Tryd.f3 false true false false) := by
  refine returnsInHanded_of_change_and (C := Tryd.checked) (X := fun w _ => laidMetH Tryd.prog theLaid w) (fun _ _ _ hh h => h.of_heap hh) own started (by kernel_rfl) Tryd.func3
    (ChangeSpec.witness_shaped (enc := enc) (C := Tryd.checked) (os := os) (X := fun w _ => laidMetH Tryd.prog theLaid w) false (World.doorLaid Tryd.prog 400 os) #[.slice none 0 0, .int .i64 0, .bool false] 8 rfl (World.shaped_of_RefB (by kernel_rfl) (by kernel_rfl)) (by kernel_rfl) (by kernel_rfl) (by kernel_rfl) (door_met os _)) ?_
  intro W base args ds gs before hval0 hW _ _ hL _
  have hval : ∀ (j : Nat) t v, Tryd.f3.params[j]? = some t → args[j]? = some v → Value.okWide Tryd.prog W .any base t v := hval0
  have hW' := hW
  obtain ⟨p, q, hA0, hV, rfl, hfz, hnd⟩ := hW
  have hA : DataW.TrodAll enc Tryd.prog W 0 (fun _ => true) true Tryd.f3.params.toList args.toList ds p := hA0
  rw [Tryd.params3] at hA hval
  obtain ⟨v0, vs0, d0, ds0, p0, q0, hargs, rfl, rfl, h0, r0⟩ := trodAll_cons hA
  obtain ⟨v1, vs1, d1, ds1, p1, q1, rfl, rfl, rfl, h1, r1⟩ := trodAll_cons r0
  obtain ⟨v2, vs2, d2, ds2, p2, q2, rfl, rfl, rfl, h2, r2⟩ := trodAll_cons r1
  obtain ⟨rfl, rfl, rfl⟩ := trodAll_nil r2
  obtain rfl : args = #[v0, v1, v2] := by cases args; simp_all
  obtain ⟨g0, rfl⟩ : ∃ g0, gs = [g0] := by
    have hl := Go.Proofs.YthemmckchmpicabDoor.trodVars_len hV
    match gs, hl with
    | [b0], _ => exact ⟨b0, rfl⟩
  obtain ⟨A0, n0, c0, rfl⟩ := okWide_slice Tryd.underlying22 (hval 0 22 v0 rfl rfl)
  have k0 := h0
  have lt0 : ∀ x ∈ p0, x.block < W.heap.size := by obtain ⟨m, hm⟩ := k0; exact DataW.trod_lt m _ _ _ hm
  obtain ⟨xs0, rd0, sz0, hl0⟩ := open_intL Tryd.underlying22 Tryd.underlying3 (show Tryd.prog.cellsOf 3 = 1 by kernel_rfl) h0
  obtain ⟨a1, rfl, rfl, rfl, w1⟩ := open_int Tryd.underlying3 (hval 1 3 v1 rfl rfl) h1
  obtain ⟨a2, rfl, rfl, rfl⟩ := open_bool Tryd.underlying4 (hval 2 4 v2 rfl rfl) h2
  clear hA0 hval0
  obtain ⟨aL, hLE⟩ := laidE_of hL
  refine (walk A0 n0 c0 xs0 a1 a2 W rd0 sz0 hl0 w1 aL hLE).mono fun e W' ⟨he, bel⟩ => ?_
  subst he
  exact ⟨_, rfl, _, _, _, [], _, q, hW', trodAll_mk1 (shut_bool Tryd.underlying4 _), (trodAll_cons_mk (Below.trod laidOut (by kernel_rfl) (of_decide_eq_true (by kernel_rfl)) k0 bel lt0) (trodAll_cons_mk (shut_int Tryd.underlying3 w1) (trodAll_cons_mk (shut_bool Tryd.underlying4 _) trodAll_mk0))), Below.trodVars laidOut bel (by kernel_rfl) hV, bel.frame _, fun h => by cases h⟩

theorem said : Rows.FnExactWinsStripsSaid :=
  OpenClaim.holds_of_wide 3 Tryd.f3 rfl rfl rfl rfl rfl rfl rfl ⟨rfl, rfl, rfl, rfl, rfl⟩ rfl rfl rfl rfl rfl (by kernel_rfl) Tryd.func3 (by kernel_rfl)
    (of_decide_eq_true (by kernel_rfl)) (by unfold Func.isWrapper; first | (rw [if_pos (by decide +kernel)]; kernel_rfl) | (rw [if_neg (by decide +kernel)]; exact ⟨rfl, rfl⟩))
    (fun os started H enc _ => lifted os started H enc)

theorem proved : Rows.FnExactWinsStripsCardSaid :=
  Claim7.holds_tied_plain_at .later [] [.handle, .sentinel] true (true, "38842fd35e741de33539ab02ce5b83613bbb74f70c7f62d7570e038ad61d1b3a") true
    said (fun _ h => by cases h) (by kernel_rfl) (fun _ h => by cases h) fnExactWinsStrips_row_tie rfl ⟨rfl, rfl⟩ (by kernel_rfl) rfl
    (fun f fn hf hfn => by
      obtain rfl : f = 3 := Option.some.inj ((show Tryd.prog.funcNamed "loop.example/g01377/laws.FnExactWinsStrips" = some 3 by kernel_rfl).symm.trans hf) |>.symm
      obtain rfl : fn = Tryd.f3 := (Option.some.inj (Tryd.func3.symm.trans hfn)).symm
      exact ⟨by kernel_rfl, fun j t ht => by
        rw [Tryd.params3] at ht
        have hm : t ∈ [22, 3, 4] := by simpa using Array.mem_of_getElem? ht
        have hall : ([22, 3, 4].all fun u => !Tryd.prog.wantsStandIn u) = true := by kernel_rfl
        exact (show Tryd.prog.wantsStandIn t = false by simpa using List.all_eq_true.1 hall t hm)⟩)
    (by kernel_rfl)

#print axioms proved
end Go.Proofs.YthemmckchmpicabDoor.lawWinsStrips
