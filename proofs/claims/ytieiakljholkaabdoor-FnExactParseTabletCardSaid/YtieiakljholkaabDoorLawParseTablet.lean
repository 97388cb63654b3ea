/-
  Proved: for every text the law's calls of ParseTablet answer as the model does, in memory of their own, and leave the arguments alone. Conditions: none.
-/
import Derived.Test.YtieiakljholkaabDoorParseT
import Derived.Test.YtieiakljholkaabDoorMark
import Derived.Test.YtieiakljholkaabDoorSKit
import Derived.Lay
import Derived.OpenVars
import Derived.ChangeMaps5
import Derived.ProofKit
import Derived.OpenShut
import Derived.Lib.SmallJoins
import Derived.LaidMore
import Derived.Stop.Joined
import Derived.SevenTiedAt
import Derived.Test.YtieiakljholkaabDoorCards
import Derived.Test.YtieiakljholkaabDoorTie
namespace Go.Proofs.YtieiakljholkaabDoor.lawParseTablet
open Go.ChangeShapes Go.WideShapes Go.ChangeAt Go.RowKit Go.Joins Go.Deep
set_option linter.unusedVariables false

set_option maxRecDepth 100000 in
set_option maxHeartbeats 4000000 in
theorem walk (s_aS : ByteArray) (w : World) (hs_aS : s_aS.size ≤ maxLen) (a0 : Addr) (hL : LaidM w a0) :
    Calls Tryd.prog 10 #[.string s_aS] w fun e w' => e = .returned (.bool true) ∧ Below w.heap.size w w' := by
  have hng := hL.2.2
  go_enter Tryd.func10, Tryd.ntmps10
  have bw0 : Below w.heap.size w w := Below.refl _ _
  by_cases hlen : s_aS.size ≤ 1048576
  case neg =>
    go_wp2
    go_ret
    exact ⟨rfl, bw0⟩
  go_wp2_with fail
  refine (sParseTablet_any _ _ hlen ).mono ?_; rintro e w1 ⟨A_w0, n_w0, c_w0, rfl, o_w0_1, hb1⟩; have s1 := hb1.size; (try simp at s1)
  have bw1 : Below w.heap.size w w1 := bcall bw0.size hb1 bw0
  have q1 := bw1.size
  have bc_w0_1 : Below w1.heap.size w1 w1 := Below.refl _ _; have oc_w0 := Lib.hid o_w0_1
  have lt_w0 := Lib.hid (fun g (h : (Value.slice A_w0 n_w0 c_w0).ownBlock = some g) => o_w0_1.lt g h)
  have ln_w0 : n_w0 ≤ 100000000 := by have h := o_w0_1.1; rw [length_strCells] at h; have := length_ptR s_aS; omega
  go_wp2_with fail
  refine (parseTablet_any _ _ hlen  a0 (LaidM.later hL bw1 hng (by omega))).mono ?_; rintro e w2 ⟨A_g0, n_g0, c_g0, rfl, o_g0_2, hb2⟩; have s2 := hb2.size
  have bw2 : Below w.heap.size w w2 := bcall bw1.size hb2 bw1
  have q2 := bw2.size
  have o_w0_2 := own_later o_w0_1 hb2 (Nat.le_refl _)
  have bc_w0_2 : Below w1.heap.size w1 w2 := bc_w0_1.trans (hb2.mono (by omega))
  have lt_g0 := Lib.hid (fun g (h : (Value.slice A_g0 n_g0 c_g0).ownBlock = some g) => o_g0_2.lt g h)
  have ln_g0 : n_g0 ≤ 100000000 := by have h := o_g0_2.1; rw [length_strCells] at h; have := length_ptR s_aS; omega
  go_wp2_with fail
  refine (eqStringS_same _ _ _ _ _ _ _ _ (Rd.of_own o_g0_2) (Rd.of_own o_w0_2) (by omega) (by omega)).mono ?_; rintro e w3 ⟨rfl, hb3⟩; have s3 := hb3.size
  have bw3 : Below w.heap.size w w3 := bcall bw2.size hb3 bw2
  have q3 := bw3.size
  have o_w0_3 := own_later o_w0_2 hb3 (Nat.le_refl _)
  have o_g0_3 := own_later o_g0_2 hb3 (Nat.le_refl _)
  have bc_w0_3 : Below w1.heap.size w1 w3 := bc_w0_2.trans (hb3.mono (by omega))
  go_wp2_with fail
  refine (markStringS_any _ _ _ _ _ _ _ o_g0_3 (by omega) (by omega) (by omega)).mono ?_; rintro e w4 ⟨rfl, o_g0_4, hb4, hg4⟩; have s4 := hb4.size
  have m4 : w3.heap.size ≤ w4.heap.size := hg4.size
  have bw4 : Below w.heap.size w w4 := bw3.trans (hb4.mono (by omega))
  have q4 := bw4.size
  have bc_w0_4 : Below w1.heap.size w1 w4 := bc_w0_3.trans (hb4.mono (by omega))
  have o_w0_4 := o_w0_3.kept hg4 (own_apart (by exact lt_w0.out) (by exact lt_g0.out) (by omega))
  go_wp2_with fail
  refine (heldStringS_any _ _ _ _ _ (Rd.of_own o_g0_4) (by omega) (by omega) (by omega)).mono ?_; rintro e w5 ⟨rfl, hb5⟩; have s5 := hb5.size
  have bw5 : Below w.heap.size w w5 := bcall bw4.size hb5 bw4
  have q5 := bw5.size
  have o_w0_5 := own_later o_w0_4 hb5 (Nat.le_refl _)
  have o_g0_5 := own_later o_g0_4 hb5 (Nat.le_refl _)
  have bc_w0_5 : Below w1.heap.size w1 w5 := bc_w0_4.trans (hb5.mono (by omega))
  go_wp2_with fail
  refine (parseTablet_any _ _ hlen  a0 (LaidM.later hL bw5 hng (by omega))).mono ?_; rintro e w6 ⟨A_h0, n_h0, c_h0, rfl, o_h0_6, hb6⟩; have s6 := hb6.size
  have bw6 : Below w.heap.size w w6 := bcall bw5.size hb6 bw5
  have q6 := bw6.size
  have o_w0_6 := own_later o_w0_5 hb6 (Nat.le_refl _)
  have o_g0_6 := own_later o_g0_5 hb6 (Nat.le_refl _)
  have bc_w0_6 : Below w1.heap.size w1 w6 := bc_w0_5.trans (hb6.mono (by omega))
  have lt_h0 := Lib.hid (fun g (h : (Value.slice A_h0 n_h0 c_h0).ownBlock = some g) => o_h0_6.lt g h)
  have ln_h0 : n_h0 ≤ 100000000 := by have h := o_h0_6.1; rw [length_strCells] at h; have := length_ptR s_aS; omega
  go_wp2_with fail
  refine (eqStringS_same _ _ _ _ _ _ _ _ (Rd.of_own o_h0_6) (Rd.of_own o_w0_6) (by omega) (by omega)).mono ?_; rintro e w7 ⟨rfl, hb7⟩; have s7 := hb7.size
  have bw7 : Below w.heap.size w w7 := bcall bw6.size hb7 bw6
  have q7 := bw7.size
  have o_w0_7 := own_later o_w0_6 hb7 (Nat.le_refl _)
  have o_g0_7 := own_later o_g0_6 hb7 (Nat.le_refl _)
  have o_h0_7 := own_later o_h0_6 hb7 (Nat.le_refl _)
  have bc_w0_7 : Below w1.heap.size w1 w7 := bc_w0_6.trans (hb7.mono (by omega))
  go_wp2_with fail
  refine (heldStringS_any _ _ _ _ _ (Rd.of_own o_g0_7) (by omega) (by omega) (by omega)).mono ?_; rintro e w8 ⟨rfl, hb8⟩; have s8 := hb8.size
  have bw8 : Below w.heap.size w w8 := bcall bw7.size hb8 bw7
  have q8 := bw8.size
  have o_w0_8 := own_later o_w0_7 hb8 (Nat.le_refl _)
  have o_g0_8 := own_later o_g0_7 hb8 (Nat.le_refl _)
  have o_h0_8 := own_later o_h0_7 hb8 (Nat.le_refl _)
  have bc_w0_8 : Below w1.heap.size w1 w8 := bc_w0_7.trans (hb8.mono (by omega))
  go_wp2
  go_ret
  exact ⟨rfl, bw8⟩

theorem own : ownKnob Tryd.prog.godebug = none := by kernel_rfl
theorem laidOut : laidOutB Tryd.prog = true := by kernel_rfl
def theLaid : List (String × DataW Unit) := [("unicode/utf8.acceptRanges", Rows.laid_unicode_utf8_acceptRanges), ("unicode/utf8.first", Rows.laid_unicode_utf8_first)]
theorem door_met (os : Os) (args : Array Value) : laidMetH Tryd.prog theLaid ((World.laidAll Tryd.prog os theLaid).forCall (fun _ _ => 0) ⟨#[], args, []⟩).memory :=
  laidMet_laidAll _ (by kernel_rfl) (by kernel_rfl)

set_option maxRecDepth 100000 in
theorem lifted (os : Os) (started : os.Started) (H : Type) (enc : TypeId × Value → H) :
    ReturnsInHanded {} Tryd.checked os 10 .any (fun w args => (Rows.fnExactParseTabletSpec.pre enc Tryd.prog Tryd.f10 [] false w args ∧ laidMetH Tryd.prog theLaid w) ∧ sizedMet enc Tryd.prog Tryd.f10 (OpenSpec.ofChange Rows.fnExactParseTabletSpec) false w args)
      (Rows.fnExactParseTabletSpec.post enc Tryd.prog Tryd.f10 false true false false) := by
  refine returns_andS (C := Tryd.checked) (X := fun w _ => laidMetH Tryd.prog theLaid w) (fun _ _ _ hh h => h.of_heap hh) own started (by kernel_rfl) Tryd.func10
    (ChangeSpec.witness_shaped (enc := enc) (C := Tryd.checked) (os := os) (X := fun w _ => laidMetH Tryd.prog theLaid w) false (World.laidAll Tryd.prog os theLaid) #[.string ByteArray.empty] 8 (World.laidAll_os _ _ _) (World.shaped_of_ZipB (by kernel_rfl) (by kernel_rfl)) (by kernel_rfl) (by kernel_rfl) (by kernel_rfl) (door_met os _)) ?_
  intro W base args ds gs before hval0 hW hL hSH
  have hval : ∀ (j : Nat) t v, Tryd.f10.params[j]? = some t → args[j]? = some v → Value.okWide Tryd.prog W .any base t v := hval0
  have hW' := hW
  obtain ⟨p, q, hA0, hV, rfl, hfz, hnd⟩ := hW
  have hA : DataW.TrodAll enc Tryd.prog W 0 (fun _ => true) true Tryd.f10.params.toList args.toList ds p := hA0
  rw [Tryd.params10] at hA hval
  obtain ⟨v0, vs0, d0, ds0, p0, q0, hargs, rfl, rfl, h0, r0⟩ := trodAll_cons hA
  obtain ⟨rfl, rfl, rfl⟩ := trodAll_nil r0
  obtain rfl : args = #[v0] := by cases args; simp_all
  obtain ⟨rfl, rfl⟩ := trodVars_none hV
  obtain ⟨a0, rfl, rfl, rfl, w0⟩ := Go.ChangeMaps.open_string Tryd.underlying9 (hval 0 9 v0 rfl rfl) h0
  clear hA0 hval0
  obtain ⟨aL, hLE⟩ := laidM_of hL hSH
  refine (walk a0 W w0 aL hLE).mono fun e W' ⟨he, bel⟩ => ?_
  subst he
  exact ⟨_, rfl, _, _, _, [], _, [], hW', trodAll_mk1 (shut_bool Tryd.underlying4 _), (trodAll_cons_mk (Go.ChangeMaps.shut_string Tryd.underlying9 w0) trodAll_mk0), rfl, bel.frame _, fun h => by cases h⟩

theorem said : Rows.FnExactParseTabletSaid :=
  OpenClaim.holds_of_wide 10 Tryd.f10 rfl rfl rfl rfl rfl rfl rfl ⟨rfl, rfl, rfl, rfl, rfl⟩ rfl rfl rfl rfl rfl (by kernel_rfl) Tryd.func10 (by kernel_rfl)
    (of_decide_eq_true (by kernel_rfl)) (by unfold Func.isWrapper; first | (rw [if_pos (by decide +kernel)]; kernel_rfl) | (rw [if_neg (by decide +kernel)]; exact ⟨rfl, rfl⟩))
    (fun os started H enc _ => lifted os started H enc)

theorem proved : Rows.FnExactParseTabletCardSaid :=
  Claim7.holds_tied_plain_at .later [] [.data, .pinned] true (true, "c4c853088a19ec7667d67a9d337deb240c6a750b8d6f02c9b7995d975dd8a60f") false
    said (fun _ h => by cases h) (by kernel_rfl) (fun _ h => by cases h) fnExactParseTablet_row_tie rfl ⟨rfl, rfl⟩ (by kernel_rfl) rfl
    (fun f fn hf hfn => by
      obtain rfl : f = 10 := Option.some.inj ((show Tryd.prog.funcNamed "loop.example/g01377/laws.FnExactParseTablet" = some 10 by kernel_rfl).symm.trans hf) |>.symm
      obtain rfl : fn = Tryd.f10 := (Option.some.inj (Tryd.func10.symm.trans hfn)).symm
      exact ⟨by kernel_rfl, fun j t ht => by
        rw [Tryd.params10] at ht
        have hm : t ∈ [9] := by simpa using Array.mem_of_getElem? ht
        have hall : ([9].all fun u => !Tryd.prog.wantsStandIn u) = true := by kernel_rfl
        exact (show Tryd.prog.wantsStandIn t = false by simpa using List.all_eq_true.1 hall t hm)⟩)
    (by kernel_rfl)

#print axioms proved
end Go.Proofs.YtieiakljholkaabDoor.lawParseTablet
