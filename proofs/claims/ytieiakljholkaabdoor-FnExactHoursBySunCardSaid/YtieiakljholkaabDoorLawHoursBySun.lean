/-
  Proved: for every list of texts and text the law's calls of HoursBySun answer as the model does and leave the arguments alone. Conditions: none.
-/
import Derived.Test.YtieiakljholkaabDoorSunC
import Derived.Test.YtieiakljholkaabDoorSKit
import Derived.Lay
import Derived.OpenVars
import Derived.ChangeMaps5
import Derived.ProofKit
import Derived.OpenShut
import Derived.Lib.SmallJoins
import Derived.LaidMore
import Derived.Stop.Joined
import Derived.SevenTiedAt
import Derived.Test.YtieiakljholkaabDoorCards
import Derived.Test.YtieiakljholkaabDoorTie
namespace Go.Proofs.YtieiakljholkaabDoor.lawHoursBySun
open Go.ChangeShapes Go.WideShapes Go.ChangeAt Go.RowKit Go.Joins Go.Deep
set_option linter.unusedVariables false

set_option maxRecDepth 100000 in
set_option maxHeartbeats 4000000 in
theorem walk (A_aRows : Option Addr) (n_aRows c_aRows : Nat) (l_aRows : List ByteArray) (s_aSide : ByteArray) (w : World) (rd_aRows : Rd w 1 A_aRows n_aRows (strCells l_aRows)) (hs_aRows : ∀ s ∈ l_aRows, s.size ≤ 9223372036854775807) (hn_aRows : n_aRows ≤ 9223372036854775807) (hs_aSide : s_aSide.size ≤ maxLen) :
    Calls Tryd.prog 5 #[.slice A_aRows n_aRows c_aRows, .string s_aSide] w fun e w' => e = .returned (.bool true) ∧ Below w.heap.size w w' := by
  have HS_aRows := Lib.hid hs_aRows; clear hs_aRows
  go_enter Tryd.func5, Tryd.ntmps5
  have bw0 : Below w.heap.size w w := Below.refl _ _
  by_cases hlen : s_aSide.size ≤ 1048576
  case neg =>
    go_wp2
    go_ret
    exact ⟨rfl, bw0⟩
  go_wp2_with fail
  refine (szStringS_any _ _ _ _ l_aRows _ rd_aRows HS_aRows.out hn_aRows (by omega) (by omega)).mono ?_; rintro e wx ⟨⟨v1, rfl, hv1⟩, rfl⟩
  have ht1 := totS_nonneg l_aRows
  rcases hv1 with rfl | ⟨va1, vb1⟩
  · go_wp2
    go_ret
    exact ⟨rfl, bw0⟩
  have hn2_aRows : n_aRows ≤ 1048576 := by omega
  have vc1 : v1 ≤ 1048576 := by omega
  clear vb1
  go_wp2_with fail
  refine (toStringS_any _ _ _ l_aRows _ (rd_aRows.later bw0 (Nat.le_refl _)) hn2_aRows).mono ?_; rintro e w1 ⟨g_sp0, rfl, o_sp0_1, hb1⟩; have s1 := hb1.size; (try simp at s1)
  have bw1 : Below w.heap.size w w1 := bcall bw0.size hb1 bw0
  have q1 := bw1.size
  have lt_sp0 := Lib.hid (fun g (h : (Value.slice (some ⟨g_sp0, 0, none⟩) n_aRows n_aRows).ownBlock = some g) => o_sp0_1.lt g h)
  go_wp2_with fail
  refine (sHoursBySun_any _ _ _ l_aRows _ _ (Rd.of_own o_sp0_1) hs_aSide HS_aRows.out).mono ?_; rintro e w2 ⟨rfl, hb2⟩; have s2 := hb2.size
  have bw2 : Below w.heap.size w w2 := bcall bw1.size hb2 bw1
  have q2 := bw2.size
  have o_sp0_2 := own_later o_sp0_1 hb2 (Nat.le_refl _)
  go_wp2_with fail
  refine (toStringS_any _ _ _ l_aRows _ (rd_aRows.later bw2 (Nat.le_refl _)) hn2_aRows).mono ?_; rintro e w3 ⟨g_x0, rfl, o_x0_3, hb3⟩; have s3 := hb3.size
  have bw3 : Below w.heap.size w w3 := bcall bw2.size hb3 bw2
  have q3 := bw3.size
  have o_sp0_3 := own_later o_sp0_2 hb3 (Nat.le_refl _)
  have lt_x0 := Lib.hid (fun g (h : (Value.slice (some ⟨g_x0, 0, none⟩) n_aRows n_aRows).ownBlock = some g) => o_x0_3.lt g h)
  go_wp2_with fail
  refine (hoursBySun_any _ _ _ l_aRows _ _ (Rd.of_own o_x0_3) hs_aSide HS_aRows.out).mono ?_; rintro e w4 ⟨rfl, hb4⟩; have s4 := hb4.size
  have bw4 : Below w.heap.size w w4 := bcall bw3.size hb4 bw3
  have q4 := bw4.size
  have o_sp0_4 := own_later o_sp0_3 hb4 (Nat.le_refl _)
  have o_x0_4 := own_later o_x0_3 hb4 (Nat.le_refl _)
  go_wp2_with fail
  refine (toStringS_any _ _ _ l_aRows _ (rd_aRows.later bw4 (Nat.le_refl _)) hn2_aRows).mono ?_; rintro e w5 ⟨g_cy4, rfl, o_cy4_5, hb5⟩; have s5 := hb5.size
  have bw5 : Below w.heap.size w w5 := bcall bw4.size hb5 bw4
  have q5 := bw5.size
  have o_sp0_5 := own_later o_sp0_4 hb5 (Nat.le_refl _)
  have o_x0_5 := own_later o_x0_4 hb5 (Nat.le_refl _)
  have lt_cy4 := Lib.hid (fun g (h : (Value.slice (some ⟨g_cy4, 0, none⟩) n_aRows n_aRows).ownBlock = some g) => o_cy4_5.lt g h)
  go_wp2_with fail
  refine (eqStringS_same _ _ _ _ _ _ _ _ (Rd.of_own o_x0_5) (Rd.of_own o_cy4_5) (by omega) (by omega)).mono ?_; rintro e w6 ⟨rfl, hb6⟩; have s6 := hb6.size
  have bw6 : Below w.heap.size w w6 := bcall bw5.size hb6 bw5
  have q6 := bw6.size
  have o_sp0_6 := own_later o_sp0_5 hb6 (Nat.le_refl _)
  have o_x0_6 := own_later o_x0_5 hb6 (Nat.le_refl _)
  have o_cy4_6 := own_later o_cy4_5 hb6 (Nat.le_refl _)
  go_wp2
  go_ret
  exact ⟨rfl, bw6⟩

theorem own : ownKnob Tryd.prog.godebug = none := by kernel_rfl
theorem laidOut : laidOutB Tryd.prog = true := by kernel_rfl
def theLaid : List (String × DataW Unit) := [("unicode/utf8.acceptRanges", Rows.laid_unicode_utf8_acceptRanges), ("unicode/utf8.first", Rows.laid_unicode_utf8_first)]
theorem door_met (os : Os) (args : Array Value) : laidMetH Tryd.prog theLaid ((World.laidAll Tryd.prog os theLaid).forCall (fun _ _ => 0) ⟨#[], args, []⟩).memory :=
  laidMet_laidAll _ (by kernel_rfl) (by kernel_rfl)

set_option maxRecDepth 100000 in
theorem lifted (os : Os) (started : os.Started) (H : Type) (enc : TypeId × Value → H) :
    ReturnsInHanded {} Tryd.checked os 5 .any (fun w args => (Rows.fnExactHoursBySunSpec.pre enc Tryd.prog Tryd.f5 [] false w args ∧ laidMetH Tryd.prog theLaid w) ∧ sizedMet enc Tryd.prog Tryd.f5 (OpenSpec.ofChange Rows.fnExactHoursBySunSpec) false w args)
      (Rows.fnExactHoursBySunSpec.post enc Tryd.prog Tryd.f5 false true false false) := by
  refine returnsInHanded_of_change_and (C := Tryd.checked) (X := fun w _ => laidMetH Tryd.prog theLaid w) (fun _ _ _ hh h => h.of_heap hh) own started (by kernel_rfl) Tryd.func5
    (ChangeSpec.witness_shaped (enc := enc) (C := Tryd.checked) (os := os) (X := fun w _ => laidMetH Tryd.prog theLaid w) false (World.laidAll Tryd.prog os theLaid) #[.slice none 0 0, .string ByteArray.empty] 8 (World.laidAll_os _ _ _) (World.shaped_of_ZipB (by kernel_rfl) (by kernel_rfl)) (by kernel_rfl) (by kernel_rfl) (by kernel_rfl) (door_met os _)) ?_
  intro W base args ds gs before hval0 hW _ _ hL _
  have hval : ∀ (j : Nat) t v, Tryd.f5.params[j]? = some t → args[j]? = some v → Value.okWide Tryd.prog W .any base t v := hval0
  have hW' := hW
  obtain ⟨p, q, hA0, hV, rfl, hfz, hnd⟩ := hW
  have hA : DataW.TrodAll enc Tryd.prog W 0 (fun _ => true) true Tryd.f5.params.toList args.toList ds p := hA0
  rw [Tryd.params5] at hA hval
  obtain ⟨v0, vs0, d0, ds0, p0, q0, hargs, rfl, rfl, h0, r0⟩ := trodAll_cons hA
  obtain ⟨v1, vs1, d1, ds1, p1, q1, rfl, rfl, rfl, h1, r1⟩ := trodAll_cons r0
  obtain ⟨rfl, rfl, rfl⟩ := trodAll_nil r1
  obtain rfl : args = #[v0, v1] := by cases args; simp_all
  obtain ⟨rfl, rfl⟩ := trodVars_none hV
  obtain ⟨A0, n0, c0, rfl⟩ := okWide_slice Tryd.underlying22 (hval 0 22 v0 rfl rfl)
  have k0 := h0
  have lt0 : ∀ x ∈ p0, x.block < W.heap.size := by obtain ⟨m, hm⟩ := k0; exact DataW.trod_lt m _ _ _ hm
  obtain ⟨xs0, rd0, sz0, hl0⟩ := open_strL Tryd.underlying22 Tryd.underlying9 (show Tryd.prog.cellsOf 9 = 1 by kernel_rfl) h0
  obtain ⟨a1, rfl, rfl, rfl, w1⟩ := Go.ChangeMaps.open_string Tryd.underlying9 (hval 1 9 v1 rfl rfl) h1
  clear hA0 hval0
  skip
  refine (walk A0 n0 c0 xs0 a1 W rd0 sz0 hl0 w1).mono fun e W' ⟨he, bel⟩ => ?_
  subst he
  exact ⟨_, rfl, _, _, _, [], _, [], hW', trodAll_mk1 (shut_bool Tryd.underlying4 _), (trodAll_cons_mk (Below.trod laidOut (by kernel_rfl) (of_decide_eq_true (by kernel_rfl)) k0 bel lt0) (trodAll_cons_mk (Go.ChangeMaps.shut_string Tryd.underlying9 w1) trodAll_mk0)), rfl, bel.frame _, fun h => by cases h⟩

theorem said : Rows.FnExactHoursBySunSaid :=
  OpenClaim.holds_of_wide 5 Tryd.f5 rfl rfl rfl rfl rfl rfl rfl ⟨rfl, rfl, rfl, rfl, rfl⟩ rfl rfl rfl rfl rfl (by kernel_rfl) Tryd.func5 (by kernel_rfl)
    (of_decide_eq_true (by kernel_rfl)) (by unfold Func.isWrapper; first | (rw [if_pos (by decide +kernel)]; kernel_rfl) | (rw [if_neg (by decide +kernel)]; exact ⟨rfl, rfl⟩))
    (fun os started H enc _ => lifted os started H enc)

theorem proved : Rows.FnExactHoursBySunCardSaid :=
  Claim7.holds_tied_plain_at .later [] [.data, .pinned] true (true, "c4c853088a19ec7667d67a9d337deb240c6a750b8d6f02c9b7995d975dd8a60f") false
    said (fun _ h => by cases h) (by kernel_rfl) (fun _ h => by cases h) fnExactHoursBySun_row_tie rfl ⟨rfl, rfl⟩ (by kernel_rfl) rfl
    (fun f fn hf hfn => by
      obtain rfl : f = 5 := Option.some.inj ((show Tryd.prog.funcNamed "loop.example/g01377/laws.FnExactHoursBySun" = some 5 by kernel_rfl).symm.trans hf) |>.symm
      obtain rfl : fn = Tryd.f5 := (Option.some.inj (Tryd.func5.symm.trans hfn)).symm
      exact ⟨by kernel_rfl, fun j t ht => by
        rw [Tryd.params5] at ht
        have hm : t ∈ [22, 9] := by simpa using Array.mem_of_getElem? ht
        have hall : ([22, 9].all fun u => !Tryd.prog.wantsStandIn u) = true := by kernel_rfl
        exact (show Tryd.prog.wantsStandIn t = false by simpa using List.all_eq_true.1 hall t hm)⟩)
    (by kernel_rfl)

#print axioms proved
end Go.Proofs.YtieiakljholkaabDoor.lawHoursBySun
