/-
  Proved: for every list of slabs the law's calls of SlabsText answer as the model does and leave the arguments alone. Conditions: none.
-/
import Derived.Test.YtghlgmbekgfmnabDoorLaidT
import Derived.Lay
import Derived.OpenVars
import Derived.ProofKit
import Derived.OpenShut
import Derived.Lib.SmallJoins
import Derived.LaidMore
import Derived.Stop.Joined
import Derived.SevenTiedAt
import Derived.Test.YtghlgmbekgfmnabDoorCards
import Derived.Test.YtghlgmbekgfmnabDoorTie
namespace Go.Proofs.YtghlgmbekgfmnabDoor.lawSlabsText
open Go.ChangeShapes Go.WideShapes Go.ChangeAt Go.RowKit Go.Joins Go.Deep
set_option linter.unusedVariables false

set_option maxRecDepth 100000 in
set_option maxHeartbeats 4000000 in
theorem walk (A_aSlabs : Option Addr) (n_aSlabs c_aSlabs : Nat) (l_aSlabs : List (Int × Int)) (w : World) (rd_aSlabs : Rd w 2 A_aSlabs n_aSlabs (pairCells l_aSlabs)) (hn_aSlabs : n_aSlabs ≤ maxLen) (a0 : Addr) (hL : LaidT w a0) :
    Calls Tryd.prog 3 #[.slice A_aSlabs n_aSlabs c_aSlabs] w fun e w' => e = .returned (.bool true) ∧ Below w.heap.size w w' := by
  have hng := hL.2.2
  go_enter Tryd.func3, Tryd.ntmps3
  have bw0 : Below w.heap.size w w := Below.refl _ _
  by_cases hn2_aSlabs : n_aSlabs ≤ 1048576
  case neg =>
    go_wp2_with fail
    refine (szSlabS_no _ _ _ _ hn_aSlabs hn2_aSlabs).mono ?_; rintro e wx ⟨rfl, rfl⟩
    go_wp2
    go_ret
    exact ⟨rfl, bw0⟩
  go_wp2_with fail
  refine (szSlabS_yes _ _ _ _ hn2_aSlabs).mono ?_; rintro e wx ⟨rfl, rfl⟩
  go_wp2_with fail
  refine (toSlabS_any _ _ _ l_aSlabs _ (rd_aSlabs.later bw0 (Nat.le_refl _)) hn2_aSlabs).mono ?_; rintro e w1 ⟨g_sp0, rfl, o_sp0_1, hb1⟩; have s1 := hb1.size; (try simp at s1)
  have bw1 : Below w.heap.size w w1 := bcall bw0.size hb1 bw0
  have q1 := bw1.size
  have lt_sp0 := Lib.hid (fun g (h : (Value.slice (some ⟨g_sp0, 0, none⟩) n_aSlabs n_aSlabs).ownBlock = some g) => o_sp0_1.lt g h)
  go_wp2_with fail
  refine (sSlabsText_any _ _ _ l_aSlabs _ (Rd.of_own o_sp0_1) (by omega)).mono ?_; rintro e w2 ⟨rfl, hb2⟩; have s2 := hb2.size
  have bw2 : Below w.heap.size w w2 := bcall bw1.size hb2 bw1
  have q2 := bw2.size
  have o_sp0_2 := own_later o_sp0_1 hb2 (Nat.le_refl _)
  go_wp2_with fail
  refine (toSlabS_any _ _ _ l_aSlabs _ (rd_aSlabs.later bw2 (Nat.le_refl _)) hn2_aSlabs).mono ?_; rintro e w3 ⟨g_x0, rfl, o_x0_3, hb3⟩; have s3 := hb3.size
  have bw3 : Below w.heap.size w w3 := bcall bw2.size hb3 bw2
  have q3 := bw3.size
  have o_sp0_3 := own_later o_sp0_2 hb3 (Nat.le_refl _)
  have lt_x0 := Lib.hid (fun g (h : (Value.slice (some ⟨g_x0, 0, none⟩) n_aSlabs n_aSlabs).ownBlock = some g) => o_x0_3.lt g h)
  go_wp2_with fail
  refine (slabsTextF_any _ _ _ l_aSlabs _ (Rd.of_own o_x0_3) (by omega) a0 (LaidT.later hL bw3 hng (by omega))).mono ?_; rintro e w4 ⟨rfl, hb4⟩; have s4 := hb4.size
  have bw4 : Below w.heap.size w w4 := bcall bw3.size hb4 bw3
  have q4 := bw4.size
  have o_sp0_4 := own_later o_sp0_3 hb4 (Nat.le_refl _)
  have o_x0_4 := own_later o_x0_3 hb4 (Nat.le_refl _)
  go_wp2_with fail
  refine (toSlabS_any _ _ _ l_aSlabs _ (rd_aSlabs.later bw4 (Nat.le_refl _)) hn2_aSlabs).mono ?_; rintro e w5 ⟨g_cy4, rfl, o_cy4_5, hb5⟩; have s5 := hb5.size
  have bw5 : Below w.heap.size w w5 := bcall bw4.size hb5 bw4
  have q5 := bw5.size
  have o_sp0_5 := own_later o_sp0_4 hb5 (Nat.le_refl _)
  have o_x0_5 := own_later o_x0_4 hb5 (Nat.le_refl _)
  have lt_cy4 := Lib.hid (fun g (h : (Value.slice (some ⟨g_cy4, 0, none⟩) n_aSlabs n_aSlabs).ownBlock = some g) => o_cy4_5.lt g h)
  go_wp2_with fail
  refine (eqSlabS_same _ _ _ _ _ _ _ _ (Rd.of_own o_x0_5) (Rd.of_own o_cy4_5) (by omega) (by omega)).mono ?_; rintro e w6 ⟨rfl, hb6⟩; have s6 := hb6.size
  have bw6 : Below w.heap.size w w6 := bcall bw5.size hb6 bw5
  have q6 := bw6.size
  have o_sp0_6 := own_later o_sp0_5 hb6 (Nat.le_refl _)
  have o_x0_6 := own_later o_x0_5 hb6 (Nat.le_refl _)
  have o_cy4_6 := own_later o_cy4_5 hb6 (Nat.le_refl _)
  go_wp2
  go_ret
  exact ⟨rfl, bw6⟩

theorem own : ownKnob Tryd.prog.godebug = none := by kernel_rfl
theorem laidOut : laidOutB Tryd.prog = true := by kernel_rfl
def theLaid : List (String × DataW Unit) := [("math/bits.deBruijn32tab", Rows.laid_math_bits_deBruijn32tab), ("math/bits.deBruijn64tab", Rows.laid_math_bits_deBruijn64tab), ("internal/strconv.uint64pow10", Rows.laid_internal_strconv_uint64pow10)]
theorem door_met (os : Os) (args : Array Value) : laidMetH Tryd.prog theLaid ((World.doorLaid Tryd.prog 400 os).forCall (fun _ _ => 0) ⟨#[], args, []⟩).memory :=
  laidMetH_of_parts3 (fuel := 8) (laidMet_of_run' 8 (by kernel_rfl) (by kernel_rfl)) (by kernel_rfl) (by kernel_rfl)

set_option maxRecDepth 100000 in
theorem lifted (os : Os) (started : os.Started) (H : Type) (enc : TypeId × Value → H) :
    ReturnsInHanded {} Tryd.checked os 3 .any (fun w args => (Rows.fnExactSlabsTextSpec.pre enc Tryd.prog Tryd.f3 [] false w args ∧ laidMetH Tryd.prog theLaid w) ∧ sizedMet enc Tryd.prog Tryd.f3 (OpenSpec.ofChange Rows.fnExactSlabsTextSpec) false w args)
      (Rows.fnExactSlabsTextSpec.post enc Tryd.prog Tryd.f3 false true false false) := by
  refine returnsInHanded_of_change_and (C := Tryd.checked) (X := fun w _ => laidMetH Tryd.prog theLaid w) (fun _ _ _ hh h => h.of_heap hh) own started (by kernel_rfl) Tryd.func3
    (ChangeSpec.witness_shaped (enc := enc) (C := Tryd.checked) (os := os) (X := fun w _ => laidMetH Tryd.prog theLaid w) false (World.doorLaid Tryd.prog 400 os) #[.slice none 0 0] 8 rfl (World.shaped_of_RefB (by kernel_rfl) (by kernel_rfl)) (by kernel_rfl) (by kernel_rfl) (by kernel_rfl) (door_met os _)) ?_
  intro W base args ds gs before hval0 hW _ _ hL _
  have hval : ∀ (j : Nat) t v, Tryd.f3.params[j]? = some t → args[j]? = some v → Value.okWide Tryd.prog W .any base t v := hval0
  have hW' := hW
  obtain ⟨p, q, hA0, hV, rfl, hfz, hnd⟩ := hW
  have hA : DataW.TrodAll enc Tryd.prog W 0 (fun _ => true) true Tryd.f3.params.toList args.toList ds p := hA0
  rw [Tryd.params3] at hA hval
  obtain ⟨v0, vs0, d0, ds0, p0, q0, hargs, rfl, rfl, h0, r0⟩ := trodAll_cons hA
  obtain ⟨rfl, rfl, rfl⟩ := trodAll_nil r0
  obtain rfl : args = #[v0] := by cases args; simp_all
  obtain ⟨rfl, rfl⟩ := trodVars_none hV
  obtain ⟨A0, n0, c0, rfl⟩ := okWide_slice Tryd.underlying22 (hval 0 22 v0 rfl rfl)
  have k0 := h0
  have lt0 : ∀ x ∈ p0, x.block < W.heap.size := by obtain ⟨m, hm⟩ := k0; exact DataW.trod_lt m _ _ _ hm
  obtain ⟨xs0, rd0⟩ := open_pairs Tryd.underlying22 Tryd.underlying53 (show Tryd.prog.cellsOf 53 = 2 by kernel_rfl) rfl rfl rfl rfl Tryd.underlying3 (show Tryd.prog.cellsOf 3 = 1 by kernel_rfl) h0
  have hl0 : n0 ≤ maxLen := by
    obtain ⟨fuel, hf⟩ := h0
    rcases open_slice Tryd.underlying22 hf with ⟨hcs, _⟩ | ⟨_, _, _, _, _, _, _, hcs, _, q1, q2, _⟩
    · simp [Value.cells] at hcs
      obtain ⟨_, rfl, _⟩ := hcs
      exact Nat.zero_le _
    · simp [Value.cells] at hcs
      obtain ⟨_, rfl, rfl⟩ := hcs
      omega
  clear hA0 hval0
  obtain ⟨aL, hLE⟩ := laidT_of hL
  refine (walk A0 n0 c0 xs0 W rd0 hl0 aL hLE).mono fun e W' ⟨he, bel⟩ => ?_
  subst he
  exact ⟨_, rfl, _, _, _, [], _, [], hW', trodAll_mk1 (shut_bool Tryd.underlying4 _), (trodAll_cons_mk (Below.trod laidOut (by kernel_rfl) (of_decide_eq_true (by kernel_rfl)) k0 bel lt0) trodAll_mk0), rfl, bel.frame _, fun h => by cases h⟩

theorem said : Rows.FnExactSlabsTextSaid :=
  OpenClaim.holds_of_wide 3 Tryd.f3 rfl rfl rfl rfl rfl rfl rfl ⟨rfl, rfl, rfl, rfl, rfl⟩ rfl rfl rfl rfl rfl (by kernel_rfl) Tryd.func3 (by kernel_rfl)
    (of_decide_eq_true (by kernel_rfl)) (by unfold Func.isWrapper; first | (rw [if_pos (by decide +kernel)]; kernel_rfl) | (rw [if_neg (by decide +kernel)]; exact ⟨rfl, rfl⟩))
    (fun os started H enc _ => lifted os started H enc)

theorem proved : Rows.FnExactSlabsTextCardSaid :=
  Claim7.holds_tied_plain_at .later [] [.data, .data, .data] true (true, "18bfed379d81ee1d94ccdad4e33204b5a4454a34ac024094cae1383c0dc43425") true
    said (fun _ h => by cases h) (by kernel_rfl) (fun _ h => by cases h) fnExactSlabsText_row_tie rfl ⟨rfl, rfl⟩ (by kernel_rfl) rfl
    (fun f fn hf hfn => by
      obtain rfl : f = 3 := Option.some.inj ((show Tryd.prog.funcNamed "loop.example/g01377/laws.FnExactSlabsText" = some 3 by kernel_rfl).symm.trans hf) |>.symm
      obtain rfl : fn = Tryd.f3 := (Option.some.inj (Tryd.func3.symm.trans hfn)).symm
      exact ⟨by kernel_rfl, fun j t ht => by
        rw [Tryd.params3] at ht
        have hm : t ∈ [22] := by simpa using Array.mem_of_getElem? ht
        have hall : ([22].all fun u => !Tryd.prog.wantsStandIn u) = true := by kernel_rfl
        exact (show Tryd.prog.wantsStandIn t = false by simpa using List.all_eq_true.1 hall t hm)⟩)
    (by kernel_rfl)

#print axioms proved
end Go.Proofs.YtghlgmbekgfmnabDoor.lawSlabsText
