/-
  Proved: for every puzzle the law's calls of PuzzleText answer as the model does and leave the arguments alone. Conditions: none.
-/
import Derived.Test.YtghlgmbekgfmnabDoorPuI
import Derived.Test.YtghlgmbekgfmnabDoorPuzO
import Derived.Lay
import Derived.OpenVars
import Derived.ProofKit
import Derived.OpenShut
import Derived.Lib.SmallJoins
import Derived.LaidMore
import Derived.Stop.Joined
import Derived.SevenTiedAt
import Derived.Test.YtghlgmbekgfmnabDoorCards
import Derived.Test.YtghlgmbekgfmnabDoorTie
namespace Go.Proofs.YtghlgmbekgfmnabDoor.lawPuzzleText
open Go.ChangeShapes Go.WideShapes Go.ChangeAt Go.RowKit Go.Joins Go.Deep
set_option linter.unusedVariables false

set_option maxRecDepth 100000 in
set_option maxHeartbeats 4000000 in
theorem walk (A_aP : Option Addr) (n_aP c_aP : Nat) (l_aP : List (Int × Int × Int)) (w : World) (rd_aP : Rd w 3 A_aP n_aP (boxCells l_aP)) (hn_aP : n_aP ≤ maxLen) :
    Calls Tryd.prog 5 #[.agg #[.slice A_aP n_aP c_aP]] w fun e w' => e = .returned (.bool true) ∧ Below w.heap.size w w' := by
  go_enter Tryd.func5, Tryd.ntmps5
  have bw0 : Below w.heap.size w w := Below.refl _ _
  obtain ⟨w1, hw1⟩ : ∃ wm, wm = w.alloc (.cells #[.slice A_aP n_aP c_aP] 36) := ⟨_, rfl⟩
  have hb1 : Below w.heap.size w w1 := by rw [hw1]; exact (Below.refl _ _).alloc (Nat.le_refl _) _
  have cs0_0_1 : w1.cell? ⟨w.heap.size, 0, none⟩ = some (.slice A_aP n_aP c_aP) := by rw [hw1]; simp [go_sem]
  have s1 : w.heap.size + 1 ≤ w1.heap.size := by rw [hw1]; simp
  have HW1 := Lib.hid hw1; clear hw1
  have bw1 : Below w.heap.size w w1 := bcall bw0.size hb1 bw0
  have q1 := bw1.size
  have zs0_1 : w.heap.size < w1.heap.size := by omega
  have cx1_0_0 : (w.alloc (.cells #[.slice A_aP n_aP c_aP] 36)).cell? ⟨w.heap.size, 0, none⟩ = some (.slice A_aP n_aP c_aP) := by rw [← HW1.out]; exact cs0_0_1
  by_cases hn2_aP : n_aP ≤ 1048576
  case neg =>
    go_wp2_with fail
    rw [← HW1.out]
    refine (szPuzzle_no _ _ _ _ hn_aP hn2_aP).mono ?_; rintro e wx ⟨rfl, hbx⟩
    have hbz := bcall bw1.size hbx bw1
    go_wp2
    go_ret
    exact ⟨rfl, hbz⟩
  go_wp2_with fail
  rw [← HW1.out]
  refine (szPuzzle_yes _ _ _ _ hn2_aP).mono ?_; rintro e w2 ⟨rfl, hb2⟩; have s2 := hb2.size
  have bw2 : Below w.heap.size w w2 := bcall bw1.size hb2 bw1
  have q2 := bw2.size
  have cs0_0_2 := (hb2.cell (p := ⟨w.heap.size, 0, none⟩) (by show w.heap.size < w1.heap.size; omega)).trans cs0_0_1; clear cs0_0_1
  have zs0_2 : w.heap.size < w2.heap.size := by omega
  go_wp2_with fail
  refine (toPuzzle_any _ _ _ l_aP _ (rd_aP.later bw2 (Nat.le_refl _)) hn2_aP).mono ?_; rintro e w3 ⟨g_sp0, rfl, o_sp0_3, hb3⟩; have s3 := hb3.size
  have bw3 : Below w.heap.size w w3 := bcall bw2.size hb3 bw2
  have q3 := bw3.size
  have cs0_0_3 := (hb3.cell (p := ⟨w.heap.size, 0, none⟩) (by show w.heap.size < w2.heap.size; omega)).trans cs0_0_2; clear cs0_0_2
  have zs0_3 : w.heap.size < w3.heap.size := by omega
  have lt_sp0 := Lib.hid (fun g (h : (Value.slice (some ⟨g_sp0, 0, none⟩) n_aP n_aP).ownBlock = some g) => o_sp0_3.lt g h)
  go_wp2_with fail
  refine (sPuzzleText_any _ _ _ l_aP _ (Rd.of_own o_sp0_3) (by omega)).mono ?_; rintro e w4 ⟨rfl, hb4⟩; have s4 := hb4.size
  have bw4 : Below w.heap.size w w4 := bcall bw3.size hb4 bw3
  have q4 := bw4.size
  have o_sp0_4 := own_later o_sp0_3 hb4 (Nat.le_refl _)
  have cs0_0_4 := (hb4.cell (p := ⟨w.heap.size, 0, none⟩) (by show w.heap.size < w3.heap.size; omega)).trans cs0_0_3; clear cs0_0_3
  have zs0_4 : w.heap.size < w4.heap.size := by omega
  go_wp2_with fail
  refine (toPuzzle_any _ _ _ l_aP _ (rd_aP.later bw4 (Nat.le_refl _)) hn2_aP).mono ?_; rintro e w5 ⟨g_x0, rfl, o_x0_5, hb5⟩; have s5 := hb5.size
  have bw5 : Below w.heap.size w w5 := bcall bw4.size hb5 bw4
  have q5 := bw5.size
  have o_sp0_5 := own_later o_sp0_4 hb5 (Nat.le_refl _)
  have cs0_0_5 := (hb5.cell (p := ⟨w.heap.size, 0, none⟩) (by show w.heap.size < w4.heap.size; omega)).trans cs0_0_4; clear cs0_0_4
  have zs0_5 : w.heap.size < w5.heap.size := by omega
  have lt_x0 := Lib.hid (fun g (h : (Value.slice (some ⟨g_x0, 0, none⟩) n_aP n_aP).ownBlock = some g) => o_x0_5.lt g h)
  obtain ⟨w6, hw6⟩ : ∃ wm, wm = w5.alloc (.cells #[.slice (some ⟨g_x0, 0, none⟩) n_aP n_aP] 41) := ⟨_, rfl⟩
  have hb6 : Below w5.heap.size w5 w6 := by rw [hw6]; exact (Below.refl _ _).alloc (Nat.le_refl _) _
  have cs1_0_6 : w6.cell? ⟨w5.heap.size, 0, none⟩ = some (.slice (some ⟨g_x0, 0, none⟩) n_aP n_aP) := by rw [hw6]; simp [go_sem]
  have s6 : w5.heap.size + 1 ≤ w6.heap.size := by rw [hw6]; simp
  have HW6 := Lib.hid hw6; clear hw6
  have bw6 : Below w.heap.size w w6 := bcall bw5.size hb6 bw5
  have q6 := bw6.size
  have o_sp0_6 := own_later o_sp0_5 hb6 (Nat.le_refl _)
  have o_x0_6 := own_later o_x0_5 hb6 (Nat.le_refl _)
  have cs0_0_6 := (hb6.cell (p := ⟨w.heap.size, 0, none⟩) (by show w.heap.size < w5.heap.size; omega)).trans cs0_0_5; clear cs0_0_5
  have zs0_6 : w.heap.size < w6.heap.size := by omega
  have zs1_6 : w5.heap.size < w6.heap.size := by omega
  have cx6_0_0 : (w5.alloc (.cells #[.slice (some ⟨g_x0, 0, none⟩) n_aP n_aP] 41)).cell? ⟨w.heap.size, 0, none⟩ = some (.slice A_aP n_aP c_aP) := by rw [← HW6.out]; exact cs0_0_6
  have cx6_1_0 : (w5.alloc (.cells #[.slice (some ⟨g_x0, 0, none⟩) n_aP n_aP] 41)).cell? ⟨w5.heap.size, 0, none⟩ = some (.slice (some ⟨g_x0, 0, none⟩) n_aP n_aP) := by rw [← HW6.out]; exact cs1_0_6
  go_wp2_with fail
  rw [← HW6.out]
  refine (puzzleText_any _ _ _ l_aP _ (Rd.of_own o_x0_6) (by omega)).mono ?_; rintro e w7 ⟨rfl, hb7⟩; have s7 := hb7.size
  have bw7 : Below w.heap.size w w7 := bcall bw6.size hb7 bw6
  have q7 := bw7.size
  have o_sp0_7 := own_later o_sp0_6 hb7 (Nat.le_refl _)
  have o_x0_7 := own_later o_x0_6 hb7 (Nat.le_refl _)
  have cs0_0_7 := (hb7.cell (p := ⟨w.heap.size, 0, none⟩) (by show w.heap.size < w6.heap.size; omega)).trans cs0_0_6; clear cs0_0_6
  have zs0_7 : w.heap.size < w7.heap.size := by omega
  have cs1_0_7 := (hb7.cell (p := ⟨w5.heap.size, 0, none⟩) (by show w5.heap.size < w6.heap.size; omega)).trans cs1_0_6; clear cs1_0_6
  have zs1_7 : w5.heap.size < w7.heap.size := by omega
  go_wp2
  refine wp_region_held_drew (S := (fun w' => w'.cell? ⟨w.heap.size, 0, none⟩ = some (.slice A_aP n_aP c_aP) ∧ w'.cell? ⟨w5.heap.size, 0, none⟩ = some (.slice (some ⟨g_x0, 0, none⟩) n_aP n_aP))) (by kernel_rfl) ?_ (fun hHeld => ?_)
  · ((try dsimp only); (repeat' apply And.intro); all_goals ((repeat (first | (with_reducible refine cell_drew ?_) | (with_reducible refine cell_drewN _ ?_) | ((with_reducible refine cell_alloc ?_ ?_); · first | omega | (simp; done) | (simp; omega) | assumption) | ((with_reducible refine cell_set ?_ ?_); · first | (intro e; injection e; omega) | (intro e; simp at e; done) | (intro e; simp at e; omega)))); first | assumption | (simp; done)))
  refine reg_on (i := 0) (d := 35) (v := ?rv1) rfl rfl (by kernel_rfl) (by kernel_rfl) (by kernel_rfl) (fun _ _ _ h => h) (by rfl) ?ry1 (by assumption) ?rr1
  case ry1 => (intro wz hSw; (try dsimp only at hSw); go_simp; try with_reducible rfl)
  (try simp only [Act.put, List.setIfInBounds_toArray, List.set_cons_zero, List.set_cons_succ])
  refine reg_on (i := 1) (d := 36) (v := ?rv2) rfl rfl (by kernel_rfl) (by kernel_rfl) (by kernel_rfl) (fun _ _ _ h => h) (by rfl) ?ry2 (by assumption) ?rr2
  case ry2 => (intro wz hSw; (try dsimp only at hSw); go_simp; try with_reducible rfl)
  (try simp only [Act.put, List.setIfInBounds_toArray, List.set_cons_zero, List.set_cons_succ])
  refine wpAnyH_ready (rs := [2]) (by kernel_rfl) (by simp) ?_
  refine AllReadyH.cons rfl (fun K hK => ?_) AllReadyH.nil
  go_simp
  go_at_call 18; refine (toPuzzle_any _ _ _ l_aP _ (by exact (rd_aP.later bw7 (Nat.le_refl _)).later (Below.refl _ _).drew (Nat.le_refl _)) hn2_aP).mono ?_; rintro e w8 ⟨g_cy7, rfl, o_cy7_8, hb8⟩; have s8 := hb8.size; (try simp at s8); have d8_0 : w8.cell? ⟨w.heap.size, 0, none⟩ = some (.slice A_aP n_aP c_aP) := (hb8.cell (p := ⟨w.heap.size, 0, none⟩) (by first | omega | (simp; omega))).trans (by first | assumption | (go_split_ands; assumption)); have d8_1 : w8.cell? ⟨w5.heap.size, 0, none⟩ = some (.slice (some ⟨g_x0, 0, none⟩) n_aP n_aP) := (hb8.cell (p := ⟨w5.heap.size, 0, none⟩) (by first | omega | (simp; omega))).trans (by first | assumption | (go_split_ands; assumption))
  refine hK.out _ _ ?_ (fun hHeld => ?_)
  · ((try dsimp only); (repeat' apply And.intro); all_goals ((repeat (first | (with_reducible refine cell_drew ?_) | (with_reducible refine cell_drewN _ ?_) | ((with_reducible refine cell_alloc ?_ ?_); · first | omega | (simp; done) | (simp; omega) | assumption) | ((with_reducible refine cell_set ?_ ?_); · first | (intro e; injection e; omega) | (intro e; simp at e; done) | (intro e; simp at e; omega)))); first | assumption | (simp; done)))
  clear hK K
  (try simp only [Act.put, List.setIfInBounds_toArray, List.set_cons_zero, List.set_cons_succ])
  refine wpAnyH_ready (rs := [3]) (by kernel_rfl) (by simp) ?_
  refine AllReadyH.cons rfl (fun K hK => ?_) AllReadyH.nil
  go_simp
  go_at_call 20; refine (eqPuzzle_same _ _ _ _ _ _ _ _ (Rd.of_own (own_later (own_later o_x0_7 (Below.refl _ _).drew (Nat.le_refl _)) hb8 (Nat.le_refl _))) (Rd.of_own (by exact o_cy7_8)) (by omega) (by omega)).mono ?_; rintro e w9 ⟨rfl, hb9⟩; have s9 := hb9.size; (try simp at s9); have d9_0 : w9.cell? ⟨w.heap.size, 0, none⟩ = some (.slice A_aP n_aP c_aP) := (hb9.cell (p := ⟨w.heap.size, 0, none⟩) (by first | omega | (simp; omega))).trans (by first | assumption | (go_split_ands; assumption)); have d9_1 : w9.cell? ⟨w5.heap.size, 0, none⟩ = some (.slice (some ⟨g_x0, 0, none⟩) n_aP n_aP) := (hb9.cell (p := ⟨w5.heap.size, 0, none⟩) (by first | omega | (simp; omega))).trans (by first | assumption | (go_split_ands; assumption))
  refine hK.out _ _ ?_ (fun hHeld => ?_)
  · ((try dsimp only); (repeat' apply And.intro); all_goals ((repeat (first | (with_reducible refine cell_drew ?_) | (with_reducible refine cell_drewN _ ?_) | ((with_reducible refine cell_alloc ?_ ?_); · first | omega | (simp; done) | (simp; omega) | assumption) | ((with_reducible refine cell_set ?_ ?_); · first | (intro e; injection e; omega) | (intro e; simp at e; done) | (intro e; simp at e; omega)))); first | assumption | (simp; done)))
  clear hK K
  (try simp only [Act.put, List.setIfInBounds_toArray, List.set_cons_zero, List.set_cons_succ])
  refine reg_on (i := 4) (d := 39) (v := ?rv5) rfl rfl (by kernel_rfl) (by kernel_rfl) (by kernel_rfl) (fun _ _ _ h => h) (by rfl) ?ry5 (by assumption) ?rr5
  case ry5 => (intro wz hSw; (try dsimp only at hSw); go_simp; try with_reducible rfl)
  (try simp only [Act.put, List.setIfInBounds_toArray, List.set_cons_zero, List.set_cons_succ])
  refine wpAnyH_done (by kernel_rfl) ?_ _
  have bwd7 := bw7.drew
  have hbd7 : Below w7.heap.size w7 w8 := ((Below.refl _ _).drew).trans hb8
  replace hb9 := hbd7.trans (hb9.mono s8)
  replace s9 := hb9.size
  have bw9 : Below w.heap.size w w9 := bcall bw7.size hb9 bw7
  have q9 := bw9.size
  have o_sp0_9 := own_later o_sp0_7 hb9 (Nat.le_refl _)
  have o_x0_9 := own_later o_x0_7 hb9 (Nat.le_refl _)
  have cs0_0_9 := (hb9.cell (p := ⟨w.heap.size, 0, none⟩) (by show w.heap.size < w7.heap.size; omega)).trans cs0_0_7; clear cs0_0_7
  have zs0_9 : w.heap.size < w9.heap.size := by omega
  have cs1_0_9 := (hb9.cell (p := ⟨w5.heap.size, 0, none⟩) (by show w5.heap.size < w7.heap.size; omega)).trans cs1_0_7; clear cs1_0_7
  have zs1_9 : w5.heap.size < w9.heap.size := by omega
  go_wp2
  go_ret
  exact ⟨rfl, bw9⟩

theorem own : ownKnob Tryd.prog.godebug = none := by kernel_rfl
theorem laidOut : laidOutB Tryd.prog = true := by kernel_rfl
def theLaid : List (String × DataW Unit) := [("math/bits.deBruijn32tab", Rows.laid_math_bits_deBruijn32tab), ("math/bits.deBruijn64tab", Rows.laid_math_bits_deBruijn64tab), ("internal/strconv.uint64pow10", Rows.laid_internal_strconv_uint64pow10)]
theorem door_met (os : Os) (args : Array Value) : laidMetH Tryd.prog theLaid ((World.doorLaid Tryd.prog 400 os).forCall (fun _ _ => 0) ⟨#[], args, []⟩).memory :=
  laidMetH_of_parts3 (fuel := 8) (laidMet_of_run' 8 (by kernel_rfl) (by kernel_rfl)) (by kernel_rfl) (by kernel_rfl)

set_option maxRecDepth 100000 in
theorem lifted (os : Os) (started : os.Started) (H : Type) (enc : TypeId × Value → H) :
    ReturnsInHanded {} Tryd.checked os 5 .any (fun w args => (Rows.fnExactPuzzleTextSpec.pre enc Tryd.prog Tryd.f5 [] false w args ∧ laidMetH Tryd.prog theLaid w) ∧ sizedMet enc Tryd.prog Tryd.f5 (OpenSpec.ofChange Rows.fnExactPuzzleTextSpec) false w args)
      (Rows.fnExactPuzzleTextSpec.post enc Tryd.prog Tryd.f5 false true false false) := by
  refine returnsInHanded_of_change_and (C := Tryd.checked) (X := fun w _ => laidMetH Tryd.prog theLaid w) (fun _ _ _ hh h => h.of_heap hh) own started (by kernel_rfl) Tryd.func5
    (ChangeSpec.witness_shaped (enc := enc) (C := Tryd.checked) (os := os) (X := fun w _ => laidMetH Tryd.prog theLaid w) false (World.doorLaid Tryd.prog 400 os) #[.agg #[.slice none 0 0]] 8 rfl (World.shaped_of_RefB (by kernel_rfl) (by kernel_rfl)) (by kernel_rfl) (by kernel_rfl) (by kernel_rfl) (door_met os _)) ?_
  intro W base args ds gs before hval0 hW _ _ hL _
  have hval : ∀ (j : Nat) t v, Tryd.f5.params[j]? = some t → args[j]? = some v → Value.okWide Tryd.prog W .any base t v := hval0
  have hW' := hW
  obtain ⟨p, q, hA0, hV, rfl, hfz, hnd⟩ := hW
  have hA : DataW.TrodAll enc Tryd.prog W 0 (fun _ => true) true Tryd.f5.params.toList args.toList ds p := hA0
  rw [Tryd.params5] at hA hval
  obtain ⟨v0, vs0, d0, ds0, p0, q0, hargs, rfl, rfl, h0, r0⟩ := trodAll_cons hA
  obtain ⟨rfl, rfl, rfl⟩ := trodAll_nil r0
  obtain rfl : args = #[v0] := by cases args; simp_all
  obtain ⟨rfl, rfl⟩ := trodVars_none hV
  have k0 := h0
  have lt0 : ∀ x ∈ p0, x.block < W.heap.size := by obtain ⟨m, hm⟩ := k0; exact DataW.trod_lt m _ _ _ hm
  obtain ⟨A0, n0, c0, xs0, rfl, rd0, hl0⟩ := open_puz Tryd.underlying36 (show Tryd.prog.cellsOf 36 = 1 by kernel_rfl) rfl rfl (show Tryd.prog.cellsOf 34 = 1 by kernel_rfl) Tryd.underlying34 Tryd.underlying88 (show Tryd.prog.cellsOf 88 = 3 by kernel_rfl) rfl rfl rfl rfl rfl rfl Tryd.underlying3 (show Tryd.prog.cellsOf 3 = 1 by kernel_rfl) (hval 0 36 v0 rfl rfl) h0
  clear hA0 hval0
  skip
  refine (walk A0 n0 c0 xs0 W rd0 hl0).mono fun e W' ⟨he, bel⟩ => ?_
  subst he
  exact ⟨_, rfl, _, _, _, [], _, [], hW', trodAll_mk1 (shut_bool Tryd.underlying4 _), (trodAll_cons_mk (Below.trod laidOut (by kernel_rfl) (of_decide_eq_true (by kernel_rfl)) k0 bel lt0) trodAll_mk0), rfl, bel.frame _, fun h => by cases h⟩

theorem said : Rows.FnExactPuzzleTextSaid :=
  OpenClaim.holds_of_wide 5 Tryd.f5 rfl rfl rfl rfl rfl rfl rfl ⟨rfl, rfl, rfl, rfl, rfl⟩ rfl rfl rfl rfl rfl (by kernel_rfl) Tryd.func5 (by kernel_rfl)
    (of_decide_eq_true (by kernel_rfl)) (by unfold Func.isWrapper; first | (rw [if_pos (by decide +kernel)]; kernel_rfl) | (rw [if_neg (by decide +kernel)]; exact ⟨rfl, rfl⟩))
    (fun os started H enc _ => lifted os started H enc)

theorem proved : Rows.FnExactPuzzleTextCardSaid :=
  Claim7.holds_tied_plain_at .later [] [.data, .data, .data] true (true, "18bfed379d81ee1d94ccdad4e33204b5a4454a34ac024094cae1383c0dc43425") true
    said (fun _ h => by cases h) (by kernel_rfl) (fun _ h => by cases h) fnExactPuzzleText_row_tie rfl ⟨rfl, rfl⟩ (by kernel_rfl) rfl
    (fun f fn hf hfn => by
      obtain rfl : f = 5 := Option.some.inj ((show Tryd.prog.funcNamed "loop.example/g01377/laws.FnExactPuzzleText" = some 5 by kernel_rfl).symm.trans hf) |>.symm
      obtain rfl : fn = Tryd.f5 := (Option.some.inj (Tryd.func5.symm.trans hfn)).symm
      exact ⟨by kernel_rfl, fun j t ht => by
        rw [Tryd.params5] at ht
        have hm : t ∈ [36] := by simpa using Array.mem_of_getElem? ht
        have hall : ([36].all fun u => !Tryd.prog.wantsStandIn u) = true := by kernel_rfl
        exact (show Tryd.prog.wantsStandIn t = false by simpa using List.all_eq_true.1 hall t hm)⟩)
    (by kernel_rfl)

#print axioms proved
end Go.Proofs.YtghlgmbekgfmnabDoor.lawPuzzleText
