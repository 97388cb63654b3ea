/-
  Proved: for every list of slabs and list of numbers the law's calls of IsStack answer as the model does and leave the arguments alone. Conditions: none.
-/
import Derived.Test.YtkijcpbjjbhnhabStkL
import Derived.ProofKit
import Derived.OpenShut
import Derived.Lib.SmallJoins
namespace Go.Proofs.Ytkijcpbjjbhnhab.lawIsStack
open Go.ChangeShapes Go.WideShapes Go.ChangeAt Go.RowKit Go.Joins Go.Deep
set_option linter.unusedVariables false

set_option maxRecDepth 100000 in
set_option maxHeartbeats 4000000 in
theorem walk (A_aSlabs : Option Addr) (n_aSlabs c_aSlabs : Nat) (l_aSlabs : List (Int × Int)) (A_aOrder : Option Addr) (n_aOrder c_aOrder : Nat) (l_aOrder : List Int) (w : World) (rd_aSlabs : Rd w 2 A_aSlabs n_aSlabs (pairCells l_aSlabs)) (hn_aSlabs : n_aSlabs ≤ maxLen) (rd_aOrder : Rd w 1 A_aOrder n_aOrder (intCells l_aOrder)) (hw_aOrder : ∀ z ∈ l_aOrder, (Lit.int .i64 z).wf = true) (hn_aOrder : n_aOrder ≤ 9223372036854775807) :
    Calls Try.prog 3 #[.slice A_aSlabs n_aSlabs c_aSlabs, .slice A_aOrder n_aOrder c_aOrder] w fun e w' => e = .returned (.bool true) ∧ Below w.heap.size w w' := by
  clear hw_aOrder
  go_enter Try.func3, Try.ntmps3
  have bw0 : Below w.heap.size w w := Below.refl _ _
  by_cases hn2_aOrder : n_aOrder ≤ 1048576
  case neg =>
    go_wp2
    go_ret
    exact ⟨rfl, bw0⟩
  by_cases hn2_aSlabs : n_aSlabs ≤ 1048576
  case neg =>
    go_wp2_with fail
    refine (szSlabS_no _ _ _ _ hn_aSlabs hn2_aSlabs).mono ?_; rintro e wx ⟨rfl, rfl⟩
    go_wp2
    go_ret
    exact ⟨rfl, bw0⟩
  go_wp2_with fail
  refine (szSlabS_yes _ _ _ _ hn2_aSlabs).mono ?_; rintro e wx ⟨rfl, rfl⟩
  go_wp2_with fail
  refine (toSlabS_any _ _ _ l_aSlabs _ (rd_aSlabs.later bw0 (Nat.le_refl _)) hn2_aSlabs).mono ?_; rintro e w1 ⟨g_sp0, rfl, o_sp0_1, hb1⟩; have s1 := hb1.size; (try simp at s1)
  have bw1 : Below w.heap.size w w1 := bcall bw0.size hb1 bw0
  have q1 := bw1.size
  have lt_sp0 := Lib.hid (fun g (h : (Value.slice (some ⟨g_sp0, 0, none⟩) n_aSlabs n_aSlabs).ownBlock = some g) => o_sp0_1.lt g h)
  go_wp2_with fail
  refine (toIntS_any _ _ _ l_aOrder _ (rd_aOrder.later bw1 (Nat.le_refl _)) hn2_aOrder).mono ?_; rintro e w2 ⟨g_sp1, rfl, o_sp1_2, hb2⟩; have s2 := hb2.size
  have bw2 : Below w.heap.size w w2 := bcall bw1.size hb2 bw1
  have q2 := bw2.size
  have o_sp0_2 := own_later o_sp0_1 hb2 (Nat.le_refl _)
  have lt_sp1 := Lib.hid (fun g (h : (Value.slice (some ⟨g_sp1, 0, none⟩) n_aOrder n_aOrder).ownBlock = some g) => o_sp1_2.lt g h)
  go_wp2_with fail
  refine (sIsStack_any _ _ _ l_aSlabs _ _ _ l_aOrder _ (Rd.of_own o_sp0_2) (Rd.of_own o_sp1_2) (by omega) (by omega) (by omega) (by omega)).mono ?_; rintro e w3 ⟨rfl, hb3⟩; have s3 := hb3.size
  have bw3 : Below w.heap.size w w3 := bcall bw2.size hb3 bw2
  have q3 := bw3.size
  have o_sp0_3 := own_later o_sp0_2 hb3 (Nat.le_refl _)
  have o_sp1_3 := own_later o_sp1_2 hb3 (Nat.le_refl _)
  go_wp2_with fail
  refine (toSlabS_any _ _ _ l_aSlabs _ (rd_aSlabs.later bw3 (Nat.le_refl _)) hn2_aSlabs).mono ?_; rintro e w4 ⟨g_x0, rfl, o_x0_4, hb4⟩; have s4 := hb4.size
  have bw4 : Below w.heap.size w w4 := bcall bw3.size hb4 bw3
  have q4 := bw4.size
  have o_sp0_4 := own_later o_sp0_3 hb4 (Nat.le_refl _)
  have o_sp1_4 := own_later o_sp1_3 hb4 (Nat.le_refl _)
  have lt_x0 := Lib.hid (fun g (h : (Value.slice (some ⟨g_x0, 0, none⟩) n_aSlabs n_aSlabs).ownBlock = some g) => o_x0_4.lt g h)
  go_wp2_with fail
  refine (toIntS_any _ _ _ l_aOrder _ (rd_aOrder.later bw4 (Nat.le_refl _)) hn2_aOrder).mono ?_; rintro e w5 ⟨g_x1, rfl, o_x1_5, hb5⟩; have s5 := hb5.size
  have bw5 : Below w.heap.size w w5 := bcall bw4.size hb5 bw4
  have q5 := bw5.size
  have o_sp0_5 := own_later o_sp0_4 hb5 (Nat.le_refl _)
  have o_sp1_5 := own_later o_sp1_4 hb5 (Nat.le_refl _)
  have o_x0_5 := own_later o_x0_4 hb5 (Nat.le_refl _)
  have lt_x1 := Lib.hid (fun g (h : (Value.slice (some ⟨g_x1, 0, none⟩) n_aOrder n_aOrder).ownBlock = some g) => o_x1_5.lt g h)
  go_wp2_with fail
  refine (isStack_any _ _ _ l_aSlabs _ _ _ l_aOrder _ (Rd.of_own o_x0_5) (Rd.of_own o_x1_5) (by omega) (by omega) (by omega) (by omega)).mono ?_; rintro e w6 ⟨rfl, hb6⟩; have s6 := hb6.size
  have bw6 : Below w.heap.size w w6 := bcall bw5.size hb6 bw5
  have q6 := bw6.size
  have o_sp0_6 := own_later o_sp0_5 hb6 (Nat.le_refl _)
  have o_sp1_6 := own_later o_sp1_5 hb6 (Nat.le_refl _)
  have o_x0_6 := own_later o_x0_5 hb6 (Nat.le_refl _)
  have o_x1_6 := own_later o_x1_5 hb6 (Nat.le_refl _)
  go_wp2_with fail
  refine (toSlabS_any _ _ _ l_aSlabs _ (rd_aSlabs.later bw6 (Nat.le_refl _)) hn2_aSlabs).mono ?_; rintro e w7 ⟨g_cy6, rfl, o_cy6_7, hb7⟩; have s7 := hb7.size
  have bw7 : Below w.heap.size w w7 := bcall bw6.size hb7 bw6
  have q7 := bw7.size
  have o_sp0_7 := own_later o_sp0_6 hb7 (Nat.le_refl _)
  have o_sp1_7 := own_later o_sp1_6 hb7 (Nat.le_refl _)
  have o_x0_7 := own_later o_x0_6 hb7 (Nat.le_refl _)
  have o_x1_7 := own_later o_x1_6 hb7 (Nat.le_refl _)
  have lt_cy6 := Lib.hid (fun g (h : (Value.slice (some ⟨g_cy6, 0, none⟩) n_aSlabs n_aSlabs).ownBlock = some g) => o_cy6_7.lt g h)
  go_wp2_with fail
  refine (eqSlabS_same _ _ _ _ _ _ _ _ (Rd.of_own o_x0_7) (Rd.of_own o_cy6_7) (by omega) (by omega)).mono ?_; rintro e w8 ⟨rfl, hb8⟩; have s8 := hb8.size
  have bw8 : Below w.heap.size w w8 := bcall bw7.size hb8 bw7
  have q8 := bw8.size
  have o_sp0_8 := own_later o_sp0_7 hb8 (Nat.le_refl _)
  have o_sp1_8 := own_later o_sp1_7 hb8 (Nat.le_refl _)
  have o_x0_8 := own_later o_x0_7 hb8 (Nat.le_refl _)
  have o_x1_8 := own_later o_x1_7 hb8 (Nat.le_refl _)
  have o_cy6_8 := own_later o_cy6_7 hb8 (Nat.le_refl _)
  go_wp2_with fail
  refine (toIntS_any _ _ _ l_aOrder _ (rd_aOrder.later bw8 (Nat.le_refl _)) hn2_aOrder).mono ?_; rintro e w9 ⟨g_cy8, rfl, o_cy8_9, hb9⟩; have s9 := hb9.size
  have bw9 : Below w.heap.size w w9 := bcall bw8.size hb9 bw8
  have q9 := bw9.size
  have o_sp0_9 := own_later o_sp0_8 hb9 (Nat.le_refl _)
  have o_sp1_9 := own_later o_sp1_8 hb9 (Nat.le_refl _)
  have o_x0_9 := own_later o_x0_8 hb9 (Nat.le_refl _)
  have o_x1_9 := own_later o_x1_8 hb9 (Nat.le_refl _)
  have o_cy6_9 := own_later o_cy6_8 hb9 (Nat.le_refl _)
  have lt_cy8 := Lib.hid (fun g (h : (Value.slice (some ⟨g_cy8, 0, none⟩) n_aOrder n_aOrder).ownBlock = some g) => o_cy8_9.lt g h)
  go_wp2_with fail
  refine (eqIntS_same _ _ _ _ _ _ _ _ (Rd.of_own o_x1_9) (Rd.of_own o_cy8_9) (by omega) (by omega)).mono ?_; rintro e w10 ⟨rfl, hb10⟩; have s10 := hb10.size
  have bw10 : Below w.heap.size w w10 := bcall bw9.size hb10 bw9
  have q10 := bw10.size
  have o_sp0_10 := own_later o_sp0_9 hb10 (Nat.le_refl _)
  have o_sp1_10 := own_later o_sp1_9 hb10 (Nat.le_refl _)
  have o_x0_10 := own_later o_x0_9 hb10 (Nat.le_refl _)
  have o_x1_10 := own_later o_x1_9 hb10 (Nat.le_refl _)
  have o_cy6_10 := own_later o_cy6_9 hb10 (Nat.le_refl _)
  have o_cy8_10 := own_later o_cy8_9 hb10 (Nat.le_refl _)
  go_wp2
  go_ret
  exact ⟨rfl, bw10⟩

theorem own : ownKnob Try.prog.godebug = none := by kernel_rfl
theorem laidOut : laidOutB Try.prog = true := by kernel_rfl

set_option maxRecDepth 100000 in
theorem lifted (os : Os) (started : os.Started) (H : Type) (enc : TypeId × Value → H) :
    ReturnsInHanded {} Try.checked os 3 .any (Rows.fnExactIsStackSpec.pre6 enc Try.prog Try.f3 Rows.fnExactIsStackRow.domain false) (Rows.fnExactIsStackSpec.post enc Try.prog Try.f3 false true false false) := by
  refine returnsInHanded_of_change (C := Try.checked) own started (by kernel_rfl) Try.func3
    (ChangeSpec.witness6 (enc := enc) (C := Try.checked) false ⟨#[], #[.slice none 0 0, .slice none 0 0], []⟩ 8 (by kernel_rfl) (by kernel_rfl) (by kernel_rfl) (by kernel_rfl)) ?_
  intro W base args ds gs before hval0 hW hcnd _
  have hval : ∀ (j : Nat) t v, Try.f3.params[j]? = some t → args[j]? = some v → Value.okWide Try.prog W .any base t v := hval0
  have hW' := hW
  obtain ⟨p, q, hA0, hV, rfl, hfz, hnd⟩ := hW
  have hA : DataW.TrodAll enc Try.prog W 0 (fun _ => true) true Try.f3.params.toList args.toList ds p := hA0
  rw [Try.params3] at hA hval
  obtain ⟨v0, vs0, d0, ds0, p0, q0, hargs, rfl, rfl, h0, r0⟩ := trodAll_cons hA
  obtain ⟨v1, vs1, d1, ds1, p1, q1, rfl, rfl, rfl, h1, r1⟩ := trodAll_cons r0
  obtain ⟨rfl, rfl, rfl⟩ := trodAll_nil r1
  obtain rfl : args = #[v0, v1] := by cases args; simp_all
  obtain ⟨rfl, rfl⟩ := trodVars_none hV
  obtain ⟨A0, n0, c0, rfl⟩ := okWide_slice Try.underlying22 (hval 0 22 v0 rfl rfl)
  have k0 := h0
  have lt0 : ∀ x ∈ p0, x.block < W.heap.size := by obtain ⟨m, hm⟩ := k0; exact DataW.trod_lt m _ _ _ hm
  obtain ⟨xs0, rd0⟩ := open_pairs Try.underlying22 Try.underlying45 (show Try.prog.cellsOf 45 = 2 by kernel_rfl) rfl rfl rfl rfl Try.underlying3 (show Try.prog.cellsOf 3 = 1 by kernel_rfl) h0
  have hl0 : n0 ≤ maxLen := by
    obtain ⟨fuel, hf⟩ := h0
    rcases open_slice Try.underlying22 hf with ⟨hcs, _⟩ | ⟨_, _, _, _, _, _, _, hcs, _, q1, q2, _⟩
    · simp [Value.cells] at hcs
      obtain ⟨_, rfl, _⟩ := hcs
      exact Nat.zero_le _
    · simp [Value.cells] at hcs
      obtain ⟨_, rfl, rfl⟩ := hcs
      omega
  obtain ⟨A1, n1, c1, rfl⟩ := okWide_slice Try.underlying23 (hval 1 23 v1 rfl rfl)
  have k1 := h1
  have lt1 : ∀ x ∈ p1, x.block < W.heap.size := by obtain ⟨m, hm⟩ := k1; exact DataW.trod_lt m _ _ _ hm
  obtain ⟨xs1, rd1, sz1, hl1⟩ := open_intL Try.underlying23 Try.underlying3 (show Try.prog.cellsOf 3 = 1 by kernel_rfl) h1
  clear hA0 hval0
  refine (walk A0 n0 c0 xs0 A1 n1 c1 xs1 W rd0 hl0 rd1 sz1 hl1).mono fun e W' ⟨he, bel⟩ => ?_
  subst he
  exact ⟨_, rfl, _, _, _, [], _, [], hW', trodAll_mk1 (shut_bool Try.underlying4 _), (trodAll_cons_mk (Below.trod laidOut (by kernel_rfl) (of_decide_eq_true (by kernel_rfl)) k0 bel lt0) (trodAll_cons_mk (Below.trod laidOut (by kernel_rfl) (of_decide_eq_true (by kernel_rfl)) k1 bel lt1) trodAll_mk0)), rfl, bel.frame _, fun h => by cases h⟩

theorem proved : Rows.FnExactIsStackSaid :=
  OpenClaim.holds_of_wide 3 Try.f3 rfl rfl rfl rfl rfl rfl rfl ⟨rfl, rfl, rfl, rfl, rfl⟩ rfl rfl rfl rfl rfl (by kernel_rfl) Try.func3 (by kernel_rfl)
    (of_decide_eq_true (by kernel_rfl)) (by unfold Func.isWrapper; first | (rw [if_pos (by decide +kernel)]; kernel_rfl) | (rw [if_neg (by decide +kernel)]; exact ⟨rfl, rfl⟩))
    (fun os started H enc _ => lifted os started H enc)

#print axioms proved
end Go.Proofs.Ytkijcpbjjbhnhab.lawIsStack
