/-
  Proved: for every list of bars the law's calls of FirstGoodSeveral answer as the model does and leave the arguments alone. Conditions: none.
-/
import Derived.Test.YthemmckchmpicaaFgsS
import Derived.Test.YthemmckchmpicaaEqBars
import Derived.ProofKit
import Derived.OpenShut
import Derived.Lib.SmallJoins
namespace Go.Proofs.Ythemmckchmpicaa.lawFirstGoodSeveral
open Go.ChangeShapes Go.WideShapes Go.ChangeAt Go.RowKit Go.Joins Go.Deep
set_option linter.unusedVariables false

set_option maxRecDepth 100000 in
set_option maxHeartbeats 4000000 in
theorem walk (A_aBars : Option Addr) (n_aBars c_aBars : Nat) (l_aBars : List (Int × Int)) (w : World) (rd_aBars : Rd w 2 A_aBars n_aBars (pairCells l_aBars)) (hn_aBars : n_aBars ≤ maxLen) :
    Calls Try.prog 9 #[.slice A_aBars n_aBars c_aBars] w fun e w' => e = .returned (.bool true) ∧ Below w.heap.size w w' := by
  go_enter Try.func9, Try.ntmps9
  have bw0 : Below w.heap.size w w := Below.refl _ _
  by_cases hn2_aBars : n_aBars ≤ 1048576
  case neg =>
    go_wp2_with fail
    refine (szBarS_no _ _ _ _ hn_aBars hn2_aBars).mono ?_; rintro e wx ⟨rfl, rfl⟩
    go_wp2
    go_ret
    exact ⟨rfl, bw0⟩
  go_wp2_with fail
  refine (szBarS_yes _ _ _ _ hn2_aBars).mono ?_; rintro e wx ⟨rfl, rfl⟩
  go_wp2_with fail
  refine (toBarS_any _ _ _ l_aBars _ (rd_aBars.later bw0 (Nat.le_refl _)) hn2_aBars).mono ?_; rintro e w1 ⟨g_sp0, rfl, o_sp0_1, hb1⟩; have s1 := hb1.size; (try simp at s1)
  have bw1 : Below w.heap.size w w1 := bcall bw0.size hb1 bw0
  have q1 := bw1.size
  have lt_sp0 := Lib.hid (fun g (h : (Value.slice (some ⟨g_sp0, 0, none⟩) n_aBars n_aBars).ownBlock = some g) => o_sp0_1.lt g h)
  go_wp2_with fail
  refine (sFirstGoodSeveral_any _ _ _ l_aBars _ (Rd.of_own o_sp0_1) (by omega)).mono ?_; rintro e w2 ⟨rfl, hb2⟩; have s2 := hb2.size
  have bw2 : Below w.heap.size w w2 := bcall bw1.size hb2 bw1
  have q2 := bw2.size
  have o_sp0_2 := own_later o_sp0_1 hb2 (Nat.le_refl _)
  obtain ⟨w3, hw3⟩ : ∃ wm, wm = w2.alloc (.cells #[.int .i64 (fgX (fgR l_aBars)), .int .i64 (fgY (fgR l_aBars))] 26) := ⟨_, rfl⟩
  have hb3 : Below w2.heap.size w2 w3 := by rw [hw3]; exact (Below.refl _ _).alloc (Nat.le_refl _) _
  have cs0_0_3 : w3.cell? ⟨w2.heap.size, 0, none⟩ = some (.int .i64 (fgX (fgR l_aBars))) := by rw [hw3]; simp [go_sem]
  have cs0_1_3 : w3.cell? ⟨w2.heap.size, 1, none⟩ = some (.int .i64 (fgY (fgR l_aBars))) := by rw [hw3]; simp [go_sem]
  have s3 : w2.heap.size + 1 ≤ w3.heap.size := by rw [hw3]; simp
  have HW3 := Lib.hid hw3; clear hw3
  have bw3 : Below w.heap.size w w3 := bcall bw2.size hb3 bw2
  have q3 := bw3.size
  have o_sp0_3 := own_later o_sp0_2 hb3 (Nat.le_refl _)
  have zs0_3 : w2.heap.size < w3.heap.size := by omega
  have cx3_0_0 : (w2.alloc (.cells #[.int .i64 (fgX (fgR l_aBars)), .int .i64 (fgY (fgR l_aBars))] 26)).cell? ⟨w2.heap.size, 0, none⟩ = some (.int .i64 (fgX (fgR l_aBars))) := by rw [← HW3.out]; exact cs0_0_3
  have cx3_0_1 : (w2.alloc (.cells #[.int .i64 (fgX (fgR l_aBars)), .int .i64 (fgY (fgR l_aBars))] 26)).cell? ⟨w2.heap.size, 1, none⟩ = some (.int .i64 (fgY (fgR l_aBars))) := by rw [← HW3.out]; exact cs0_1_3
  go_wp2_with fail
  rw [← HW3.out]
  refine (toBarS_any _ _ _ l_aBars _ (rd_aBars.later bw3 (Nat.le_refl _)) hn2_aBars).mono ?_; rintro e w4 ⟨g_x0, rfl, o_x0_4, hb4⟩; have s4 := hb4.size
  have bw4 : Below w.heap.size w w4 := bcall bw3.size hb4 bw3
  have q4 := bw4.size
  have o_sp0_4 := own_later o_sp0_3 hb4 (Nat.le_refl _)
  have cs0_0_4 := (hb4.cell (p := ⟨w2.heap.size, 0, none⟩) (by show w2.heap.size < w3.heap.size; omega)).trans cs0_0_3; clear cs0_0_3
  have cs0_1_4 := (hb4.cell (p := ⟨w2.heap.size, 1, none⟩) (by show w2.heap.size < w3.heap.size; omega)).trans cs0_1_3; clear cs0_1_3
  have zs0_4 : w2.heap.size < w4.heap.size := by omega
  have lt_x0 := Lib.hid (fun g (h : (Value.slice (some ⟨g_x0, 0, none⟩) n_aBars n_aBars).ownBlock = some g) => o_x0_4.lt g h)
  go_wp2_with fail
  refine (firstGoodSeveral_any _ _ _ l_aBars _ (Rd.of_own o_x0_4) (by omega)).mono ?_; rintro e w5 ⟨rfl, hb5⟩; have s5 := hb5.size
  have bw5 : Below w.heap.size w w5 := bcall bw4.size hb5 bw4
  have q5 := bw5.size
  have o_sp0_5 := own_later o_sp0_4 hb5 (Nat.le_refl _)
  have o_x0_5 := own_later o_x0_4 hb5 (Nat.le_refl _)
  have cs0_0_5 := (hb5.cell (p := ⟨w2.heap.size, 0, none⟩) (by show w2.heap.size < w4.heap.size; omega)).trans cs0_0_4; clear cs0_0_4
  have cs0_1_5 := (hb5.cell (p := ⟨w2.heap.size, 1, none⟩) (by show w2.heap.size < w4.heap.size; omega)).trans cs0_1_4; clear cs0_1_4
  have zs0_5 : w2.heap.size < w5.heap.size := by omega
  obtain ⟨w6, hw6⟩ : ∃ wm, wm = w5.alloc (.cells #[.int .i64 (fgX (fgR l_aBars)), .int .i64 (fgY (fgR l_aBars))] 26) := ⟨_, rfl⟩
  have hb6 : Below w5.heap.size w5 w6 := by rw [hw6]; exact (Below.refl _ _).alloc (Nat.le_refl _) _
  have cs1_0_6 : w6.cell? ⟨w5.heap.size, 0, none⟩ = some (.int .i64 (fgX (fgR l_aBars))) := by rw [hw6]; simp [go_sem]
  have cs1_1_6 : w6.cell? ⟨w5.heap.size, 1, none⟩ = some (.int .i64 (fgY (fgR l_aBars))) := by rw [hw6]; simp [go_sem]
  have s6 : w5.heap.size + 1 ≤ w6.heap.size := by rw [hw6]; simp
  have HW6 := Lib.hid hw6; clear hw6
  have bw6 : Below w.heap.size w w6 := bcall bw5.size hb6 bw5
  have q6 := bw6.size
  have o_sp0_6 := own_later o_sp0_5 hb6 (Nat.le_refl _)
  have o_x0_6 := own_later o_x0_5 hb6 (Nat.le_refl _)
  have cs0_0_6 := (hb6.cell (p := ⟨w2.heap.size, 0, none⟩) (by show w2.heap.size < w5.heap.size; omega)).trans cs0_0_5; clear cs0_0_5
  have cs0_1_6 := (hb6.cell (p := ⟨w2.heap.size, 1, none⟩) (by show w2.heap.size < w5.heap.size; omega)).trans cs0_1_5; clear cs0_1_5
  have zs0_6 : w2.heap.size < w6.heap.size := by omega
  have zs1_6 : w5.heap.size < w6.heap.size := by omega
  have cx6_0_0 : (w5.alloc (.cells #[.int .i64 (fgX (fgR l_aBars)), .int .i64 (fgY (fgR l_aBars))] 26)).cell? ⟨w2.heap.size, 0, none⟩ = some (.int .i64 (fgX (fgR l_aBars))) := by rw [← HW6.out]; exact cs0_0_6
  have cx6_0_1 : (w5.alloc (.cells #[.int .i64 (fgX (fgR l_aBars)), .int .i64 (fgY (fgR l_aBars))] 26)).cell? ⟨w2.heap.size, 1, none⟩ = some (.int .i64 (fgY (fgR l_aBars))) := by rw [← HW6.out]; exact cs0_1_6
  have cx6_1_0 : (w5.alloc (.cells #[.int .i64 (fgX (fgR l_aBars)), .int .i64 (fgY (fgR l_aBars))] 26)).cell? ⟨w5.heap.size, 0, none⟩ = some (.int .i64 (fgX (fgR l_aBars))) := by rw [← HW6.out]; exact cs1_0_6
  have cx6_1_1 : (w5.alloc (.cells #[.int .i64 (fgX (fgR l_aBars)), .int .i64 (fgY (fgR l_aBars))] 26)).cell? ⟨w5.heap.size, 1, none⟩ = some (.int .i64 (fgY (fgR l_aBars))) := by rw [← HW6.out]; exact cs1_1_6
  go_wp2_with fail
  rw [← HW6.out]
  refine (eqBar_same _ _ _).mono ?_; rintro e w7 ⟨rfl, hb7⟩; have s7 := hb7.size
  have bw7 : Below w.heap.size w w7 := bcall bw6.size hb7 bw6
  have q7 := bw7.size
  have o_sp0_7 := own_later o_sp0_6 hb7 (Nat.le_refl _)
  have o_x0_7 := own_later o_x0_6 hb7 (Nat.le_refl _)
  have cs0_0_7 := (hb7.cell (p := ⟨w2.heap.size, 0, none⟩) (by show w2.heap.size < w6.heap.size; omega)).trans cs0_0_6; clear cs0_0_6
  have cs0_1_7 := (hb7.cell (p := ⟨w2.heap.size, 1, none⟩) (by show w2.heap.size < w6.heap.size; omega)).trans cs0_1_6; clear cs0_1_6
  have zs0_7 : w2.heap.size < w7.heap.size := by omega
  have cs1_0_7 := (hb7.cell (p := ⟨w5.heap.size, 0, none⟩) (by show w5.heap.size < w6.heap.size; omega)).trans cs1_0_6; clear cs1_0_6
  have cs1_1_7 := (hb7.cell (p := ⟨w5.heap.size, 1, none⟩) (by show w5.heap.size < w6.heap.size; omega)).trans cs1_1_6; clear cs1_1_6
  have zs1_7 : w5.heap.size < w7.heap.size := by omega
  go_wp2_with fail
  refine (toBarS_any _ _ _ l_aBars _ (rd_aBars.later bw7 (Nat.le_refl _)) hn2_aBars).mono ?_; rintro e w8 ⟨g_cy7, rfl, o_cy7_8, hb8⟩; have s8 := hb8.size
  have bw8 : Below w.heap.size w w8 := bcall bw7.size hb8 bw7
  have q8 := bw8.size
  have o_sp0_8 := own_later o_sp0_7 hb8 (Nat.le_refl _)
  have o_x0_8 := own_later o_x0_7 hb8 (Nat.le_refl _)
  have cs0_0_8 := (hb8.cell (p := ⟨w2.heap.size, 0, none⟩) (by show w2.heap.size < w7.heap.size; omega)).trans cs0_0_7; clear cs0_0_7
  have cs0_1_8 := (hb8.cell (p := ⟨w2.heap.size, 1, none⟩) (by show w2.heap.size < w7.heap.size; omega)).trans cs0_1_7; clear cs0_1_7
  have zs0_8 : w2.heap.size < w8.heap.size := by omega
  have cs1_0_8 := (hb8.cell (p := ⟨w5.heap.size, 0, none⟩) (by show w5.heap.size < w7.heap.size; omega)).trans cs1_0_7; clear cs1_0_7
  have cs1_1_8 := (hb8.cell (p := ⟨w5.heap.size, 1, none⟩) (by show w5.heap.size < w7.heap.size; omega)).trans cs1_1_7; clear cs1_1_7
  have zs1_8 : w5.heap.size < w8.heap.size := by omega
  have lt_cy7 := Lib.hid (fun g (h : (Value.slice (some ⟨g_cy7, 0, none⟩) n_aBars n_aBars).ownBlock = some g) => o_cy7_8.lt g h)
  go_wp2_with fail
  refine (eqBarS_same _ _ _ _ _ _ _ _ (Rd.of_own o_x0_8) (Rd.of_own o_cy7_8) (by omega) (by omega)).mono ?_; rintro e w9 ⟨rfl, hb9⟩; have s9 := hb9.size
  have bw9 : Below w.heap.size w w9 := bcall bw8.size hb9 bw8
  have q9 := bw9.size
  have o_sp0_9 := own_later o_sp0_8 hb9 (Nat.le_refl _)
  have o_x0_9 := own_later o_x0_8 hb9 (Nat.le_refl _)
  have o_cy7_9 := own_later o_cy7_8 hb9 (Nat.le_refl _)
  have cs0_0_9 := (hb9.cell (p := ⟨w2.heap.size, 0, none⟩) (by show w2.heap.size < w8.heap.size; omega)).trans cs0_0_8; clear cs0_0_8
  have cs0_1_9 := (hb9.cell (p := ⟨w2.heap.size, 1, none⟩) (by show w2.heap.size < w8.heap.size; omega)).trans cs0_1_8; clear cs0_1_8
  have zs0_9 : w2.heap.size < w9.heap.size := by omega
  have cs1_0_9 := (hb9.cell (p := ⟨w5.heap.size, 0, none⟩) (by show w5.heap.size < w8.heap.size; omega)).trans cs1_0_8; clear cs1_0_8
  have cs1_1_9 := (hb9.cell (p := ⟨w5.heap.size, 1, none⟩) (by show w5.heap.size < w8.heap.size; omega)).trans cs1_1_8; clear cs1_1_8
  have zs1_9 : w5.heap.size < w9.heap.size := by omega
  go_wp2
  go_ret
  exact ⟨rfl, bw9⟩

theorem own : ownKnob Try.prog.godebug = none := by kernel_rfl
theorem laidOut : laidOutB Try.prog = true := by kernel_rfl

set_option maxRecDepth 100000 in
theorem lifted (os : Os) (started : os.Started) (H : Type) (enc : TypeId × Value → H) :
    ReturnsInHanded {} Try.checked os 9 .any (Rows.fnExactFirstGoodSeveralSpec.pre6 enc Try.prog Try.f9 Rows.fnExactFirstGoodSeveralRow.domain false) (Rows.fnExactFirstGoodSeveralSpec.post enc Try.prog Try.f9 false true false false) := by
  refine returnsInHanded_of_change (C := Try.checked) own started (by kernel_rfl) Try.func9
    (ChangeSpec.witness6 (enc := enc) (C := Try.checked) false ⟨#[], #[.slice none 0 0], []⟩ 8 (by kernel_rfl) (by kernel_rfl) (by kernel_rfl) (by kernel_rfl)) ?_
  intro W base args ds gs before hval0 hW hcnd _
  have hval : ∀ (j : Nat) t v, Try.f9.params[j]? = some t → args[j]? = some v → Value.okWide Try.prog W .any base t v := hval0
  have hW' := hW
  obtain ⟨p, q, hA0, hV, rfl, hfz, hnd⟩ := hW
  have hA : DataW.TrodAll enc Try.prog W 0 (fun _ => true) true Try.f9.params.toList args.toList ds p := hA0
  rw [Try.params9] at hA hval
  obtain ⟨v0, vs0, d0, ds0, p0, q0, hargs, rfl, rfl, h0, r0⟩ := trodAll_cons hA
  obtain ⟨rfl, rfl, rfl⟩ := trodAll_nil r0
  obtain rfl : args = #[v0] := by cases args; simp_all
  obtain ⟨rfl, rfl⟩ := trodVars_none hV
  obtain ⟨A0, n0, c0, rfl⟩ := okWide_slice Try.underlying36 (hval 0 36 v0 rfl rfl)
  have k0 := h0
  have lt0 : ∀ x ∈ p0, x.block < W.heap.size := by obtain ⟨m, hm⟩ := k0; exact DataW.trod_lt m _ _ _ hm
  obtain ⟨xs0, rd0⟩ := open_pairs Try.underlying36 Try.underlying23 (show Try.prog.cellsOf 23 = 2 by kernel_rfl) rfl rfl rfl rfl Try.underlying3 (show Try.prog.cellsOf 3 = 1 by kernel_rfl) h0
  have hl0 : n0 ≤ maxLen := by
    obtain ⟨fuel, hf⟩ := h0
    rcases open_slice Try.underlying36 hf with ⟨hcs, _⟩ | ⟨_, _, _, _, _, _, _, hcs, _, q1, q2, _⟩
    · simp [Value.cells] at hcs
      obtain ⟨_, rfl, _⟩ := hcs
      exact Nat.zero_le _
    · simp [Value.cells] at hcs
      obtain ⟨_, rfl, rfl⟩ := hcs
      omega
  clear hA0 hval0
  refine (walk A0 n0 c0 xs0 W rd0 hl0).mono fun e W' ⟨he, bel⟩ => ?_
  subst he
  exact ⟨_, rfl, _, _, _, [], _, [], hW', trodAll_mk1 (shut_bool Try.underlying4 _), (trodAll_cons_mk (Below.trod laidOut (by kernel_rfl) (of_decide_eq_true (by kernel_rfl)) k0 bel lt0) trodAll_mk0), rfl, bel.frame _, fun h => by cases h⟩

theorem proved : Rows.FnExactFirstGoodSeveralSaid :=
  OpenClaim.holds_of_wide 9 Try.f9 rfl rfl rfl rfl rfl rfl rfl ⟨rfl, rfl, rfl, rfl, rfl⟩ rfl rfl rfl rfl rfl (by kernel_rfl) Try.func9 (by kernel_rfl)
    (of_decide_eq_true (by kernel_rfl)) (by unfold Func.isWrapper; first | (rw [if_pos (by decide +kernel)]; kernel_rfl) | (rw [if_neg (by decide +kernel)]; exact ⟨rfl, rfl⟩))
    (fun os started H enc _ => lifted os started H enc)

#print axioms proved
end Go.Proofs.Ythemmckchmpicaa.lawFirstGoodSeveral
