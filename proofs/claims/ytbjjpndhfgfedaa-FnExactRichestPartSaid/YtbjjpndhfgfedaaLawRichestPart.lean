/-
  Proved: for every list of texts and bar the law's calls of RichestPart answer as the model does and leave the arguments alone. Conditions: none.
-/
import Derived.Test.YtbjjpndhfgfedaaSKit
import Derived.Test.YtbjjpndhfgfedaaRich
import Derived.ProofKit
import Derived.OpenShut
import Derived.Lib.SmallJoins
namespace Go.Proofs.Ytbjjpndhfgfedaa.lawRichestPart
open Go.ChangeShapes Go.WideShapes Go.ChangeAt Go.RowKit Go.Joins Go.Deep
set_option linter.unusedVariables false

set_option maxRecDepth 100000 in
set_option maxHeartbeats 4000000 in
theorem walk (A_aNuts : Option Addr) (n_aNuts c_aNuts : Nat) (l_aNuts : List ByteArray) (x_aB y_aB : Int) (w : World) (rd_aNuts : Rd w 1 A_aNuts n_aNuts (strCells l_aNuts)) (hs_aNuts : ∀ s ∈ l_aNuts, s.size ≤ 9223372036854775807) (hn_aNuts : n_aNuts ≤ 9223372036854775807) (wx_aB : (Lit.int .i64 x_aB).wf = true) (wy_aB : (Lit.int .i64 y_aB).wf = true) :
    Calls Try.prog 8 #[.slice A_aNuts n_aNuts c_aNuts, bar2 x_aB y_aB] w fun e w' => e = .returned (.bool true) ∧ Below w.heap.size w w' := by
  have HS_aNuts := Lib.hid hs_aNuts; clear hs_aNuts
  clear wx_aB wy_aB
  go_enter Try.func8, Try.ntmps8
  have bw0 : Below w.heap.size w (w.alloc (.cells #[.int .i64 x_aB, .int .i64 y_aB] 35)) := by (repeat (first | (with_reducible exact Below.refl _ _) | (with_reducible assumption) | (with_reducible refine Below.drew ?_) | ((with_reducible refine balloc ?_ _ ?_); · (first | (simp; done) | (simp; omega) | omega)) | ((with_reducible refine bset ?_ _ ?_); · (first | (simp; done) | (simp; omega) | omega)) | (with_reducible refine bdrewN _ ?_) | ((with_reducible refine bcall ?_ (by assumption) ?_); · (first | (simp; done) | (simp; omega) | omega))))
  go_wp2_with fail
  refine (szStringS_any _ _ _ _ l_aNuts _ (rd_aNuts.later bw0 (Nat.le_refl _)) HS_aNuts.out hn_aNuts (by omega) (by omega)).mono ?_; rintro e wx ⟨⟨v1, rfl, hv1⟩, rfl⟩
  have ht1 := totS_nonneg l_aNuts
  rcases hv1 with rfl | ⟨va1, vb1⟩
  · go_wp2
    go_ret
    exact ⟨rfl, bw0⟩
  have hn2_aNuts : n_aNuts ≤ 1048576 := by omega
  have vc1 : v1 ≤ 1048576 := by omega
  clear vb1
  go_wp2_with fail
  have cl0 : (w.alloc (.cells #[.int .i64 x_aB, .int .i64 y_aB] 35)).cell? ⟨w.heap.size, 0, none⟩ = some (.int .i64 x_aB) := by simp [go_sem]
  have cl1 : (w.alloc (.cells #[.int .i64 x_aB, .int .i64 y_aB] 35)).cell? ⟨w.heap.size, 1, none⟩ = some (.int .i64 y_aB) := by simp [go_sem]
  have rdd_aNuts : Rd (w.alloc (.cells #[.int .i64 x_aB, .int .i64 y_aB] 35)) 1 A_aNuts n_aNuts (strCells l_aNuts) := rd_aNuts.later bw0 (Nat.le_refl _)
  refine wp_region_held_drew (S := (fun w' => w'.cell? ⟨w.heap.size, 0, none⟩ = some (.int .i64 x_aB) ∧ w'.cell? ⟨w.heap.size, 1, none⟩ = some (.int .i64 y_aB))) (by kernel_rfl) ?_ (fun hHeld => ?_)
  · ((try dsimp only); (repeat' apply And.intro); all_goals ((repeat (first | (with_reducible refine cell_drew ?_) | (with_reducible refine cell_drewN _ ?_) | ((with_reducible refine cell_alloc ?_ ?_); · first | omega | (simp; done) | (simp; omega) | assumption) | ((with_reducible refine cell_set ?_ ?_); · first | (intro e; injection e; omega) | (intro e; simp at e; done) | (intro e; simp at e; omega)))); first | assumption | (simp; done)))
  refine reg_on (i := 0) (d := 21) (v := ?rv1) rfl rfl (by kernel_rfl) (by kernel_rfl) (by kernel_rfl) (fun _ _ _ h => h) (by rfl) ?ry1 (by assumption) ?rr1
  case ry1 => (intro wz hSw; (try dsimp only at hSw); go_simp; try with_reducible rfl)
  (try simp only [Act.put, List.setIfInBounds_toArray, List.set_cons_zero, List.set_cons_succ])
  refine reg_on (i := 2) (d := 23) (v := ?rv2) rfl rfl (by kernel_rfl) (by kernel_rfl) (by kernel_rfl) (fun _ _ _ h => h) (by rfl) ?ry2 (by assumption) ?rr2
  case ry2 => (intro wz hSw; (try dsimp only at hSw); go_simp; try with_reducible rfl)
  (try simp only [Act.put, List.setIfInBounds_toArray, List.set_cons_zero, List.set_cons_succ])
  refine wpAnyH_ready (rs := [1]) (by kernel_rfl) (by simp) ?_
  refine AllReadyH.cons rfl (fun K hK => ?_) AllReadyH.nil
  go_simp
  go_at_call 17; refine (toStringS_any _ _ _ l_aNuts _ (by exact rdd_aNuts) hn2_aNuts).mono ?_; rintro e w1 ⟨g_sp0, rfl, o_sp0_1, hb1⟩; have s1 := hb1.size; have zr1_0 : w.heap.size < w1.heap.size := (by first | omega | (simp at s1; omega)); have cr1_0 : w1.cell? ⟨w.heap.size, 0, none⟩ = some (.int .i64 x_aB) := (hb1.cell (p := ⟨w.heap.size, 0, none⟩) (by first | (simp; done) | (simp; omega) | omega)).trans (by first | assumption | (go_split_ands; assumption)); have cr1_1 : w1.cell? ⟨w.heap.size, 1, none⟩ = some (.int .i64 y_aB) := (hb1.cell (p := ⟨w.heap.size, 1, none⟩) (by first | (simp; done) | (simp; omega) | omega)).trans (by first | assumption | (go_split_ands; assumption))
  refine hK.out _ _ ?_ (fun hHeld => ?_)
  · ((try dsimp only); (repeat' apply And.intro); all_goals ((repeat (first | (with_reducible refine cell_drew ?_) | (with_reducible refine cell_drewN _ ?_) | ((with_reducible refine cell_alloc ?_ ?_); · first | omega | (simp; done) | (simp; omega) | assumption) | ((with_reducible refine cell_set ?_ ?_); · first | (intro e; injection e; omega) | (intro e; simp at e; done) | (intro e; simp at e; omega)))); first | assumption | (simp; done)))
  clear hK K
  (try simp only [Act.put, List.setIfInBounds_toArray, List.set_cons_zero, List.set_cons_succ])
  refine wpAnyH_ready (rs := [3]) (by kernel_rfl) (by simp) ?_
  refine AllReadyH.cons rfl (fun K hK => ?_) AllReadyH.nil
  go_simp
  go_at_call 31; refine (toBar_any _ _ _).mono ?_; rintro e w2 ⟨rfl, hb2⟩; have s2 := hb2.size; have zr2_0 : w.heap.size < w2.heap.size := (by first | omega | (simp at s2; omega)); have cr2_0 : w2.cell? ⟨w.heap.size, 0, none⟩ = some (.int .i64 x_aB) := (hb2.cell (p := ⟨w.heap.size, 0, none⟩) (by first | (simp; done) | (simp; omega) | omega)).trans (by first | assumption | (go_split_ands; assumption)); have cr2_1 : w2.cell? ⟨w.heap.size, 1, none⟩ = some (.int .i64 y_aB) := (hb2.cell (p := ⟨w.heap.size, 1, none⟩) (by first | (simp; done) | (simp; omega) | omega)).trans (by first | assumption | (go_split_ands; assumption)); have o_sp0_2 := own_later o_sp0_1 hb2 (Nat.le_refl _)
  refine hK.out _ _ ?_ (fun hHeld => ?_)
  · ((try dsimp only); (repeat' apply And.intro); all_goals ((repeat (first | (with_reducible refine cell_drew ?_) | (with_reducible refine cell_drewN _ ?_) | ((with_reducible refine cell_alloc ?_ ?_); · first | omega | (simp; done) | (simp; omega) | assumption) | ((with_reducible refine cell_set ?_ ?_); · first | (intro e; injection e; omega) | (intro e; simp at e; done) | (intro e; simp at e; omega)))); first | assumption | (simp; done)))
  clear hK K
  (try simp only [Act.put, List.setIfInBounds_toArray, List.set_cons_zero, List.set_cons_succ])
  refine wpAnyH_ready (rs := [4]) (by kernel_rfl) (by simp) ?_
  refine AllReadyH.cons rfl (fun K hK => ?_) AllReadyH.nil
  go_simp
  go_at_call 33; refine (sRichestPart_any _ _ _ l_aNuts _ _ _ (Rd.of_own o_sp0_2) ).mono ?_; rintro e w3 ⟨rfl, hb3⟩; have s3 := hb3.size; have zr3_0 : w.heap.size < w3.heap.size := (by first | omega | (simp at s3; omega)); have cr3_0 : w3.cell? ⟨w.heap.size, 0, none⟩ = some (.int .i64 x_aB) := (hb3.cell (p := ⟨w.heap.size, 0, none⟩) (by first | (simp; done) | (simp; omega) | omega)).trans (by first | assumption | (go_split_ands; assumption)); have cr3_1 : w3.cell? ⟨w.heap.size, 1, none⟩ = some (.int .i64 y_aB) := (hb3.cell (p := ⟨w.heap.size, 1, none⟩) (by first | (simp; done) | (simp; omega) | omega)).trans (by first | assumption | (go_split_ands; assumption)); have o_sp0_3 := own_later o_sp0_2 hb3 (Nat.le_refl _)
  refine hK.out _ _ ?_ (fun hHeld => ?_)
  · ((try dsimp only); (repeat' apply And.intro); all_goals ((repeat (first | (with_reducible refine cell_drew ?_) | (with_reducible refine cell_drewN _ ?_) | ((with_reducible refine cell_alloc ?_ ?_); · first | omega | (simp; done) | (simp; omega) | assumption) | ((with_reducible refine cell_set ?_ ?_); · first | (intro e; injection e; omega) | (intro e; simp at e; done) | (intro e; simp at e; omega)))); first | assumption | (simp; done)))
  clear hK K
  (try simp only [Act.put, List.setIfInBounds_toArray, List.set_cons_zero, List.set_cons_succ])
  refine reg_on (i := 5) (d := 20) (v := ?rv6) rfl rfl (by kernel_rfl) (by kernel_rfl) (by kernel_rfl) (fun _ _ _ h => h) (by rfl) ?ry6 (by assumption) ?rr6
  case ry6 => (intro wz hSw; (try dsimp only at hSw); go_simp; try with_reducible rfl)
  (try simp only [Act.put, List.setIfInBounds_toArray, List.set_cons_zero, List.set_cons_succ])
  refine reg_on (i := 6) (d := 26) (v := ?rv7) rfl rfl (by kernel_rfl) (by kernel_rfl) (by kernel_rfl) (fun _ _ _ h => h) (by rfl) ?ry7 (by assumption) ?rr7
  case ry7 => (intro wz hSw; (try dsimp only at hSw); go_simp; try with_reducible rfl)
  (try simp only [Act.put, List.setIfInBounds_toArray, List.set_cons_zero, List.set_cons_succ])
  refine reg_on (i := 7) (d := 27) (v := ?rv8) rfl rfl (by kernel_rfl) (by kernel_rfl) (by kernel_rfl) (fun _ _ _ h => h) (by rfl) ?ry8 (by assumption) ?rr8
  case ry8 => (intro wz hSw; (try dsimp only at hSw); go_simp; try with_reducible rfl)
  (try simp only [Act.put, List.setIfInBounds_toArray, List.set_cons_zero, List.set_cons_succ])
  refine reg_on (i := 8) (d := 28) (v := ?rv9) rfl rfl (by kernel_rfl) (by kernel_rfl) (by kernel_rfl) (fun _ _ _ h => h) (by rfl) ?ry9 (by assumption) ?rr9
  case ry9 => (intro wz hSw; (try dsimp only at hSw); go_simp; try with_reducible rfl)
  (try simp only [Act.put, List.setIfInBounds_toArray, List.set_cons_zero, List.set_cons_succ])
  refine reg_on (i := 9) (d := 29) (v := ?rv10) rfl rfl (by kernel_rfl) (by kernel_rfl) (by kernel_rfl) (fun _ _ _ h => h) (by rfl) ?ry10 (by assumption) ?rr10
  case ry10 => (intro wz hSw; (try dsimp only at hSw); go_simp; try with_reducible rfl)
  (try simp only [Act.put, List.setIfInBounds_toArray, List.set_cons_zero, List.set_cons_succ])
  refine reg_on (i := 10) (d := 6) (v := ?rv11) rfl rfl (by kernel_rfl) (by kernel_rfl) (by kernel_rfl) (fun _ _ _ h => h) (by rfl) ?ry11 (by assumption) ?rr11
  case ry11 => (intro wz hSw; (try dsimp only at hSw); go_simp; try with_reducible rfl)
  (try simp only [Act.put, List.setIfInBounds_toArray, List.set_cons_zero, List.set_cons_succ])
  refine reg_on (i := 11) (d := 7) (v := ?rv12) rfl rfl (by kernel_rfl) (by kernel_rfl) (by kernel_rfl) (fun _ _ _ h => h) (by rfl) ?ry12 (by assumption) ?rr12
  case ry12 => (intro wz hSw; (try dsimp only at hSw); go_simp; try with_reducible rfl)
  (try simp only [Act.put, List.setIfInBounds_toArray, List.set_cons_zero, List.set_cons_succ])
  refine reg_on (i := 12) (d := 8) (v := ?rv13) rfl rfl (by kernel_rfl) (by kernel_rfl) (by kernel_rfl) (fun _ _ _ h => h) (by rfl) ?ry13 (by assumption) ?rr13
  case ry13 => (intro wz hSw; (try dsimp only at hSw); go_simp; try with_reducible rfl)
  (try simp only [Act.put, List.setIfInBounds_toArray, List.set_cons_zero, List.set_cons_succ])
  refine reg_on (i := 13) (d := 9) (v := ?rv14) rfl rfl (by kernel_rfl) (by kernel_rfl) (by kernel_rfl) (fun _ _ _ h => h) (by rfl) ?ry14 (by assumption) ?rr14
  case ry14 => (intro wz hSw; (try dsimp only at hSw); go_simp; try with_reducible rfl)
  (try simp only [Act.put, List.setIfInBounds_toArray, List.set_cons_zero, List.set_cons_succ])
  refine wpAnyH_done (by kernel_rfl) ?_ _
  have bwd := bw0.drew
  have bw1 : Below w.heap.size w w1 := bcall bwd.size hb1 bwd
  have q1 := bw1.size
  have bw2 : Below w.heap.size w w2 := bcall bw1.size hb2 bw1
  have q2 := bw2.size
  have bw3 : Below w.heap.size w w3 := bcall bw2.size hb3 bw2
  have q3 := bw3.size
  obtain ⟨hc3, hf3⟩ := bcell hb3
  have lt_sp0 := Lib.hid (fun g (h : (Value.slice (some ⟨g_sp0, 0, none⟩) n_aNuts n_aNuts).ownBlock = some g) => o_sp0_3.lt g h)
  go_wp2_with fail
  refine (toStringS_any _ _ _ l_aNuts _ (rd_aNuts.later bw3 (Nat.le_refl _)) hn2_aNuts).mono ?_; rintro e w4 ⟨g_x0, rfl, o_x0_4, hb4⟩; have s4 := hb4.size
  have bw4 : Below w.heap.size w w4 := bcall bw3.size hb4 bw3
  have q4 := bw4.size
  obtain ⟨hc4, hf4⟩ := bcell hb4
  have z4_0 : w.heap.size < w4.heap.size := by have := s4; first | omega | (simp at this; omega)
  have o_sp0_4 := own_later o_sp0_3 hb4 (Nat.le_refl _)
  have lt_x0 := Lib.hid (fun g (h : (Value.slice (some ⟨g_x0, 0, none⟩) n_aNuts n_aNuts).ownBlock = some g) => o_x0_4.lt g h)
  go_wp2_with fail
  refine (toBar_any _ _ _).mono ?_; rintro e w5 ⟨rfl, hb5⟩; have s5 := hb5.size
  have bw5 : Below w.heap.size w w5 := bcall bw4.size hb5 bw4
  have q5 := bw5.size
  obtain ⟨hc5, hf5⟩ := bcell hb5
  have z5_0 : w.heap.size < w5.heap.size := by have := s5; first | omega | (simp at this; omega)
  have o_sp0_5 := own_later o_sp0_4 hb5 (Nat.le_refl _)
  have o_x0_5 := own_later o_x0_4 hb5 (Nat.le_refl _)
  go_wp2_with fail
  refine (richestPart_any _ _ _ l_aNuts _ _ _ (Rd.of_own o_x0_5) ).mono ?_; rintro e w6 ⟨rfl, hb6⟩; have s6 := hb6.size
  have bw6 : Below w.heap.size w w6 := bcall bw5.size hb6 bw5
  have q6 := bw6.size
  obtain ⟨hc6, hf6⟩ := bcell hb6
  have z6_0 : w.heap.size < w6.heap.size := by have := s6; first | omega | (simp at this; omega)
  have o_sp0_6 := own_later o_sp0_5 hb6 (Nat.le_refl _)
  have o_x0_6 := own_later o_x0_5 hb6 (Nat.le_refl _)
  go_wp2_with fail
  refine (toStringS_any _ _ _ l_aNuts _ (rd_aNuts.later bw6 (Nat.le_refl _)) hn2_aNuts).mono ?_; rintro e w7 ⟨g_cy6, rfl, o_cy6_7, hb7⟩; have s7 := hb7.size
  have bw7 : Below w.heap.size w w7 := bcall bw6.size hb7 bw6
  have q7 := bw7.size
  obtain ⟨hc7, hf7⟩ := bcell hb7
  have z7_0 : w.heap.size < w7.heap.size := by have := s7; first | omega | (simp at this; omega)
  have o_sp0_7 := own_later o_sp0_6 hb7 (Nat.le_refl _)
  have o_x0_7 := own_later o_x0_6 hb7 (Nat.le_refl _)
  have lt_cy6 := Lib.hid (fun g (h : (Value.slice (some ⟨g_cy6, 0, none⟩) n_aNuts n_aNuts).ownBlock = some g) => o_cy6_7.lt g h)
  go_wp2_with fail
  refine (eqStringS_same _ _ _ _ _ _ _ _ (Rd.of_own o_x0_7) (Rd.of_own o_cy6_7) (by omega) (by omega)).mono ?_; rintro e w8 ⟨rfl, hb8⟩; have s8 := hb8.size
  have bw8 : Below w.heap.size w w8 := bcall bw7.size hb8 bw7
  have q8 := bw8.size
  obtain ⟨hc8, hf8⟩ := bcell hb8
  have z8_0 : w.heap.size < w8.heap.size := by have := s8; first | omega | (simp at this; omega)
  have o_sp0_8 := own_later o_sp0_7 hb8 (Nat.le_refl _)
  have o_x0_8 := own_later o_x0_7 hb8 (Nat.le_refl _)
  have o_cy6_8 := own_later o_cy6_7 hb8 (Nat.le_refl _)
  go_wp2
  go_ret
  exact ⟨rfl, bw8⟩

theorem own : ownKnob Try.prog.godebug = none := by kernel_rfl
theorem laidOut : laidOutB Try.prog = true := by kernel_rfl

set_option maxRecDepth 100000 in
theorem lifted (os : Os) (started : os.Started) (H : Type) (enc : TypeId × Value → H) :
    ReturnsInHanded {} Try.checked os 8 .any (Rows.fnExactRichestPartSpec.pre6 enc Try.prog Try.f8 Rows.fnExactRichestPartRow.domain false) (Rows.fnExactRichestPartSpec.post enc Try.prog Try.f8 false true false false) := by
  refine returnsInHanded_of_change (C := Try.checked) own started (by kernel_rfl) Try.func8
    (ChangeSpec.witness6 (enc := enc) (C := Try.checked) false ⟨#[], #[.slice none 0 0, .agg #[.int .i64 0, .int .i64 0]], []⟩ 8 (by kernel_rfl) (by kernel_rfl) (by kernel_rfl) (by kernel_rfl)) ?_
  intro W base args ds gs before hval0 hW hcnd _
  have hval : ∀ (j : Nat) t v, Try.f8.params[j]? = some t → args[j]? = some v → Value.okWide Try.prog W .any base t v := hval0
  have hW' := hW
  obtain ⟨p, q, hA0, hV, rfl, hfz, hnd⟩ := hW
  have hA : DataW.TrodAll enc Try.prog W 0 (fun _ => true) true Try.f8.params.toList args.toList ds p := hA0
  rw [Try.params8] at hA hval
  obtain ⟨v0, vs0, d0, ds0, p0, q0, hargs, rfl, rfl, h0, r0⟩ := trodAll_cons hA
  obtain ⟨v1, vs1, d1, ds1, p1, q1, rfl, rfl, rfl, h1, r1⟩ := trodAll_cons r0
  obtain ⟨rfl, rfl, rfl⟩ := trodAll_nil r1
  obtain rfl : args = #[v0, v1] := by cases args; simp_all
  obtain ⟨rfl, rfl⟩ := trodVars_none hV
  obtain ⟨A0, n0, c0, rfl⟩ := okWide_slice Try.underlying22 (hval 0 22 v0 rfl rfl)
  have k0 := h0
  have lt0 : ∀ x ∈ p0, x.block < W.heap.size := by obtain ⟨m, hm⟩ := k0; exact DataW.trod_lt m _ _ _ hm
  obtain ⟨xs0, rd0, sz0, hl0⟩ := open_strL Try.underlying22 Try.underlying9 (show Try.prog.cellsOf 9 = 1 by kernel_rfl) h0
  have k1 := h1
  have lt1 : ∀ x ∈ p1, x.block < W.heap.size := by obtain ⟨m, hm⟩ := k1; exact DataW.trod_lt m _ _ _ hm
  obtain ⟨c1_0, c1_1, y1_0, y1_1, m1, rfl, rfl, rfl, e1_0, e1_1⟩ := open_agg2 Try.underlying35 (by kernel_rfl) (show Try.prog.cellsOf 35 = 2 by kernel_rfl) (hval 1 35 v1 rfl rfl) h1
  obtain ⟨a1_0, q1_0, rfl, w1_0⟩ := DataW.trod_int Try.underlying3 e1_0
  obtain ⟨a1_1, q1_1, rfl, w1_1⟩ := DataW.trod_int Try.underlying3 e1_1
  simp at q1_0 q1_1
  subst q1_0 q1_1
  clear hA0 hval0
  refine (walk A0 n0 c0 xs0 a1_0 a1_1 W rd0 sz0 hl0 w1_0 w1_1).mono fun e W' ⟨he, bel⟩ => ?_
  subst he
  exact ⟨_, rfl, _, _, _, [], _, [], hW', trodAll_mk1 (shut_bool Try.underlying4 _), (trodAll_cons_mk (Below.trod laidOut (by kernel_rfl) (of_decide_eq_true (by kernel_rfl)) k0 bel lt0) (trodAll_cons_mk (Below.trod laidOut (by kernel_rfl) (of_decide_eq_true (by kernel_rfl)) k1 bel lt1) trodAll_mk0)), rfl, bel.frame _, fun h => by cases h⟩

theorem proved : Rows.FnExactRichestPartSaid :=
  OpenClaim.holds_of_wide 8 Try.f8 rfl rfl rfl rfl rfl rfl rfl ⟨rfl, rfl, rfl, rfl, rfl⟩ rfl rfl rfl rfl rfl (by kernel_rfl) Try.func8 (by kernel_rfl)
    (of_decide_eq_true (by kernel_rfl)) (by unfold Func.isWrapper; first | (rw [if_pos (by decide +kernel)]; kernel_rfl) | (rw [if_neg (by decide +kernel)]; exact ⟨rfl, rfl⟩))
    (fun os started H enc _ => lifted os started H enc)

#print axioms proved
end Go.Proofs.Ytbjjpndhfgfedaa.lawRichestPart
