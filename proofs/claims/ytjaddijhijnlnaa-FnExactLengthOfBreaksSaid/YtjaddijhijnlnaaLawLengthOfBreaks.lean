/-
  Proved: for every bar and list of breaks the law's calls of LengthOfBreaks answer as the model does and leave the arguments alone. Conditions: none.
-/
import Derived.Test.YtjaddijhijnlnaaLengths
import Derived.Test.YtjaddijhijnlnaaBrk
import Derived.Test.YtjaddijhijnlnaaOpen
namespace Go.Proofs.Ytjaddijhijnlnaa.lawLengthOfBreaks
open Go.ChangeShapes Go.WideShapes Go.ChangeAt Go.RowKit Go.Joins Go.Deep
set_option linter.unusedVariables false

set_option maxHeartbeats 2000000 in
theorem walk (x y : Int) (A : Option Addr) (n c : Nat) (xs : List (Int × Bool × Int)) (w : World) (wx : (Lit.int .i64 x).wf = true) (wy : (Lit.int .i64 y).wf = true) (rd : Rd w 3 A n (tripCells xs)) (hn : n ≤ maxLen) :
    Calls Try.prog 10 #[bar2 x y, .slice A n c] w fun e w' => e = .returned (.bool true) ∧ Below w.heap.size w w' := by
  clear wx wy
  unfold maxLen at hn
  by_cases hs : n ≤ 1048576
  · have r0 := rd.alloc (.cells #[.int .i64 x, .int .i64 y] 50)
    have hB0 : Below w.heap.size w (w.alloc (.cells #[.int .i64 x, .int .i64 y] 50)) := by (repeat (first | (with_reducible exact Below.refl _ _) | (with_reducible assumption) | (with_reducible refine Below.drew ?_) | ((with_reducible refine balloc ?_ _ ?_); · (first | (simp; done) | (simp; omega) | omega)) | ((with_reducible refine bset ?_ _ ?_); · (first | (simp; done) | (simp; omega) | omega)) | (with_reducible refine bdrewN _ ?_) | ((with_reducible refine bcall ?_ (by assumption) ?_); · (first | (simp; done) | (simp; omega) | omega))))
    go_enter Try.func10, Try.ntmps10
    go_wp2_with fail
    refine (szBreakS_any _ _ _ _ (by omega)).mono ?_; rintro e w0 ⟨rfl, rfl⟩
    rw [if_pos hs]
    go_wp2_with fail
    refine (toBar_any _ _ _).mono ?_; rintro e w1 ⟨rfl, hb1⟩; have s1 := hb1.size; obtain ⟨hc1, hf1⟩ := bcell hb1; have z1_w0 : w.heap.size < w1.heap.size := (by have q := s1; first | omega | (simp at q; omega))
    have r1 := r0.later hb1 (Nat.le_refl _)
    go_wp2_with fail
    refine (toBreakS_any _ _ _ xs _ r1 hs).mono ?_; rintro e w2 ⟨g2, rfl, own2, hb2⟩; have s2 := hb2.size; obtain ⟨hc2, hf2⟩ := bcell hb2
    have z2_w0 : w.heap.size < w2.heap.size := by omega
    go_wp2_with fail
    refine (sLengthOf_any _ _ _ _ _ xs _ (Rd.of_own own2) hs).mono ?_; rintro e w3 ⟨rfl, hb3⟩; have s3 := hb3.size; obtain ⟨hc3, hf3⟩ := bcell hb3
    have z3_w0 : w.heap.size < w3.heap.size := by omega
    have r3 := (r1.later hb2 (Nat.le_refl _)).later hb3 (Nat.le_refl _)
    go_wp2_with fail
    refine (toBreakS_any _ _ _ xs _ r3 hs).mono ?_; rintro e w4 ⟨g4, rfl, own4, hb4⟩; have s4 := hb4.size; obtain ⟨hc4, hf4⟩ := bcell hb4
    have z4_w0 : w.heap.size < w4.heap.size := by omega
    go_wp2_with fail
    refine (toBar_any _ _ _).mono ?_; rintro e w5 ⟨rfl, hb5⟩; have s5 := hb5.size; obtain ⟨hc5, hf5⟩ := bcell hb5; have z5_w0 : w.heap.size < w5.heap.size := (by have q := s5; first | omega | (simp at q; omega))
    have own5 := own_later own4 hb5 (Nat.le_refl _)
    go_wp2_with fail
    refine (lengthOf_any _ _ _ _ _ xs _ (Rd.of_own own5) hs).mono ?_; rintro e w6 ⟨rfl, hb6⟩; have s6 := hb6.size; obtain ⟨hc6, hf6⟩ := bcell hb6
    have z6_w0 : w.heap.size < w6.heap.size := by omega
    have r6 := ((r3.later hb4 (Nat.le_refl _)).later hb5 (Nat.le_refl _)).later hb6 (Nat.le_refl _)
    have own6 := own_later own5 hb6 (Nat.le_refl _)
    go_wp2_with fail
    refine (toBreakS_any _ _ _ xs _ r6 hs).mono ?_; rintro e w7 ⟨g7, rfl, own7, hb7⟩; have s7 := hb7.size; obtain ⟨hc7, hf7⟩ := bcell hb7
    have own8 := own_later own6 hb7 (Nat.le_refl _)
    go_wp2_with fail
    refine (eqBreakS_any _ _ _ _ _ _ xs xs _ (Rd.of_own own8) (Rd.of_own own7) (by omega) (by omega)).mono ?_; rintro e w8 ⟨rfl, hb8⟩
    have t8 : decide (xs = xs) = true := by simp
    go_wp2
    go_ret
    exact ⟨rfl, bcall (by omega) hb8 (bcall (by omega) hb7 (bcall (by omega) hb6 (bcall (by omega) hb5 (bcall (by omega) hb4 (bcall (by omega) hb3 (bcall (by omega) hb2 (bcall (by simp) hb1 hB0)))))))⟩
  · go_enter Try.func10, Try.ntmps10
    go_wp2_with fail
    refine (szBreakS_any _ _ _ _ (by omega)).mono ?_; rintro e w0 ⟨rfl, rfl⟩
    rw [if_neg hs]
    go_wp2
    go_ret
    exact ⟨rfl, by (repeat (first | (with_reducible exact Below.refl _ _) | (with_reducible assumption) | (with_reducible refine Below.drew ?_) | ((with_reducible refine balloc ?_ _ ?_); · (first | (simp; done) | (simp; omega) | omega)) | ((with_reducible refine bset ?_ _ ?_); · (first | (simp; done) | (simp; omega) | omega)) | (with_reducible refine bdrewN _ ?_) | ((with_reducible refine bcall ?_ (by assumption) ?_); · (first | (simp; done) | (simp; omega) | omega))))⟩

theorem own : ownKnob Try.prog.godebug = none := by kernel_rfl
theorem laidOut : laidOutB Try.prog = true := by kernel_rfl

set_option maxRecDepth 100000 in
theorem lifted (os : Os) (started : os.Started) (H : Type) (enc : TypeId × Value → H) :
    ReturnsInHanded {} Try.checked os 10 .any (Rows.fnExactLengthOfBreaksSpec.pre6 enc Try.prog Try.f10 Rows.fnExactLengthOfBreaksRow.domain false) (Rows.fnExactLengthOfBreaksSpec.post enc Try.prog Try.f10 false true false false) := by
  refine returnsInHanded_of_change (C := Try.checked) own started (by kernel_rfl) Try.func10
    (ChangeSpec.witness6 (enc := enc) (C := Try.checked) false ⟨#[], #[.agg #[.int .i64 0, .int .i64 0], .slice none 0 0], []⟩ 8 (by kernel_rfl) (by kernel_rfl) (by kernel_rfl) (by kernel_rfl)) ?_
  intro W base args ds gs before hval0 hW hcnd _
  have hval : ∀ (j : Nat) t v, Try.f10.params[j]? = some t → args[j]? = some v → Value.okWide Try.prog W .any base t v := hval0
  have hW' := hW
  obtain ⟨p, q, hA0, hV, rfl, hfz, hnd⟩ := hW
  have hA : DataW.TrodAll enc Try.prog W 0 (fun _ => true) true Try.f10.params.toList args.toList ds p := hA0
  rw [Try.params10] at hA hval
  obtain ⟨v0, vs0, d0, ds0, p0, q0, hargs, rfl, rfl, h0, r0⟩ := trodAll_cons hA
  obtain ⟨v1, vs1, d1, ds1, p1, q1, rfl, rfl, rfl, h1, r1⟩ := trodAll_cons r0
  obtain ⟨rfl, rfl, rfl⟩ := trodAll_nil r1
  obtain rfl : args = #[v0, v1] := by cases args; simp_all
  obtain ⟨rfl, rfl⟩ := trodVars_none hV
  have k0 := h0
  have lt0 : ∀ x ∈ p0, x.block < W.heap.size := by obtain ⟨m, hm⟩ := k0; exact DataW.trod_lt m _ _ _ hm
  obtain ⟨c0_0, c0_1, y0_0, y0_1, m0, rfl, rfl, rfl, e0_0, e0_1⟩ := open_agg2 Try.underlying50 (by kernel_rfl) (show Try.prog.cellsOf 50 = 2 by kernel_rfl) (hval 0 50 v0 rfl rfl) h0
  obtain ⟨a0_0, q0_0, rfl, w0_0⟩ := DataW.trod_int Try.underlying3 e0_0
  obtain ⟨a0_1, q0_1, rfl, w0_1⟩ := DataW.trod_int Try.underlying3 e0_1
  simp at q0_0 q0_1
  subst q0_0 q0_1
  obtain ⟨A1, n1, c1, rfl⟩ := okWide_slice Try.underlying55 (hval 1 55 v1 rfl rfl)
  have k1 := h1
  have lt1 : ∀ x ∈ p1, x.block < W.heap.size := by obtain ⟨m, hm⟩ := k1; exact DataW.trod_lt m _ _ _ hm
  obtain ⟨xs1, rd1⟩ := open_trips Try.underlying55 Try.underlying57 (show Try.prog.cellsOf 57 = 3 by kernel_rfl) rfl rfl rfl rfl rfl rfl Try.underlying3 Try.underlying4 (show Try.prog.cellsOf 3 = 1 by kernel_rfl) (show Try.prog.cellsOf 4 = 1 by kernel_rfl) h1
  have hl1 : n1 ≤ maxLen := by
    obtain ⟨fuel, hf⟩ := h1
    rcases open_slice Try.underlying55 hf with ⟨hcs, _⟩ | ⟨_, _, _, _, _, _, _, hcs, _, q1, q2, _⟩
    · simp [Value.cells] at hcs
      obtain ⟨_, rfl, _⟩ := hcs
      exact Nat.zero_le _
    · simp [Value.cells] at hcs
      obtain ⟨_, rfl, rfl⟩ := hcs
      omega
  clear hA0 hval0
  refine (walk a0_0 a0_1 A1 n1 c1 xs1 W w0_0 w0_1 rd1 hl1).mono fun e W' ⟨he, bel⟩ => ?_
  subst he
  exact ⟨_, rfl, _, _, _, [], _, [], hW', trodAll_mk1 (shut_bool Try.underlying4 _), (trodAll_cons_mk (Below.trod laidOut (by kernel_rfl) (of_decide_eq_true (by kernel_rfl)) k0 bel lt0) (trodAll_cons_mk (Below.trod laidOut (by kernel_rfl) (of_decide_eq_true (by kernel_rfl)) k1 bel lt1) trodAll_mk0)), rfl, bel.frame _, fun h => by cases h⟩

theorem proved : Rows.FnExactLengthOfBreaksSaid :=
  OpenClaim.holds_of_wide 10 Try.f10 rfl rfl rfl rfl rfl rfl rfl ⟨rfl, rfl, rfl, rfl, rfl⟩ rfl rfl rfl rfl rfl (by kernel_rfl) Try.func10 (by kernel_rfl)
    (of_decide_eq_true (by kernel_rfl)) (by unfold Func.isWrapper; first | (rw [if_pos (by decide +kernel)]; kernel_rfl) | (rw [if_neg (by decide +kernel)]; exact ⟨rfl, rfl⟩))
    (fun os started H enc _ => lifted os started H enc)

#print axioms proved
end Go.Proofs.Ytjaddijhijnlnaa.lawLengthOfBreaks
