/-
  Proved: for every bar and list of breaks the law's calls of PiecesAfter answer as the model does, in memory of their own, and leave the arguments alone. Conditions: none.
-/
import Derived.Test.YtjaddijhijnlnaaPieces
import Derived.Test.YtjaddijhijnlnaaEqBars
import Derived.Test.YtjaddijhijnlnaaBrk
import Derived.Test.YtjaddijhijnlnaaOpen
namespace Go.Proofs.Ytjaddijhijnlnaa.lawPiecesAfter
open Go.ChangeShapes Go.WideShapes Go.ChangeAt Go.RowKit Go.Joins Go.Deep
set_option linter.unusedVariables false

theorem len_le (x y : Int) (xs : List (Int × Bool × Int)) (n : Nat) {w : World} {B c : Nat} {A : Option Addr} (ho : w.ownsRow B 25 2 (.slice A n c) n (pairCells ((mbR x y xs).getD ([], 0)).1)) (hs : xs.length ≤ 1048576) : n ≤ 2000000 := by
  have h := ho.1
  rw [length_pairCells] at h
  cases hM : mbR x y xs
  · rw [hM] at h; simp at h; omega
  · rw [hM] at h
    have := mbR_len hM
    simp at h; omega

set_option maxHeartbeats 4000000 in
theorem walk (x y : Int) (A : Option Addr) (n c : Nat) (xs : List (Int × Bool × Int)) (w : World) (wx : (Lit.int .i64 x).wf = true) (wy : (Lit.int .i64 y).wf = true) (rd : Rd w 3 A n (tripCells xs)) (hn : n ≤ maxLen) :
    Calls Try.prog 9 #[bar2 x y, .slice A n c] w fun e w' => e = .returned (.bool true) ∧ Below w.heap.size w w' := by
  clear wx wy
  unfold maxLen at hn
  have hxl : xs.length = n := by have := rd.1; rw [length_tripCells] at this; omega
  by_cases hs : n ≤ 1048576
  · have hxs : xs.length ≤ 1048576 := by omega
    have HXL := Lib.hid hxl
    clear hxl
    have r0 := rd.alloc (.cells #[.int .i64 x, .int .i64 y] 50)
    have hB0 : Below w.heap.size w (w.alloc (.cells #[.int .i64 x, .int .i64 y] 50)) := by (repeat (first | (with_reducible exact Below.refl _ _) | (with_reducible assumption) | (with_reducible refine Below.drew ?_) | ((with_reducible refine balloc ?_ _ ?_); · (first | (simp; done) | (simp; omega) | omega)) | ((with_reducible refine bset ?_ _ ?_); · (first | (simp; done) | (simp; omega) | omega)) | (with_reducible refine bdrewN _ ?_) | ((with_reducible refine bcall ?_ (by assumption) ?_); · (first | (simp; done) | (simp; omega) | omega))))
    go_enter Try.func9, Try.ntmps9
    go_wp2_with fail
    refine (szBreakS_any _ _ _ _ (by omega)).mono ?_; rintro e w0 ⟨rfl, rfl⟩
    rw [if_pos hs]
    go_wp2_with fail
    refine (toBar_any _ _ _).mono ?_; rintro e w1 ⟨rfl, hb1⟩; have s1 := hb1.size; obtain ⟨hc1, hf1⟩ := bcell hb1; have z1_w0 : w.heap.size < w1.heap.size := (by have q := s1; first | omega | (simp at q; omega))
    have r1 := r0.later hb1 (Nat.le_refl _)
    go_wp2_with fail
    refine (toBreakS_any _ _ _ xs _ r1 hs).mono ?_; rintro e w2 ⟨g2, rfl, own2, hb2⟩; have s2 := hb2.size; obtain ⟨hc2, hf2⟩ := bcell hb2
    have z2_w0 : w.heap.size < w2.heap.size := by omega
    go_wp2_with fail
    refine (sPiecesAfter_any _ _ _ _ _ xs _ (Rd.of_own own2) hs).mono ?_; rintro e w3 ⟨A3, n3, c3, rfl, own3, hb3⟩; have s3 := hb3.size; obtain ⟨hc3, hf3⟩ := bcell hb3
    have z3_w0 : w.heap.size < w3.heap.size := by omega
    have r3 := (r1.later hb2 (Nat.le_refl _)).later hb3 (Nat.le_refl _)
    have l3 := len_le x y xs n3 own3 hxs
    go_wp2_with fail
    refine (toBreakS_any _ _ _ xs _ r3 hs).mono ?_; rintro e w4 ⟨g4, rfl, own4, hb4⟩; have s4 := hb4.size; obtain ⟨hc4, hf4⟩ := bcell hb4
    have z4_w0 : w.heap.size < w4.heap.size := by omega
    go_wp2_with fail
    refine (toBar_any _ _ _).mono ?_; rintro e w5 ⟨rfl, hb5⟩; have s5 := hb5.size; obtain ⟨hc5, hf5⟩ := bcell hb5; have z5_w0 : w.heap.size < w5.heap.size := (by have q := s5; first | omega | (simp at q; omega))
    have own5 := own_later own4 hb5 (Nat.le_refl _)
    go_wp2_with fail
    refine (piecesAfter_any _ _ _ _ _ xs _ (Rd.of_own own5) hs).mono ?_; rintro e w6 ⟨A6, n6, c6, rfl, own6, hb6⟩; have s6 := hb6.size; obtain ⟨hc6, hf6⟩ := bcell hb6
    have z6_w0 : w.heap.size < w6.heap.size := by omega
    have l6 := len_le x y xs n6 own6 hxs
    have r6 := ((r3.later hb4 (Nat.le_refl _)).later hb5 (Nat.le_refl _)).later hb6 (Nat.le_refl _)
    have b36 : Below w3.heap.size w3 w6 := bcall (by omega) hb6 (bcall (by omega) hb5 hb4)
    have ow36 := own_later own3 b36 (Nat.le_refl _)
    go_wp2_with fail
    refine (eqBarS_any _ _ _ _ _ _ _ _ _ (Rd.of_own own6) (Rd.of_own ow36) (by omega) (by omega)).mono ?_; rintro e w7 ⟨rfl, hb7⟩; have s7 := hb7.size; obtain ⟨hc7, hf7⟩ := bcell hb7
    have tt : ∀ L : List (Int × Int), decide (L = L) = true := by simp
    have z7_w0 : w.heap.size < w7.heap.size := by omega
    have r7 := r6.later hb7 (Nat.le_refl _)
    have own47 := own_later (own_later own5 hb6 (Nat.le_refl _)) hb7 (Nat.le_refl _)
    have own67 := own_later own6 hb7 (Nat.le_refl _)
    have b37 := b36.trans (hb7.mono b36.size)
    go_wp2_with fail
    refine (toBreakS_any _ _ _ xs _ r7 hs).mono ?_; rintro e w8 ⟨g8, rfl, own8, hb8⟩; have s8 := hb8.size; obtain ⟨hc8, hf8⟩ := bcell hb8
    have z8_w0 : w.heap.size < w8.heap.size := by omega
    have own48 := own_later own47 hb8 (Nat.le_refl _)
    go_wp2_with fail
    refine (eqBreakS_any _ _ _ _ _ _ xs xs _ (Rd.of_own own48) (Rd.of_own own8) (by omega) (by omega)).mono ?_; rintro e w9 ⟨rfl, hb9⟩; have s9 := hb9.size; obtain ⟨hc9, hf9⟩ := bcell hb9
    have t8 : decide (xs = xs) = true := by simp
    have z9_w0 : w.heap.size < w9.heap.size := by omega
    have own49 := own_later own48 hb9 (Nat.le_refl _)
    have own69 := own_later (own_later own67 hb8 (Nat.le_refl _)) hb9 (Nat.le_refl _)
    have b39 := (b37.trans (hb8.mono b37.size)).trans (hb9.mono (by omega))
    go_wp2_with fail
    refine (markBreakS_any _ _ _ _ _ _ _ own49 (by omega) (by omega) (by omega)).mono ?_; rintro e w10 ⟨rfl, hb10, hg10⟩; have s10 := hb10.size; obtain ⟨hc10, hf10⟩ := bcellB hb10
    have z10_w0 : w.heap.size < w10.heap.size := by omega
    have g4lt := own4.lt g4 rfl
    have own6x := own69.kept hg10 (by
      rcases hv : (Value.slice A6 n6 c6).ownBlock with _ | q
      · exact .inl rfl
      · refine .inr ?_
        have := (own6.lt q hv).1
        intro e
        have e2 : q = g4 := by simpa [Value.ownBlock] using e
        omega)
    have b310 := b39.trans hb10
    have own310 := own_later own3 b310 (Nat.le_refl _)
    have bw3 : Below w.heap.size w w3 := bcall (by omega) hb3 (bcall (by omega) hb2 (bcall (by simp) hb1 hB0))
    have bw10 : Below w.heap.size w w10 := bw3.trans (b310.mono (by omega))
    go_wp2_with fail
    refine (eqBarS_any _ _ _ _ _ _ _ _ _ (Rd.of_own own6x) (Rd.of_own own310) (by omega) (by omega)).mono ?_; rintro e w11 ⟨rfl, hb11⟩; have s11 := hb11.size; obtain ⟨hc11, hf11⟩ := bcell hb11
    have z11_w0 : w.heap.size < w11.heap.size := by omega
    go_wp2_with fail
    refine (markBarS_any _ _ _ _ _ _ _ (own_later own6x hb11 (Nat.le_refl _)) (by omega) (by omega) (by omega)).mono ?_; rintro e w12 ⟨rfl, own12, hb12⟩; have s12 := hb12.size; obtain ⟨hc12, hf12⟩ := bcellB hb12
    have z12_w0 : w.heap.size < w12.heap.size := by omega
    have zz5 : w.heap.size < w5.heap.size := by omega
    have b312 : Below w3.heap.size w3 w12 := (b310.trans (hb11.mono b310.size)).trans (hb12.mono (by omega))
    have bw12 : Below w.heap.size w w12 := bw3.trans (b312.mono (by omega))
    go_wp2_with fail
    refine (heldBarS_any _ _ _ _ _ (Rd.of_own own12) (by omega) (by omega) (by omega)).mono ?_; rintro e w12' ⟨rfl, rfl⟩
    go_wp2_with fail
    refine (toBar_any _ _ _).mono ?_; rintro e w13 ⟨rfl, hb13⟩; have s13 := hb13.size; obtain ⟨hc13, hf13⟩ := bcell hb13
    have z13_w0 : w.heap.size < w13.heap.size := by omega
    have r13 := (rd.later bw12 (Nat.le_refl _)).later hb13 (Nat.le_refl _)
    go_wp2_with fail
    refine (toBreakS_any _ _ _ xs _ r13 hs).mono ?_; rintro e w14 ⟨g14, rfl, own14, hb14⟩; have s14 := hb14.size; obtain ⟨hc14, hf14⟩ := bcell hb14
    have z14_w0 : w.heap.size < w14.heap.size := by omega
    go_wp2_with fail
    refine (piecesAfter_any _ _ _ _ _ xs _ (Rd.of_own own14) hs).mono ?_; rintro e w15 ⟨A15, n15, c15, rfl, own15, hb15⟩; have s15 := hb15.size; obtain ⟨hc15, hf15⟩ := bcell hb15
    have z15_w0 : w.heap.size < w15.heap.size := by omega
    have l15 := len_le x y xs n15 own15 hxs
    have b1215 : Below w12.heap.size w12 w15 := bcall (by omega) hb15 (bcall (by omega) hb14 hb13)
    have b315 : Below w3.heap.size w3 w15 := b312.trans (b1215.mono b312.size)
    go_wp2_with fail
    refine (eqBarS_any _ _ _ _ _ _ _ _ _ (Rd.of_own own15) (Rd.of_own (own_later own3 b315 (Nat.le_refl _))) (by omega) (by omega)).mono ?_; rintro e w16 ⟨rfl, hb16⟩; have s16 := hb16.size
    have b1216 : Below w12.heap.size w12 w16 := b1215.trans (hb16.mono b1215.size)
    go_wp2_with fail
    refine (heldBarS_any _ _ _ _ _ (Rd.of_own (own_later own12 b1216 (Nat.le_refl _))) (by omega) (by omega) (by omega)).mono ?_; rintro e w17 ⟨rfl, rfl⟩
    have fin : Below w.heap.size w w16 := bw12.trans (b1216.mono (by omega))
    go_wp2
    go_ret
    exact ⟨rfl, fin⟩
  · clear hxl
    go_enter Try.func9, Try.ntmps9
    go_wp2_with fail
    refine (szBreakS_any _ _ _ _ (by omega)).mono ?_; rintro e w0 ⟨rfl, rfl⟩
    rw [if_neg hs]
    go_wp2
    go_ret
    exact ⟨rfl, by (repeat (first | (with_reducible exact Below.refl _ _) | (with_reducible assumption) | (with_reducible refine Below.drew ?_) | ((with_reducible refine balloc ?_ _ ?_); · (first | (simp; done) | (simp; omega) | omega)) | ((with_reducible refine bset ?_ _ ?_); · (first | (simp; done) | (simp; omega) | omega)) | (with_reducible refine bdrewN _ ?_) | ((with_reducible refine bcall ?_ (by assumption) ?_); · (first | (simp; done) | (simp; omega) | omega))))⟩

theorem own : ownKnob Try.prog.godebug = none := by kernel_rfl
theorem laidOut : laidOutB Try.prog = true := by kernel_rfl

set_option maxRecDepth 100000 in
theorem lifted (os : Os) (started : os.Started) (H : Type) (enc : TypeId × Value → H) :
    ReturnsInHanded {} Try.checked os 9 .any (Rows.fnExactPiecesAfterSpec.pre6 enc Try.prog Try.f9 Rows.fnExactPiecesAfterRow.domain false) (Rows.fnExactPiecesAfterSpec.post enc Try.prog Try.f9 false true false false) := by
  refine returnsInHanded_of_change (C := Try.checked) own started (by kernel_rfl) Try.func9
    (ChangeSpec.witness6 (enc := enc) (C := Try.checked) false ⟨#[], #[.agg #[.int .i64 0, .int .i64 0], .slice none 0 0], []⟩ 8 (by kernel_rfl) (by kernel_rfl) (by kernel_rfl) (by kernel_rfl)) ?_
  intro W base args ds gs before hval0 hW hcnd _
  have hval : ∀ (j : Nat) t v, Try.f9.params[j]? = some t → args[j]? = some v → Value.okWide Try.prog W .any base t v := hval0
  have hW' := hW
  obtain ⟨p, q, hA0, hV, rfl, hfz, hnd⟩ := hW
  have hA : DataW.TrodAll enc Try.prog W 0 (fun _ => true) true Try.f9.params.toList args.toList ds p := hA0
  rw [Try.params9] at hA hval
  obtain ⟨v0, vs0, d0, ds0, p0, q0, hargs, rfl, rfl, h0, r0⟩ := trodAll_cons hA
  obtain ⟨v1, vs1, d1, ds1, p1, q1, rfl, rfl, rfl, h1, r1⟩ := trodAll_cons r0
  obtain ⟨rfl, rfl, rfl⟩ := trodAll_nil r1
  obtain rfl : args = #[v0, v1] := by cases args; simp_all
  obtain ⟨rfl, rfl⟩ := trodVars_none hV
  have k0 := h0
  have lt0 : ∀ x ∈ p0, x.block < W.heap.size := by obtain ⟨m, hm⟩ := k0; exact DataW.trod_lt m _ _ _ hm
  obtain ⟨c0_0, c0_1, y0_0, y0_1, m0, rfl, rfl, rfl, e0_0, e0_1⟩ := open_agg2 Try.underlying50 (by kernel_rfl) (show Try.prog.cellsOf 50 = 2 by kernel_rfl) (hval 0 50 v0 rfl rfl) h0
  obtain ⟨a0_0, q0_0, rfl, w0_0⟩ := DataW.trod_int Try.underlying3 e0_0
  obtain ⟨a0_1, q0_1, rfl, w0_1⟩ := DataW.trod_int Try.underlying3 e0_1
  simp at q0_0 q0_1
  subst q0_0 q0_1
  obtain ⟨A1, n1, c1, rfl⟩ := okWide_slice Try.underlying55 (hval 1 55 v1 rfl rfl)
  have k1 := h1
  have lt1 : ∀ x ∈ p1, x.block < W.heap.size := by obtain ⟨m, hm⟩ := k1; exact DataW.trod_lt m _ _ _ hm
  obtain ⟨xs1, rd1⟩ := open_trips Try.underlying55 Try.underlying57 (show Try.prog.cellsOf 57 = 3 by kernel_rfl) rfl rfl rfl rfl rfl rfl Try.underlying3 Try.underlying4 (show Try.prog.cellsOf 3 = 1 by kernel_rfl) (show Try.prog.cellsOf 4 = 1 by kernel_rfl) h1
  have hl1 : n1 ≤ maxLen := by
    obtain ⟨fuel, hf⟩ := h1
    rcases open_slice Try.underlying55 hf with ⟨hcs, _⟩ | ⟨_, _, _, _, _, _, _, hcs, _, q1, q2, _⟩
    · simp [Value.cells] at hcs
      obtain ⟨_, rfl, _⟩ := hcs
      exact Nat.zero_le _
    · simp [Value.cells] at hcs
      obtain ⟨_, rfl, rfl⟩ := hcs
      omega
  clear hA0 hval0
  refine (walk a0_0 a0_1 A1 n1 c1 xs1 W w0_0 w0_1 rd1 hl1).mono fun e W' ⟨he, bel⟩ => ?_
  subst he
  exact ⟨_, rfl, _, _, _, [], _, [], hW', trodAll_mk1 (shut_bool Try.underlying4 _), (trodAll_cons_mk (Below.trod laidOut (by kernel_rfl) (of_decide_eq_true (by kernel_rfl)) k0 bel lt0) (trodAll_cons_mk (Below.trod laidOut (by kernel_rfl) (of_decide_eq_true (by kernel_rfl)) k1 bel lt1) trodAll_mk0)), rfl, bel.frame _, fun h => by cases h⟩

theorem proved : Rows.FnExactPiecesAfterSaid :=
  OpenClaim.holds_of_wide 9 Try.f9 rfl rfl rfl rfl rfl rfl rfl ⟨rfl, rfl, rfl, rfl, rfl⟩ rfl rfl rfl rfl rfl (by kernel_rfl) Try.func9 (by kernel_rfl)
    (of_decide_eq_true (by kernel_rfl)) (by unfold Func.isWrapper; first | (rw [if_pos (by decide +kernel)]; kernel_rfl) | (rw [if_neg (by decide +kernel)]; exact ⟨rfl, rfl⟩))
    (fun os started H enc _ => lifted os started H enc)

#print axioms proved
end Go.Proofs.Ytjaddijhijnlnaa.lawPiecesAfter
