/-
  Contracts: the function that tells what a clue has to say (clueTeller, its closure), of the program. Conditions: none.
-/
import Derived.Test.YtghlgmbekgfmnaaSumF
import Derived.Test.YtghlgmbekgfmnaaPuzK
namespace Go.Proofs.Ytghlgmbekgfmnaa
open Go.RowKit Go.Maps
set_option linter.unusedVariables false
set_option linter.unusedSimpArgs false

/-- the function that tells, with the box that it captured -/
abbrev tellF (h0 : Nat) : Value := .func (.func 101) #[] #[.pointer (some ⟨h0, 0, none⟩)]
/-- its memory: blocks below N, of which K may change -/
def TM (K : Nat → Prop) (N : Nat) (w : World) (h0 : Nat) : Prop :=
  ∃ km q1 q2 q3 S, HM K w km q1 q2 q3 heapV grI S ∧ w.cell? ⟨h0, 0, none⟩ = some (numV q1 q2 q3) ∧ ¬ K h0 ∧ (km < N ∧ q1 < N ∧ q2 < N ∧ q3 < N ∧ h0 < N ∧ N ≤ w.heap.size) ∧ ∀ i, K i → i < N
theorem TM.below {K : Nat → Prop} {N h0 : Nat} {w w' : World} (h : TM K N w h0) {B : Nat} (hb : Below B w w') (hB : w.heap.size ≤ B) : TM K N w' h0 := by
  obtain ⟨km, q1, q2, q3, S, hm, hc, hk, hn, hi⟩ := h
  exact ⟨km, q1, q2, q3, S, hm.below hb hB, (hb.cell (Nat.lt_of_lt_of_le (World.block_lt_of_cell? w _ hc) hB)).trans hc, hk, ⟨hn.1, hn.2.1, hn.2.2.1, hn.2.2.2.1, hn.2.2.2.2.1, Nat.le_trans hn.2.2.2.2.2 hb.size⟩, hi⟩
theorem TM.grown {K : Nat → Prop} {N h0 : Nat} {w w' : World} {r : Option Nat} (h : TM K N w h0) (hg : w.grownBy w' r) (hr : ∀ q, r = some q → N ≤ q) : TM K N w' h0 := by
  obtain ⟨km, q1, q2, q3, S, hm, hc, hk, hn, hi⟩ := h
  refine ⟨km, q1, q2, q3, S, hm.grown hg (fun q e => by have := hr q e; omega), ?_, hk, ⟨hn.1, hn.2.1, hn.2.2.1, hn.2.2.2.1, hn.2.2.2.2.1, Nat.le_trans hn.2.2.2.2.2 hg.size⟩, hi⟩
  exact (World.cell?_of_block (hg.block h0 (World.block_lt_of_cell? w _ hc) (fun e => by have := hr h0 e.symm; omega))).trans hc
theorem TM.size {K : Nat → Prop} {N h0 : Nat} {w : World} (h : TM K N w h0) : N ≤ w.heap.size := by
  obtain ⟨km, q1, q2, q3, S, hm, hc, hk, hn, hi⟩ := h
  exact hn.2.2.2.2.2
theorem TM.kn {K : Nat → Prop} {N h0 : Nat} {w : World} (h : TM K N w h0) : ∀ i, K i → i < N := by
  obtain ⟨km, q1, q2, q3, S, hm, hc, hk, hn, hi⟩ := h
  exact hi

set_option maxRecDepth 100000 in
set_option maxHeartbeats 2000000 in
theorem clueTeller_any (w : World) :
    Calls Try.prog 72 #[] w fun e w' => ∃ (K : Nat → Prop) (h0 : Nat), e = .returned (tellF h0) ∧ TM K w'.heap.size w' h0 ∧ Below w.heap.size w w' ∧ ∀ i, K i → w.heap.size ≤ i := by
  have hmf : ∀ (fn : Fn) (first cap : Array Value) (w : World), (Instr.makeFunc fn first cap).run Try.prog w = .ok (.func fn first cap) w := fun _ _ _ _ => rfl
  have hst : ∀ (a : Addr) (fn : Fn) (x y : Array Value) (w : World), (store a (.func fn x y)).run Try.prog w = stored Try.prog w a (.func fn x y) .plain := fun a fn x y w => run_store Try.prog w a (.func fn x y) .plain rfl
  go_enter Try.func72, Try.ntmps72
  go_wp2_with fail
  refine (heapFinder_any _).mono ?_; rintro e w1 ⟨km, q1, q2, q3, rfl, hm1, hb1, hkm⟩
  have hlt1 := World.block_lt_of_cell? w1 _ hm1.c1
  have hlt2 := World.block_lt_of_cell? w1 _ hm1.c2
  have hlt3 := World.block_lt_of_cell? w1 _ hm1.c3
  have hlt0 := hm1.map.lt
  simp only at hlt1 hlt2 hlt3
  have s1 := hb1.size
  have hbA : ∀ o : Obj, Below w1.heap.size w1 (w1.alloc o) := fun o => (Below.refl _ _).alloc (Nat.le_refl _) o
  go_wp2
  go_ret
  refine ⟨fun i => i = km, w1.heap.size, rfl, ⟨km, q1, q2, q3, [], hm1.below (hbA _) (Nat.le_refl _), by simp [go_sem], by show ¬ _ = _; omega, ?_, fun i hi => by have e : i = km := hi; simp; omega⟩, by (repeat (first | (with_reducible exact Below.refl _ _) | (with_reducible assumption) | (with_reducible refine Below.drew ?_) | ((with_reducible refine balloc ?_ _ ?_); · (first | (simp; done) | (simp; omega) | omega)) | ((with_reducible refine bset ?_ _ ?_); · (first | (simp; done) | (simp; omega) | omega)) | (with_reducible refine bdrewN _ ?_) | ((with_reducible refine bcall ?_ (by assumption) ?_); · (first | (simp; done) | (simp; omega) | omega)))), fun i hi => by have e : i = km := hi; omega⟩
  simp
  omega

set_option maxRecDepth 100000 in
set_option maxHeartbeats 2000000 in
theorem tell_0 (K : Nat → Prop) (N h0 : Nat) (a b : Int) (l : List Int) (f : Nat → Int) (w : World) (hl : ChOK l) (hf : f = fl l) (hm : TM K N w h0) :
    Calls Try.prog 101 #[bx3 0 a b, arrF f, .pointer (some ⟨h0, 0, none⟩)] w fun e w' => e = .returned (.int .i64 l.sum) ∧ TM K N w' h0 ∧ Chg K w w' := by
  have hsm := six_sum hl
  have hin := six_in hl
  rw [← hf] at hsm hin
  have hbx := BoxF.new (w.alloc (.cells #[.int .i64 0, .int .i64 a, .int .i64 b] 25)) f
  rw [show (w.alloc (.cells #[.int .i64 0, .int .i64 a, .int .i64 b] 25)).heap.size = w.heap.size + 1 by simp] at hbx
  have HS := Lib.hid (sumSm_any _ 6 6 _ _ hbx.rd (by omega) hin)
  rw [hsm] at HS
  have HM0 := Lib.hid hm
  clear hf hin hsm hm hbx
  generalize l.sum = s at *
  go_enter Try.func101, Try.ntmps101
  go_wp2_with fail
  refine (HS.out).mono ?_; rintro e w1 ⟨rfl, rfl⟩
  go_wp2
  go_ret
  have hb : Below w.heap.size w ((w.alloc (.cells #[.int .i64 0, .int .i64 a, .int .i64 b] 25)).alloc (.cells #[.int .i64 (f 0), .int .i64 (f 1), .int .i64 (f 2), .int .i64 (f 3), .int .i64 (f 4), .int .i64 (f 5)] 73)) := by (repeat (first | (with_reducible exact Below.refl _ _) | (with_reducible assumption) | (with_reducible refine Below.drew ?_) | ((with_reducible refine balloc ?_ _ ?_); · (first | (simp; done) | (simp; omega) | omega)) | ((with_reducible refine bset ?_ _ ?_); · (first | (simp; done) | (simp; omega) | omega)) | (with_reducible refine bdrewN _ ?_) | ((with_reducible refine bcall ?_ (by assumption) ?_); · (first | (simp; done) | (simp; omega) | omega))))
  exact ⟨rfl, HM0.out.below hb (Nat.le_refl _), Chg.of_below hb (Nat.le_refl _)⟩

set_option maxRecDepth 100000 in
set_option maxHeartbeats 4000000 in
theorem tell_1 (K : Nat → Prop) (N h0 : Nat) (a b : Int) (l : List Int) (f : Nat → Int) (w : World) (hl : ChOK l) (hf : f = fl l) (hm : TM K N w h0) (ha : 0 ≤ a) (ha3 : a ≤ 3) :
    Calls Try.prog 101 #[bx3 1 a b, arrF f, .pointer (some ⟨h0, 0, none⟩)] w fun e w' => e = .returned (.int .i64 (l.getD a.toNat 0)) ∧ TM K N w' h0 ∧ Chg K w w' := by
  have hb : Below w.heap.size w ((w.alloc (.cells #[.int .i64 1, .int .i64 a, .int .i64 b] 25)).alloc (.cells #[.int .i64 (f 0), .int .i64 (f 1), .int .i64 (f 2), .int .i64 (f 3), .int .i64 (f 4), .int .i64 (f 5)] 73)) := by (repeat (first | (with_reducible exact Below.refl _ _) | (with_reducible assumption) | (with_reducible refine Below.drew ?_) | ((with_reducible refine balloc ?_ _ ?_); · (first | (simp; done) | (simp; omega) | omega)) | ((with_reducible refine bset ?_ _ ?_); · (first | (simp; done) | (simp; omega) | omega)) | (with_reducible refine bdrewN _ ?_) | ((with_reducible refine bcall ?_ (by assumption) ?_); · (first | (simp; done) | (simp; omega) | omega))))
  have hbx := BoxF.new (w.alloc (.cells #[.int .i64 1, .int .i64 a, .int .i64 b] 25)) f
  rw [show (w.alloc (.cells #[.int .i64 1, .int .i64 a, .int .i64 b] 25)).heap.size = w.heap.size + 1 by simp] at hbx
  have HB := Lib.hid hb
  have HM0 := Lib.hid hm
  obtain ⟨c0, c1, c2, c3, c4, c5⟩ := hbx.cells
  have HF : Hid (∀ j, f j = l.getD j 0) := fun j => by rw [hf]
  clear hb hbx hm hf
  rcases (show a = 0 ∨ a = 1 ∨ a = 2 ∨ a = 3 by omega) with rfl | rfl | rfl | rfl
  all_goals
    go_enter Try.func101, Try.ntmps101
    go_wp2
    go_ret
    exact ⟨ret_int (HF.out _), HM0.out.below HB.out (Nat.le_refl _), Chg.of_below HB.out (Nat.le_refl _)⟩

set_option maxRecDepth 100000 in
set_option maxHeartbeats 4000000 in
theorem tell_2 (K : Nat → Prop) (N h0 : Nat) (a b : Int) (l : List Int) (f : Nat → Int) (w : World) (hl : ChOK l) (hf : f = fl l) (hm : TM K N w h0) :
    Calls Try.prog 101 #[bx3 2 a b, arrF f, .pointer (some ⟨h0, 0, none⟩)] w fun e w' => e = .returned (.int .i64 (if 0 < grI l then 1 else 0)) ∧ TM K N w' h0 ∧ Chg K w w' := by
  have hb : Below w.heap.size w ((w.alloc (.cells #[.int .i64 2, .int .i64 a, .int .i64 b] 25)).alloc (.cells #[.int .i64 (f 0), .int .i64 (f 1), .int .i64 (f 2), .int .i64 (f 3), .int .i64 (f 4), .int .i64 (f 5)] 73)) := by (repeat (first | (with_reducible exact Below.refl _ _) | (with_reducible assumption) | (with_reducible refine Below.drew ?_) | ((with_reducible refine balloc ?_ _ ?_); · (first | (simp; done) | (simp; omega) | omega)) | ((with_reducible refine bset ?_ _ ?_); · (first | (simp; done) | (simp; omega) | omega)) | (with_reducible refine bdrewN _ ?_) | ((with_reducible refine bcall ?_ (by assumption) ?_); · (first | (simp; done) | (simp; omega) | omega))))
  have hbx := BoxF.new (w.alloc (.cells #[.int .i64 2, .int .i64 a, .int .i64 b] 25)) f
  rw [show (w.alloc (.cells #[.int .i64 2, .int .i64 a, .int .i64 b] 25)).heap.size = w.heap.size + 1 by simp] at hbx
  obtain ⟨c0, c1, c2, c3, c4, c5⟩ := hbx.cells
  have hmb := hm.below hb (Nat.le_refl _)
  obtain ⟨km, q1, q2, q3, S, hh, hc, hk, hn, hi⟩ := hmb
  have HW := Lib.hid (isWon_any K km q1 q2 q3 l f S _ hl hf hh)
  have HC := Lib.hid (Chg.of_below (K := K) hb (Nat.le_refl _))
  have HT : Hid (∀ w' : World, (∃ S', HM K w' km q1 q2 q3 heapV grI S') → Chg K ((w.alloc (.cells #[.int .i64 2, .int .i64 a, .int .i64 b] 25)).alloc (.cells #[.int .i64 (f 0), .int .i64 (f 1), .int .i64 (f 2), .int .i64 (f 3), .int .i64 (f 4), .int .i64 (f 5)] 73)) w' → TM K N w' h0) := fun w' ⟨S', h⟩ hch => ⟨km, q1, q2, q3, S', h, hch.cell hc hk, hk, ⟨hn.1, hn.2.1, hn.2.2.1, hn.2.2.2.1, hn.2.2.2.2.1, Nat.le_trans hn.2.2.2.2.2 hch.size⟩, hi⟩
  clear hb hbx hm hf hh hn hi hk
  cases hd : decide (0 < grI l)
  · rw [hd] at HW
    rw [if_neg (by simpa using hd)]
    clear hd
    go_enter Try.func101, Try.ntmps101
    go_wp2_with fail
    refine (HW.out).mono ?_; rintro e w1 ⟨rfl, hm1, hch1⟩
    have HP := Lib.hid (show TM K N w1 h0 ∧ Chg K w w1 from ⟨HT.out _ hm1 hch1, HC.out.trans hch1⟩)
    clear hm1 hch1 HT HC HW
    go_wp2
    go_ret
    exact ⟨rfl, HP.out.1, HP.out.2⟩
  · rw [hd] at HW
    rw [if_pos (by simpa using hd)]
    clear hd
    go_enter Try.func101, Try.ntmps101
    go_wp2_with fail
    refine (HW.out).mono ?_; rintro e w1 ⟨rfl, hm1, hch1⟩
    have HP := Lib.hid (show TM K N w1 h0 ∧ Chg K w w1 from ⟨HT.out _ hm1 hch1, HC.out.trans hch1⟩)
    clear hm1 hch1 HT HC HW
    go_wp2
    go_ret
    exact ⟨rfl, HP.out.1, HP.out.2⟩

set_option maxRecDepth 100000 in
set_option maxHeartbeats 4000000 in
theorem tell_3 (K : Nat → Prop) (N h0 : Nat) (a b : Int) (l : List Int) (f : Nat → Int) (w : World) (hl : ChOK l) (hf : f = fl l) (hm : TM K N w h0) :
    Calls Try.prog 101 #[bx3 3 a b, arrF f, .pointer (some ⟨h0, 0, none⟩)] w fun e w' => e = .returned (.int .i64 (grI l)) ∧ TM K N w' h0 ∧ Chg K w w' := by
  have hb : Below w.heap.size w ((w.alloc (.cells #[.int .i64 3, .int .i64 a, .int .i64 b] 25)).alloc (.cells #[.int .i64 (f 0), .int .i64 (f 1), .int .i64 (f 2), .int .i64 (f 3), .int .i64 (f 4), .int .i64 (f 5)] 73)) := by (repeat (first | (with_reducible exact Below.refl _ _) | (with_reducible assumption) | (with_reducible refine Below.drew ?_) | ((with_reducible refine balloc ?_ _ ?_); · (first | (simp; done) | (simp; omega) | omega)) | ((with_reducible refine bset ?_ _ ?_); · (first | (simp; done) | (simp; omega) | omega)) | (with_reducible refine bdrewN _ ?_) | ((with_reducible refine bcall ?_ (by assumption) ?_); · (first | (simp; done) | (simp; omega) | omega))))
  have hbx := BoxF.new (w.alloc (.cells #[.int .i64 3, .int .i64 a, .int .i64 b] 25)) f
  rw [show (w.alloc (.cells #[.int .i64 3, .int .i64 a, .int .i64 b] 25)).heap.size = w.heap.size + 1 by simp] at hbx
  obtain ⟨c0, c1, c2, c3, c4, c5⟩ := hbx.cells
  have hmb := hm.below hb (Nat.le_refl _)
  obtain ⟨km, q1, q2, q3, S, hh, hc, hk, hn, hi⟩ := hmb
  have HW := Lib.hid (heapOf_any K km q1 q2 q3 l f S _ hl hf hh)
  have HC := Lib.hid (Chg.of_below (K := K) hb (Nat.le_refl _))
  have HT : Hid (∀ w' : World, (∃ S', HM K w' km q1 q2 q3 heapV grI S') → Chg K ((w.alloc (.cells #[.int .i64 3, .int .i64 a, .int .i64 b] 25)).alloc (.cells #[.int .i64 (f 0), .int .i64 (f 1), .int .i64 (f 2), .int .i64 (f 3), .int .i64 (f 4), .int .i64 (f 5)] 73)) w' → TM K N w' h0) := fun w' ⟨S', h⟩ hch => ⟨km, q1, q2, q3, S', h, hch.cell hc hk, hk, ⟨hn.1, hn.2.1, hn.2.2.1, hn.2.2.2.1, hn.2.2.2.2.1, Nat.le_trans hn.2.2.2.2.2 hch.size⟩, hi⟩
  clear hb hbx hm hf hh hn hi hk
  generalize grI l = gv at *
  go_enter Try.func101, Try.ntmps101
  go_wp2_with fail
  refine (HW.out).mono ?_; rintro e w1 ⟨rfl, hm1, hch1⟩
  have HP := Lib.hid (show TM K N w1 h0 ∧ Chg K w w1 from ⟨HT.out _ hm1 hch1, HC.out.trans hch1⟩)
  clear hm1 hch1 HT HC HW
  go_wp2
  go_ret
  exact ⟨rfl, HP.out.1, HP.out.2⟩

set_option maxRecDepth 100000 in
set_option maxHeartbeats 4000000 in
theorem tell_4 (K : Nat → Prop) (N h0 : Nat) (a b : Int) (l : List Int) (f : Nat → Int) (w : World) (hl : ChOK l) (hf : f = fl l) (hm : TM K N w h0) (ha : 0 ≤ a) :
    Calls Try.prog 101 #[bx3 4 a b, arrF f, .pointer (some ⟨h0, 0, none⟩)] w fun e w' => e = .returned (.int .i64 ((overL a l : Nat))) ∧ TM K N w' h0 ∧ Chg K w w' := by
  have hb : Below w.heap.size w ((w.alloc (.cells #[.int .i64 4, .int .i64 a, .int .i64 b] 25)).alloc (.cells #[.int .i64 (f 0), .int .i64 (f 1), .int .i64 (f 2), .int .i64 (f 3), .int .i64 (f 4), .int .i64 (f 5)] 73)) := by (repeat (first | (with_reducible exact Below.refl _ _) | (with_reducible assumption) | (with_reducible refine Below.drew ?_) | ((with_reducible refine balloc ?_ _ ?_); · (first | (simp; done) | (simp; omega) | omega)) | ((with_reducible refine bset ?_ _ ?_); · (first | (simp; done) | (simp; omega) | omega)) | (with_reducible refine bdrewN _ ?_) | ((with_reducible refine bcall ?_ (by assumption) ?_); · (first | (simp; done) | (simp; omega) | omega))))
  have hbx := BoxF.new (w.alloc (.cells #[.int .i64 4, .int .i64 a, .int .i64 b] 25)) f
  rw [show (w.alloc (.cells #[.int .i64 4, .int .i64 a, .int .i64 b] 25)).heap.size = w.heap.size + 1 by simp] at hbx
  obtain ⟨c0, c1, c2, c3, c4, c5⟩ := hbx.cells
  have HM0 := Lib.hid hm
  have HB := Lib.hid hb
  have HW := Lib.hid (rowsOver_any f a)
  rw [show overK f a 6 = overL a l by rw [hf]; exact overK_6 hl ha] at HW
  clear hb hbx hm hf
  generalize overL a l = v at *
  go_enter Try.func101, Try.ntmps101
  go_wp2_with fail
  refine (HW.out _).mono ?_; rintro e w1 ⟨rfl, hb1⟩
  have hb2 := HB.out.trans (hb1.mono HB.out.size)
  have HP := Lib.hid (show TM K N w1 h0 ∧ Chg K w w1 from ⟨HM0.out.below hb2 (Nat.le_refl _), Chg.of_below hb2 (Nat.le_refl _)⟩)
  clear hb1 hb2 HM0 HB HW
  go_wp2
  go_ret
  exact ⟨rfl, HP.out.1, HP.out.2⟩

set_option maxRecDepth 100000 in
set_option maxHeartbeats 4000000 in
theorem tell_5 (K : Nat → Prop) (N h0 : Nat) (a b : Int) (l : List Int) (f : Nat → Int) (w : World) (hl : ChOK l) (hf : f = fl l) (hm : TM K N w h0) :
    Calls Try.prog 101 #[bx3 5 a b, arrF f, .pointer (some ⟨h0, 0, none⟩)] w fun e w' => e = .returned (.int .i64 (((gbL l).length : Nat))) ∧ TM K N w' h0 ∧ Chg K w w' := by
  have hb : Below w.heap.size w ((w.alloc (.cells #[.int .i64 5, .int .i64 a, .int .i64 b] 25)).alloc (.cells #[.int .i64 (f 0), .int .i64 (f 1), .int .i64 (f 2), .int .i64 (f 3), .int .i64 (f 4), .int .i64 (f 5)] 73)) := by (repeat (first | (with_reducible exact Below.refl _ _) | (with_reducible assumption) | (with_reducible refine Below.drew ?_) | ((with_reducible refine balloc ?_ _ ?_); · (first | (simp; done) | (simp; omega) | omega)) | ((with_reducible refine bset ?_ _ ?_); · (first | (simp; done) | (simp; omega) | omega)) | (with_reducible refine bdrewN _ ?_) | ((with_reducible refine bcall ?_ (by assumption) ?_); · (first | (simp; done) | (simp; omega) | omega))))
  have hbx := BoxF.new (w.alloc (.cells #[.int .i64 5, .int .i64 a, .int .i64 b] 25)) f
  rw [show (w.alloc (.cells #[.int .i64 5, .int .i64 a, .int .i64 b] 25)).heap.size = w.heap.size + 1 by simp] at hbx
  obtain ⟨c0, c1, c2, c3, c4, c5⟩ := hbx.cells
  have hmb := hm.below hb (Nat.le_refl _)
  obtain ⟨km, q1, q2, q3, S, hh, hc, hk, hn, hi⟩ := hmb
  have HW := Lib.hid (goodBites_any K km q1 q2 q3 l f S _ hl hf hh)
  have HC := Lib.hid (Chg.of_below (K := K) hb (Nat.le_refl _))
  have HT : Hid (∀ w' : World, (∃ S', HM K w' km q1 q2 q3 heapV grI S') → Chg K ((w.alloc (.cells #[.int .i64 5, .int .i64 a, .int .i64 b] 25)).alloc (.cells #[.int .i64 (f 0), .int .i64 (f 1), .int .i64 (f 2), .int .i64 (f 3), .int .i64 (f 4), .int .i64 (f 5)] 73)) w' → TM K N w' h0) := fun w' ⟨S', h⟩ hch => ⟨km, q1, q2, q3, S', h, hch.cell hc hk, hk, ⟨hn.1, hn.2.1, hn.2.2.1, hn.2.2.2.1, hn.2.2.2.2.1, Nat.le_trans hn.2.2.2.2.2 hch.size⟩, hi⟩
  clear hb hbx hm hf hh hn hi hk
  go_enter Try.func101, Try.ntmps101
  go_wp2_with fail
  refine (HW.out).mono ?_; rintro e w1 ⟨A', n', c', rfl, hL, h36, ho, hm1, hch1⟩
  have HL := Lib.hid hL
  have HP := Lib.hid (show TM K N w1 h0 ∧ Chg K w w1 from ⟨HT.out _ hm1 hch1, HC.out.trans hch1⟩)
  clear hm1 hch1 HT HC HW ho hL
  go_wp2
  go_ret
  exact ⟨ret_int (by rw [HL.out]), HP.out.1, HP.out.2⟩

/-- it tells what a clue of a kind has to say -/
theorem tell_any (K : Nat → Prop) (N h0 : Nat) (k a b : Int) (l : List Int) (f : Nat → Int) (w : World) (hk : 0 ≤ k ∧ k < 6) (ha : 0 ≤ a ∧ a ≤ mostA k) (hl : ChOK l) (hf : f = fl l) (hm : TM K N w h0) :
    Calls Try.prog 101 #[bx3 k a b, arrF f, .pointer (some ⟨h0, 0, none⟩)] w fun e w' => e = .returned (.int .i64 (tellI k a l)) ∧ TM K N w' h0 ∧ Chg K w w' := by
  rcases (show k = 0 ∨ k = 1 ∨ k = 2 ∨ k = 3 ∨ k = 4 ∨ k = 5 by omega) with rfl | rfl | rfl | rfl | rfl | rfl
  · exact tell_0 K N h0 a b l f w hl hf hm
  · exact tell_1 K N h0 a b l f w hl hf hm ha.1 ha.2
  · exact tell_2 K N h0 a b l f w hl hf hm
  · exact tell_3 K N h0 a b l f w hl hf hm
  · exact tell_4 K N h0 a b l f w hl hf hm ha.1
  · exact tell_5 K N h0 a b l f w hl hf hm
end Go.Proofs.Ytghlgmbekgfmnaa
