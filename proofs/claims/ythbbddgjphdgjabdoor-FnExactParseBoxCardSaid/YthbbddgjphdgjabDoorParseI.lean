/-
  Contract: ParseBox of the program. Conditions: a text of at most 2^20 bytes; the library's own variables hold something of their types.
-/
import Derived.Test.YthbbddgjphdgjabDoorParseX
import Derived.Lib.SlicesS
namespace Go.Proofs.YthbbddgjphdgjabDoor
open Go.RowKit
set_option linter.unusedVariables false

def PSaid (s : ByteArray) (w w' : World) (e : Ending) : Prop := ∃ (x y z : Int) (ok : Bool), e = .returned (.tuple #[bx3 x y z, .bool ok]) ∧ Hid (PS s x y z ok) ∧ Below w.heap.size w w'

set_option maxRecDepth 100000 in
set_option maxHeartbeats 4000000 in
theorem parseBox_any (s : ByteArray) (w : World) (hs : s.size ≤ 1048576) (hg : GA w) :
    Calls Tryd.prog 9 #[.string s] w fun e w' => PSaid s w w' e := by
  go_enter Tryd.func9, Tryd.ntmps9
  go_wp2_with fail
  have b0 : Below w.heap.size w (w.alloc (.cells #[.int .i64 0, .int .i64 0, .int .i64 0] 26)) := by (repeat (first | (with_reducible exact Below.refl _ _) | (with_reducible assumption) | (with_reducible refine Below.drew ?_) | ((with_reducible refine balloc ?_ _ ?_); · (first | (simp; done) | (simp; omega) | omega)) | ((with_reducible refine bset ?_ _ ?_); · (first | (simp; done) | (simp; omega) | omega)) | (with_reducible refine bdrewN _ ?_) | ((with_reducible refine bcall ?_ (by assumption) ?_); · (first | (simp; done) | (simp; omega) | omega))))
  have g0 := hg.later b0 (Nat.le_refl _)
  refine (cut_any s 42 hs _ g0).mono ?_; rintro e w1 ⟨a, r, o1, rfl, ha, hr, HC1, hb1⟩
  have g1 := g0.later hb1 (Nat.le_refl _)
  go_wp2_with fail
  refine (cut_any r 42 (by omega) _ g1).mono ?_; rintro e w2 ⟨b, c, o2, rfl, hb, hc, HC2, hb2⟩
  have g2 := g1.later hb2 (Nat.le_refl _)
  go_wp2_with fail
  refine (atoi_any a (by omega) _ g2).mono ?_; rintro e w3 ⟨x, e3, rfl, HX, hb3⟩
  have g3 := g2.later hb3 (Nat.le_refl _)
  go_wp2_with fail
  refine (atoi_any b (by omega) _ g3).mono ?_; rintro e w4 ⟨y, e4, rfl, HY, hb4⟩
  have g4 := g3.later hb4 (Nat.le_refl _)
  go_wp2_with fail
  refine (atoi_any c (by omega) _ g4).mono ?_; rintro e w5 ⟨z, e5, rfl, HZ, hb5⟩
  have B15 : Below (w.alloc (.cells #[.int .i64 0, .int .i64 0, .int .i64 0] 26)).heap.size (w.alloc (.cells #[.int .i64 0, .int .i64 0, .int .i64 0] 26)) w5 := bcall (by have := hb1.size; have := hb2.size; have := hb3.size; have := hb4.size; omega) hb5 (bcall (by have := hb1.size; have := hb2.size; have := hb3.size; omega) hb4 (bcall (by have := hb1.size; have := hb2.size; omega) hb3 (bcall (by have := hb1.size; omega) hb2 hb1)))
  have B5 : Below w.heap.size w w5 := bcall (by simp) B15 b0
  have HT : Hid (∀ p q t : Nat, boxB p q t = true → s = boxS p q t → x = p ∧ y = q ∧ z = t) := by
    intro p q t hB e
    have k := boxB_true hB
    rw [boxS_list (by omega) (by omega) (by omega)] at e
    obtain ⟨e1, e2⟩ := HC1.out _ _ (no42 (by omega)) e
    obtain ⟨e3, e4⟩ := HC2.out _ _ (no42 (by omega)) e2
    exact ⟨HX.out p (by omega) (e1.trans (decS_mkS (by omega)).symm), HY.out q (by omega) (e3.trans (decS_mkS (by omega)).symm), HZ.out t (by omega) (e4.trans (decS_mkS (by omega)).symm)⟩
  have s5 : w.heap.size < w5.heap.size := by have := B15.size; simp at this; omega
  obtain ⟨hcW, hfW⟩ := bcell B15
  have q0 : w5.cell? ⟨w.heap.size, 0, none⟩ = some (.int .i64 0) := (hcW _ _ (by simp)).trans (by simp [go_sem])
  have f0 : w5.frozen? ⟨w.heap.size, 0, none⟩ = false := (hfW _ _ (by simp)).trans (by simp [go_sem])
  have q1 : w5.cell? ⟨w.heap.size, 1, none⟩ = some (.int .i64 0) := (hcW _ _ (by simp)).trans (by simp [go_sem])
  have f1 : w5.frozen? ⟨w.heap.size, 1, none⟩ = false := (hfW _ _ (by simp)).trans (by simp [go_sem])
  have q2 : w5.cell? ⟨w.heap.size, 2, none⟩ = some (.int .i64 0) := (hcW _ _ (by simp)).trans (by simp [go_sem])
  have f2 : w5.frozen? ⟨w.heap.size, 2, none⟩ = false := (hfW _ _ (by simp)).trans (by simp [go_sem])
  clear hcW hfW B15 hb1 hb2 hb3 hb4 hb5 g0 g1 g2 g3 g4 hg ha hr hb hc HC1 HC2 HX HY HZ b0
  cases hB : boxB x y z
  · have HP := Lib.hid ((PS_of (s := s) HT.out).2 (by rw [hB]; simp))
    have HTX := Lib.hid (fun wx => boxText_any x y z wx)
    rw [hB, show boxTextV x y z = ByteArray.mk #[] by simp [boxTextV, hB]] at HTX
    clear HT hB
    go_wp2_with fail
    refine (HTX.out _).mono ?_; rintro e w6 ⟨rfl, hb6⟩
    have s6 := hb6.size
    simp at s6
    obtain ⟨hc6, hf6⟩ := bcell hb6
    have z6 : w.heap.size < w6.heap.size := by omega
    have z6' : w5.heap.size < w6.heap.size := by omega
    have r0 : w6.cell? ⟨w.heap.size, 0, none⟩ = some (.int .i64 0) := (hc6 _ _ (by simp; omega)).trans (by (repeat (first | (with_reducible refine cell_drew ?_) | (with_reducible refine cell_drewN _ ?_) | ((with_reducible refine cell_alloc ?_ ?_); · first | omega | (simp; done) | (simp; omega) | assumption) | ((with_reducible refine cell_set ?_ ?_); · first | (intro e; injection e; omega) | (intro e; simp at e; done) | (intro e; simp at e; omega)))); exact q0)
    have r1 : w6.cell? ⟨w.heap.size, 1, none⟩ = some (.int .i64 0) := (hc6 _ _ (by simp; omega)).trans (by (repeat (first | (with_reducible refine cell_drew ?_) | (with_reducible refine cell_drewN _ ?_) | ((with_reducible refine cell_alloc ?_ ?_); · first | omega | (simp; done) | (simp; omega) | assumption) | ((with_reducible refine cell_set ?_ ?_); · first | (intro e; injection e; omega) | (intro e; simp at e; done) | (intro e; simp at e; omega)))); exact q1)
    have r2 : w6.cell? ⟨w.heap.size, 2, none⟩ = some (.int .i64 0) := (hc6 _ _ (by simp; omega)).trans (by (repeat (first | (with_reducible refine cell_drew ?_) | (with_reducible refine cell_drewN _ ?_) | ((with_reducible refine cell_alloc ?_ ?_); · first | omega | (simp; done) | (simp; omega) | assumption) | ((with_reducible refine cell_set ?_ ?_); · first | (intro e; injection e; omega) | (intro e; simp at e; done) | (intro e; simp at e; omega)))); exact q2)
    go_wp2
    refine bodyPost_ret (v := .tuple #[bx3 0 0 0, .bool false]) (by simp [results, Tryd.results9, go_sem, r0, r1, r2]) rfl ⟨0, 0, 0, false, rfl, HP.out, ?_⟩
    have HB6 : Below w.heap.size w w6 := bcall (by simp; omega) hb6 (by have h : Below w.heap.size w (w5.alloc (.cells #[.int .i64 x, .int .i64 y, .int .i64 z] 26)) := B5.alloc (by omega) _; exact h)
    (repeat (first | (with_reducible exact Below.refl _ _) | (with_reducible assumption) | (with_reducible refine Below.drew ?_) | ((with_reducible refine balloc ?_ _ ?_); · (first | (simp; done) | (simp; omega) | omega)) | ((with_reducible refine bset ?_ _ ?_); · (first | (simp; done) | (simp; omega) | omega)) | (with_reducible refine bdrewN _ ?_) | ((with_reducible refine bcall ?_ (by assumption) ?_); · (first | (simp; done) | (simp; omega) | omega))))
  · have hBn : boxTextV x y z = boxS x.toNat y.toNat z.toNat := by simp [boxTextV, hB]
    have HTX := Lib.hid (fun wx => boxText_any x y z wx)
    rw [hB, hBn] at HTX
    have HP := Lib.hid (PS_of (s := s) HT.out)
    rw [hB] at HP
    clear HT hB hBn
    generalize boxS x.toNat y.toNat z.toNat = t at *
    by_cases he : s = t
    · have HP2 := Lib.hid (HP.out.1 ⟨rfl, he⟩)
      clear HP
      subst he
      go_wp2_with fail
      refine (HTX.out _).mono ?_; rintro e w6 ⟨rfl, hb6⟩
      have s6 := hb6.size
      simp at s6
      obtain ⟨hc6, hf6⟩ := bcell hb6
      have z6 : w.heap.size < w6.heap.size := by omega
      have z6' : w5.heap.size < w6.heap.size := by omega
      have r0 : w6.cell? ⟨w.heap.size, 0, none⟩ = some (.int .i64 0) := (hc6 _ _ (by simp; omega)).trans (by (repeat (first | (with_reducible refine cell_drew ?_) | (with_reducible refine cell_drewN _ ?_) | ((with_reducible refine cell_alloc ?_ ?_); · first | omega | (simp; done) | (simp; omega) | assumption) | ((with_reducible refine cell_set ?_ ?_); · first | (intro e; injection e; omega) | (intro e; simp at e; done) | (intro e; simp at e; omega)))); exact q0)
      have r1 : w6.cell? ⟨w.heap.size, 1, none⟩ = some (.int .i64 0) := (hc6 _ _ (by simp; omega)).trans (by (repeat (first | (with_reducible refine cell_drew ?_) | (with_reducible refine cell_drewN _ ?_) | ((with_reducible refine cell_alloc ?_ ?_); · first | omega | (simp; done) | (simp; omega) | assumption) | ((with_reducible refine cell_set ?_ ?_); · first | (intro e; injection e; omega) | (intro e; simp at e; done) | (intro e; simp at e; omega)))); exact q1)
      have r2 : w6.cell? ⟨w.heap.size, 2, none⟩ = some (.int .i64 0) := (hc6 _ _ (by simp; omega)).trans (by (repeat (first | (with_reducible refine cell_drew ?_) | (with_reducible refine cell_drewN _ ?_) | ((with_reducible refine cell_alloc ?_ ?_); · first | omega | (simp; done) | (simp; omega) | assumption) | ((with_reducible refine cell_set ?_ ?_); · first | (intro e; injection e; omega) | (intro e; simp at e; done) | (intro e; simp at e; omega)))); exact q2)
      go_wp2
      refine bodyPost_ret (v := .tuple #[bx3 x y z, .bool true]) (by simp [results, Tryd.results9, go_sem, r0, r1, r2]) rfl ⟨x, y, z, true, rfl, HP2.out, ?_⟩
      have HB6 : Below w.heap.size w w6 := bcall (by simp; omega) hb6 (by have h : Below w.heap.size w (w5.alloc (.cells #[.int .i64 x, .int .i64 y, .int .i64 z] 26)) := B5.alloc (by omega) _; exact h)
      (repeat (first | (with_reducible exact Below.refl _ _) | (with_reducible assumption) | (with_reducible refine Below.drew ?_) | ((with_reducible refine balloc ?_ _ ?_); · (first | (simp; done) | (simp; omega) | omega)) | ((with_reducible refine bset ?_ _ ?_); · (first | (simp; done) | (simp; omega) | omega)) | (with_reducible refine bdrewN _ ?_) | ((with_reducible refine bcall ?_ (by assumption) ?_); · (first | (simp; done) | (simp; omega) | omega))))
    · have HP2 := Lib.hid (HP.out.2 (fun h => he h.2))
      clear HP
      have hne : (t.toList == s.toList) = false := (Lib.bytes_beq_false_iff _ _).2 (fun h => he h.symm)
      go_wp2_with fail
      refine (HTX.out _).mono ?_; rintro e w6 ⟨rfl, hb6⟩
      have s6 := hb6.size
      simp at s6
      obtain ⟨hc6, hf6⟩ := bcell hb6
      have z6 : w.heap.size < w6.heap.size := by omega
      have z6' : w5.heap.size < w6.heap.size := by omega
      have r0 : w6.cell? ⟨w.heap.size, 0, none⟩ = some (.int .i64 0) := (hc6 _ _ (by simp; omega)).trans (by (repeat (first | (with_reducible refine cell_drew ?_) | (with_reducible refine cell_drewN _ ?_) | ((with_reducible refine cell_alloc ?_ ?_); · first | omega | (simp; done) | (simp; omega) | assumption) | ((with_reducible refine cell_set ?_ ?_); · first | (intro e; injection e; omega) | (intro e; simp at e; done) | (intro e; simp at e; omega)))); exact q0)
      have r1 : w6.cell? ⟨w.heap.size, 1, none⟩ = some (.int .i64 0) := (hc6 _ _ (by simp; omega)).trans (by (repeat (first | (with_reducible refine cell_drew ?_) | (with_reducible refine cell_drewN _ ?_) | ((with_reducible refine cell_alloc ?_ ?_); · first | omega | (simp; done) | (simp; omega) | assumption) | ((with_reducible refine cell_set ?_ ?_); · first | (intro e; injection e; omega) | (intro e; simp at e; done) | (intro e; simp at e; omega)))); exact q1)
      have r2 : w6.cell? ⟨w.heap.size, 2, none⟩ = some (.int .i64 0) := (hc6 _ _ (by simp; omega)).trans (by (repeat (first | (with_reducible refine cell_drew ?_) | (with_reducible refine cell_drewN _ ?_) | ((with_reducible refine cell_alloc ?_ ?_); · first | omega | (simp; done) | (simp; omega) | assumption) | ((with_reducible refine cell_set ?_ ?_); · first | (intro e; injection e; omega) | (intro e; simp at e; done) | (intro e; simp at e; omega)))); exact q2)
      go_wp2
      refine bodyPost_ret (v := .tuple #[bx3 0 0 0, .bool false]) (by simp [results, Tryd.results9, go_sem, r0, r1, r2]) rfl ⟨0, 0, 0, false, rfl, HP2.out, ?_⟩
      have HB6 : Below w.heap.size w w6 := bcall (by simp; omega) hb6 (by have h : Below w.heap.size w (w5.alloc (.cells #[.int .i64 x, .int .i64 y, .int .i64 z] 26)) := B5.alloc (by omega) _; exact h)
      (repeat (first | (with_reducible exact Below.refl _ _) | (with_reducible assumption) | (with_reducible refine Below.drew ?_) | ((with_reducible refine balloc ?_ _ ?_); · (first | (simp; done) | (simp; omega) | omega)) | ((with_reducible refine bset ?_ _ ?_); · (first | (simp; done) | (simp; omega) | omega)) | (with_reducible refine bdrewN _ ?_) | ((with_reducible refine bcall ?_ (by assumption) ?_); · (first | (simp; done) | (simp; omega) | omega))))

end Go.Proofs.YthbbddgjphdgjabDoor
