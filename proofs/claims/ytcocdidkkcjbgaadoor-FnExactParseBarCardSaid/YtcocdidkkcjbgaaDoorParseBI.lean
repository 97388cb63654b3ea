/-
  Contract: ParseBar of the program. Conditions: a text of at most 2^20 bytes; the library's own variables hold something of their types.
-/
import Derived.Test.YtcocdidkkcjbgaaDoorParseBX
import Derived.Lib.SlicesS
namespace Go.Proofs.YtcocdidkkcjbgaaDoor
open Go.RowKit
set_option linter.unusedVariables false

def PBaid (s : ByteArray) (w w' : World) (e : Ending) : Prop := ∃ (x y : Int) (ok : Bool), e = .returned (.tuple #[bar2 x y, .bool ok]) ∧ Hid (PB s x y ok) ∧ Below w.heap.size w w'

set_option maxRecDepth 100000 in
set_option maxHeartbeats 4000000 in
theorem parseBar_any (s : ByteArray) (w : World) (hs : s.size ≤ 1048576) (hg : GA w) :
    Calls Tryd.prog 7 #[.string s] w fun e w' => PBaid s w w' e := by
  go_enter Tryd.func7, Tryd.ntmps7
  go_wp2_with fail
  have b0 : Below w.heap.size w (w.alloc (.cells #[.int .i64 0, .int .i64 0] 23)) := by (repeat (first | (with_reducible exact Below.refl _ _) | (with_reducible assumption) | (with_reducible refine Below.drew ?_) | ((with_reducible refine balloc ?_ _ ?_); · (first | (simp; done) | (simp; omega) | omega)) | ((with_reducible refine bset ?_ _ ?_); · (first | (simp; done) | (simp; omega) | omega)) | (with_reducible refine bdrewN _ ?_) | ((with_reducible refine bcall ?_ (by assumption) ?_); · (first | (simp; done) | (simp; omega) | omega))))
  have g0 := hg.later b0 (Nat.le_refl _)
  refine (cut_any s 120 hs _ g0).mono ?_; rintro e w1 ⟨a, r, o1, rfl, ha, hr, HC1, hb1⟩
  have g1 := g0.later hb1 (Nat.le_refl _)
  go_wp2_with fail
  refine (atoi_any a (by omega) _ g1).mono ?_; rintro e w3 ⟨x, e3, rfl, HX, hb3⟩
  have g3 := g1.later hb3 (Nat.le_refl _)
  go_wp2_with fail
  refine (atoi_any r (by omega) _ g3).mono ?_; rintro e w5 ⟨y, e4, rfl, HY, hb5⟩
  have B15 : Below (w.alloc (.cells #[.int .i64 0, .int .i64 0] 23)).heap.size (w.alloc (.cells #[.int .i64 0, .int .i64 0] 23)) w5 := bcall (by have := hb1.size; have := hb3.size; omega) hb5 (bcall (by have := hb1.size; omega) hb3 hb1)
  have B5 : Below w.heap.size w w5 := bcall (by simp) B15 b0
  have HT : Hid (∀ p q : Nat, barB p q = true → s = barS p q → x = p ∧ y = q) := by
    intro p q hB e
    have k := barB_true hB
    rw [barS_list (by omega) (by omega)] at e
    obtain ⟨e1, e2⟩ := HC1.out _ _ (no120 (by omega)) e
    exact ⟨HX.out p (by omega) (e1.trans (decS_mkS (by omega)).symm), HY.out q (by omega) (e2.trans (decS_mkS (by omega)).symm)⟩
  have s5 : w.heap.size < w5.heap.size := by have := B15.size; simp at this; omega
  obtain ⟨hcW, hfW⟩ := bcell B15
  have q0 : w5.cell? ⟨w.heap.size, 0, none⟩ = some (.int .i64 0) := (hcW _ _ (by simp)).trans (by simp [go_sem])
  have f0 : w5.frozen? ⟨w.heap.size, 0, none⟩ = false := (hfW _ _ (by simp)).trans (by simp [go_sem])
  have q1 : w5.cell? ⟨w.heap.size, 1, none⟩ = some (.int .i64 0) := (hcW _ _ (by simp)).trans (by simp [go_sem])
  have f1 : w5.frozen? ⟨w.heap.size, 1, none⟩ = false := (hfW _ _ (by simp)).trans (by simp [go_sem])
  clear hcW hfW B15 hb1 hb3 hb5 g0 g1 g3 hg ha hr HC1 HX HY b0
  cases hB : barB x y
  · have HP := Lib.hid ((PB_of (s := s) HT.out).2 (by rw [hB]; simp))
    have HTX := Lib.hid (fun wx => barText_any x y wx)
    rw [hB, show barTextV x y = ByteArray.mk #[] by simp [barTextV, hB]] at HTX
    clear HT hB
    go_wp2_with fail
    refine (HTX.out _).mono ?_; rintro e w6 ⟨rfl, hb6⟩
    have s6 := hb6.size
    simp at s6
    obtain ⟨hc6, hf6⟩ := bcell hb6
    have z6 : w.heap.size < w6.heap.size := by omega
    have z6' : w5.heap.size < w6.heap.size := by omega
    have r0 : w6.cell? ⟨w.heap.size, 0, none⟩ = some (.int .i64 0) := (hc6 _ _ (by simp; omega)).trans (by (repeat (first | (with_reducible refine cell_drew ?_) | (with_reducible refine cell_drewN _ ?_) | ((with_reducible refine cell_alloc ?_ ?_); · first | omega | (simp; done) | (simp; omega) | assumption) | ((with_reducible refine cell_set ?_ ?_); · first | (intro e; injection e; omega) | (intro e; simp at e; done) | (intro e; simp at e; omega)))); exact q0)
    have r1 : w6.cell? ⟨w.heap.size, 1, none⟩ = some (.int .i64 0) := (hc6 _ _ (by simp; omega)).trans (by (repeat (first | (with_reducible refine cell_drew ?_) | (with_reducible refine cell_drewN _ ?_) | ((with_reducible refine cell_alloc ?_ ?_); · first | omega | (simp; done) | (simp; omega) | assumption) | ((with_reducible refine cell_set ?_ ?_); · first | (intro e; injection e; omega) | (intro e; simp at e; done) | (intro e; simp at e; omega)))); exact q1)
    go_wp2
    refine bodyPost_ret (v := .tuple #[bar2 0 0, .bool false]) (by simp [results, Tryd.results7, go_sem, r0, r1]) rfl ⟨0, 0, false, rfl, HP.out, ?_⟩
    have HB6 : Below w.heap.size w w6 := bcall (by simp; omega) hb6 (by have h : Below w.heap.size w (w5.alloc (.cells #[.int .i64 x, .int .i64 y] 23)) := B5.alloc (by omega) _; exact h)
    (repeat (first | (with_reducible exact Below.refl _ _) | (with_reducible assumption) | (with_reducible refine Below.drew ?_) | ((with_reducible refine balloc ?_ _ ?_); · (first | (simp; done) | (simp; omega) | omega)) | ((with_reducible refine bset ?_ _ ?_); · (first | (simp; done) | (simp; omega) | omega)) | (with_reducible refine bdrewN _ ?_) | ((with_reducible refine bcall ?_ (by assumption) ?_); · (first | (simp; done) | (simp; omega) | omega))))
  · have hBn : barTextV x y = barS x.toNat y.toNat := by simp [barTextV, hB]
    have HTX := Lib.hid (fun wx => barText_any x y wx)
    rw [hB, hBn] at HTX
    have HP := Lib.hid (PB_of (s := s) HT.out)
    rw [hB] at HP
    clear HT hB hBn
    generalize barS x.toNat y.toNat = t at *
    by_cases he : s = t
    · have HP2 := Lib.hid (HP.out.1 ⟨rfl, he⟩)
      clear HP
      subst he
      go_wp2_with fail
      refine (HTX.out _).mono ?_; rintro e w6 ⟨rfl, hb6⟩
      have s6 := hb6.size
      simp at s6
      obtain ⟨hc6, hf6⟩ := bcell hb6
      have z6 : w.heap.size < w6.heap.size := by omega
      have z6' : w5.heap.size < w6.heap.size := by omega
      have r0 : w6.cell? ⟨w.heap.size, 0, none⟩ = some (.int .i64 0) := (hc6 _ _ (by simp; omega)).trans (by (repeat (first | (with_reducible refine cell_drew ?_) | (with_reducible refine cell_drewN _ ?_) | ((with_reducible refine cell_alloc ?_ ?_); · first | omega | (simp; done) | (simp; omega) | assumption) | ((with_reducible refine cell_set ?_ ?_); · first | (intro e; injection e; omega) | (intro e; simp at e; done) | (intro e; simp at e; omega)))); exact q0)
      have r1 : w6.cell? ⟨w.heap.size, 1, none⟩ = some (.int .i64 0) := (hc6 _ _ (by simp; omega)).trans (by (repeat (first | (with_reducible refine cell_drew ?_) | (with_reducible refine cell_drewN _ ?_) | ((with_reducible refine cell_alloc ?_ ?_); · first | omega | (simp; done) | (simp; omega) | assumption) | ((with_reducible refine cell_set ?_ ?_); · first | (intro e; injection e; omega) | (intro e; simp at e; done) | (intro e; simp at e; omega)))); exact q1)
      go_wp2
      refine bodyPost_ret (v := .tuple #[bar2 x y, .bool true]) (by simp [results, Tryd.results7, go_sem, r0, r1]) rfl ⟨x, y, true, rfl, HP2.out, ?_⟩
      have HB6 : Below w.heap.size w w6 := bcall (by simp; omega) hb6 (by have h : Below w.heap.size w (w5.alloc (.cells #[.int .i64 x, .int .i64 y] 23)) := B5.alloc (by omega) _; exact h)
      (repeat (first | (with_reducible exact Below.refl _ _) | (with_reducible assumption) | (with_reducible refine Below.drew ?_) | ((with_reducible refine balloc ?_ _ ?_); · (first | (simp; done) | (simp; omega) | omega)) | ((with_reducible refine bset ?_ _ ?_); · (first | (simp; done) | (simp; omega) | omega)) | (with_reducible refine bdrewN _ ?_) | ((with_reducible refine bcall ?_ (by assumption) ?_); · (first | (simp; done) | (simp; omega) | omega))))
    · have HP2 := Lib.hid (HP.out.2 (fun h => he h.2))
      clear HP
      have hne : (t.toList == s.toList) = false := (Lib.bytes_beq_false_iff _ _).2 (fun h => he h.symm)
      go_wp2_with fail
      refine (HTX.out _).mono ?_; rintro e w6 ⟨rfl, hb6⟩
      have s6 := hb6.size
      simp at s6
      obtain ⟨hc6, hf6⟩ := bcell hb6
      have z6 : w.heap.size < w6.heap.size := by omega
      have z6' : w5.heap.size < w6.heap.size := by omega
      have r0 : w6.cell? ⟨w.heap.size, 0, none⟩ = some (.int .i64 0) := (hc6 _ _ (by simp; omega)).trans (by (repeat (first | (with_reducible refine cell_drew ?_) | (with_reducible refine cell_drewN _ ?_) | ((with_reducible refine cell_alloc ?_ ?_); · first | omega | (simp; done) | (simp; omega) | assumption) | ((with_reducible refine cell_set ?_ ?_); · first | (intro e; injection e; omega) | (intro e; simp at e; done) | (intro e; simp at e; omega)))); exact q0)
      have r1 : w6.cell? ⟨w.heap.size, 1, none⟩ = some (.int .i64 0) := (hc6 _ _ (by simp; omega)).trans (by (repeat (first | (with_reducible refine cell_drew ?_) | (with_reducible refine cell_drewN _ ?_) | ((with_reducible refine cell_alloc ?_ ?_); · first | omega | (simp; done) | (simp; omega) | assumption) | ((with_reducible refine cell_set ?_ ?_); · first | (intro e; injection e; omega) | (intro e; simp at e; done) | (intro e; simp at e; omega)))); exact q1)
      go_wp2
      refine bodyPost_ret (v := .tuple #[bar2 0 0, .bool false]) (by simp [results, Tryd.results7, go_sem, r0, r1]) rfl ⟨0, 0, false, rfl, HP2.out, ?_⟩
      have HB6 : Below w.heap.size w w6 := bcall (by simp; omega) hb6 (by have h : Below w.heap.size w (w5.alloc (.cells #[.int .i64 x, .int .i64 y] 23)) := B5.alloc (by omega) _; exact h)
      (repeat (first | (with_reducible exact Below.refl _ _) | (with_reducible assumption) | (with_reducible refine Below.drew ?_) | ((with_reducible refine balloc ?_ _ ?_); · (first | (simp; done) | (simp; omega) | omega)) | ((with_reducible refine bset ?_ _ ?_); · (first | (simp; done) | (simp; omega) | omega)) | (with_reducible refine bdrewN _ ?_) | ((with_reducible refine bcall ?_ (by assumption) ?_); · (first | (simp; done) | (simp; omega) | omega))))

end Go.Proofs.YtcocdidkkcjbgaaDoor
