/-
  Contracts: WinsPlain, WinsKept, KeptHeap of the program and of the model. Conditions: none.
-/
import Derived.Test.YthemmckchmpicaaHp
import Derived.Test.YthemmckchmpicaaBars
namespace Go.Proofs.Ythemmckchmpicaa
open Go.RowKit
set_option linter.unusedSimpArgs false

def wpB (x y : Int) : Bool := barB x y && decide (x * y % 2 = 0)
def wkB (x y : Int) : Bool := barB x y && decide (hpN x y ≠ 0)
def khN (x y : Int) : Nat := if barB x y then hpN x y else 0

theorem mul144 {x y : Int} (h : barB x y = true) : 1 ≤ x * y ∧ x * y ≤ 144 := by
  obtain ⟨h1, h2, h3, h4⟩ := barB_true h
  have a : 1 * 1 ≤ x * y := Int.mul_le_mul h1 h3 (by omega) (by omega)
  have b : x * y ≤ 12 * 12 := Int.mul_le_mul h2 h4 (by omega) (by omega)
  omega
theorem fbN_yes {x y : Int} (h : barB x y = true) : fbN x y = x * y - 1 := by
  have := mul144 h
  simp only [fbN, h, if_true]
  rw [IntWalk.wrap64_in (x * y) (by omega), IntWalk.wrap64_in _ (by omega)]

set_option maxHeartbeats 1000000 in
theorem winsPlain_any (x y : Int) (w : World) :
    Calls Try.prog 14 #[bar2 x y] w fun e w' => e = .returned (.tuple #[.bool (wpB x y), .bool (barB x y)]) ∧ Below w.heap.size w w' := by
  cases hB : barB x y
  · have hw : wpB x y = false := by simp [wpB, hB]
    have hf : fbN x y = 0 := by simp [fbN, hB]
    go_enter Try.func14, Try.ntmps14
    go_wp2_with fail
    refine (fewest_any _ _ _).mono ?_; rintro e w1 ⟨rfl, hb1⟩; have s1 := hb1.size; obtain ⟨hc1, hf1⟩ := bcell hb1
    rw [hf, hB]
    clear hf hB
    go_wp2
    go_ret2
    exact ⟨by simp [hw], by (repeat (first | (with_reducible exact Below.refl _ _) | (with_reducible assumption) | (with_reducible refine Below.drew ?_) | ((with_reducible refine balloc ?_ _ ?_); · (first | (simp; done) | (simp; omega) | omega)) | ((with_reducible refine bset ?_ _ ?_); · (first | (simp; done) | (simp; omega) | omega)) | (with_reducible refine bdrewN _ ?_) | ((with_reducible refine bcall ?_ (by assumption) ?_); · (first | (simp; done) | (simp; omega) | omega))))⟩
  · have hw : wpB x y = decide (x * y % 2 = 0) := by simp [wpB, hB]
    have hf := fbN_yes hB
    have hm := mul144 hB
    go_enter Try.func14, Try.ntmps14
    go_wp2_with fail
    refine (fewest_any _ _ _).mono ?_; rintro e w1 ⟨rfl, hb1⟩; have s1 := hb1.size; obtain ⟨hc1, hf1⟩ := bcell hb1
    rw [hf, hB]
    clear hf hB
    generalize x * y = q at *
    have h0 : 0 ≤ q - 1 := by omega
    have ht : ((q - 1) % 2 == 1) = decide (q % 2 = 0) := by
      by_cases e : q % 2 = 0
      · simp [e]; omega
      · simp [e]; omega
    go_wp2
    go_ret2
    exact ⟨by simp [hw, ht], by (repeat (first | (with_reducible exact Below.refl _ _) | (with_reducible assumption) | (with_reducible refine Below.drew ?_) | ((with_reducible refine balloc ?_ _ ?_); · (first | (simp; done) | (simp; omega) | omega)) | ((with_reducible refine bset ?_ _ ?_); · (first | (simp; done) | (simp; omega) | omega)) | (with_reducible refine bdrewN _ ?_) | ((with_reducible refine bcall ?_ (by assumption) ?_); · (first | (simp; done) | (simp; omega) | omega))))⟩

set_option maxHeartbeats 1000000 in
theorem sWinsPlain_any (x y : Int) (w : World) :
    Calls Try.prog 12 #[bar2 x y] w fun e w' => e = .returned (.tuple #[.bool (wpB x y), .bool (barB x y)]) ∧ Below w.heap.size w w' := by
  cases hB : barB x y
  · have hw : wpB x y = false := by simp [wpB, hB]
    go_enter Try.func12, Try.ntmps12
    go_wp2_with fail
    refine (brGood_any _ _ _).mono ?_; rintro e w1 ⟨rfl, hb1⟩; have s1 := hb1.size; obtain ⟨hc1, hf1⟩ := bcell hb1; have z1_w0 : w.heap.size < w1.heap.size := (by have q := s1; first | omega | (simp at q; omega))
    go_wp2
    go_ret2
    exact ⟨by simp [hw], by (repeat (first | (with_reducible exact Below.refl _ _) | (with_reducible assumption) | (with_reducible refine Below.drew ?_) | ((with_reducible refine balloc ?_ _ ?_); · (first | (simp; done) | (simp; omega) | omega)) | ((with_reducible refine bset ?_ _ ?_); · (first | (simp; done) | (simp; omega) | omega)) | (with_reducible refine bdrewN _ ?_) | ((with_reducible refine bcall ?_ (by assumption) ?_); · (first | (simp; done) | (simp; omega) | omega))))⟩
  · have hw : wpB x y = decide (x * y % 2 = 0) := by simp [wpB, hB]
    have hm := mul144 hB
    have hw1 : IntKind.i64.wrap (x * y) = x * y := IntWalk.i64_in _ (by omega)
    have hw2 : wrap64 (x * y) = x * y := IntWalk.wrap64_in _ (by omega)
    have h0 : 0 ≤ x * y := by omega
    have hte : (x * y).tmod 2 = x * y % 2 := Int.tmod_eq_emod_of_nonneg h0
    go_enter Try.func12, Try.ntmps12
    go_wp2_with fail
    refine (brGood_any _ _ _).mono ?_; rintro e w1 ⟨rfl, hb1⟩; have s1 := hb1.size; obtain ⟨hc1, hf1⟩ := bcell hb1; have z1_w0 : w.heap.size < w1.heap.size := (by have q := s1; first | omega | (simp at q; omega))
    go_wp2
    go_ret2
    exact ⟨by simp [hw, hte, hw1, hw2]; rfl, by (repeat (first | (with_reducible exact Below.refl _ _) | (with_reducible assumption) | (with_reducible refine Below.drew ?_) | ((with_reducible refine balloc ?_ _ ?_); · (first | (simp; done) | (simp; omega) | omega)) | ((with_reducible refine bset ?_ _ ?_); · (first | (simp; done) | (simp; omega) | omega)) | (with_reducible refine bdrewN _ ?_) | ((with_reducible refine bcall ?_ (by assumption) ?_); · (first | (simp; done) | (simp; omega) | omega))))⟩

set_option maxHeartbeats 1000000 in
theorem keptHeapF_any (x y : Int) (w : World) :
    Calls Try.prog 25 #[bar2 x y] w fun e w' => e = .returned (.tuple #[.int .i64 (khN x y : Nat), .bool (barB x y)]) ∧ Below w.heap.size w w' := by
  cases hB : barB x y
  · have hw : khN x y = 0 := by simp [khN, hB]
    go_enter Try.func25, Try.ntmps25
    go_wp2_with fail
    refine (isBar_any _ _ _).mono ?_; rintro e w1 ⟨rfl, hb1⟩; have s1 := hb1.size; obtain ⟨hc1, hf1⟩ := bcell hb1; have z1_w0 : w.heap.size < w1.heap.size := (by have q := s1; first | omega | (simp at q; omega))
    go_wp2
    go_ret2
    exact ⟨by simp [hw], by (repeat (first | (with_reducible exact Below.refl _ _) | (with_reducible assumption) | (with_reducible refine Below.drew ?_) | ((with_reducible refine balloc ?_ _ ?_); · (first | (simp; done) | (simp; omega) | omega)) | ((with_reducible refine bset ?_ _ ?_); · (first | (simp; done) | (simp; omega) | omega)) | (with_reducible refine bdrewN _ ?_) | ((with_reducible refine bcall ?_ (by assumption) ?_); · (first | (simp; done) | (simp; omega) | omega))))⟩
  · have hw : khN x y = hpN x y := by simp [khN, hB]
    go_enter Try.func25, Try.ntmps25
    go_wp2_with fail
    refine (isBar_any _ _ _).mono ?_; rintro e w1 ⟨rfl, hb1⟩; have s1 := hb1.size; obtain ⟨hc1, hf1⟩ := bcell hb1; have z1_w0 : w.heap.size < w1.heap.size := (by have q := s1; first | omega | (simp at q; omega))
    go_wp2_with fail
    refine (keptHeap_any _ _ _ hB).mono ?_; rintro e w2 ⟨rfl, hb2⟩; have s2 := hb2.size; obtain ⟨hc2, hf2⟩ := bcell hb2
    go_wp2
    go_ret2
    exact ⟨by simp [hw], by (repeat (first | (with_reducible exact Below.refl _ _) | (with_reducible assumption) | (with_reducible refine Below.drew ?_) | ((with_reducible refine balloc ?_ _ ?_); · (first | (simp; done) | (simp; omega) | omega)) | ((with_reducible refine bset ?_ _ ?_); · (first | (simp; done) | (simp; omega) | omega)) | (with_reducible refine bdrewN _ ?_) | ((with_reducible refine bcall ?_ (by assumption) ?_); · (first | (simp; done) | (simp; omega) | omega))))⟩

set_option maxHeartbeats 1000000 in
theorem sKeptHeap_any (x y : Int) (w : World) :
    Calls Try.prog 24 #[bar2 x y] w fun e w' => e = .returned (.tuple #[.int .i64 (khN x y : Nat), .bool (barB x y)]) ∧ Below w.heap.size w w' := by
  cases hB : barB x y
  · have hw : khN x y = 0 := by simp [khN, hB]
    go_enter Try.func24, Try.ntmps24
    go_wp2_with fail
    refine (brGood_any _ _ _).mono ?_; rintro e w1 ⟨rfl, hb1⟩; have s1 := hb1.size; obtain ⟨hc1, hf1⟩ := bcell hb1; have z1_w0 : w.heap.size < w1.heap.size := (by have q := s1; first | omega | (simp at q; omega))
    go_wp2
    go_ret2
    exact ⟨by simp [hw], by (repeat (first | (with_reducible exact Below.refl _ _) | (with_reducible assumption) | (with_reducible refine Below.drew ?_) | ((with_reducible refine balloc ?_ _ ?_); · (first | (simp; done) | (simp; omega) | omega)) | ((with_reducible refine bset ?_ _ ?_); · (first | (simp; done) | (simp; omega) | omega)) | (with_reducible refine bdrewN _ ?_) | ((with_reducible refine bcall ?_ (by assumption) ?_); · (first | (simp; done) | (simp; omega) | omega))))⟩
  · have hw : khN x y = hpN x y := by simp [khN, hB]
    go_enter Try.func24, Try.ntmps24
    go_wp2_with fail
    refine (brGood_any _ _ _).mono ?_; rintro e w1 ⟨rfl, hb1⟩; have s1 := hb1.size; obtain ⟨hc1, hf1⟩ := bcell hb1; have z1_w0 : w.heap.size < w1.heap.size := (by have q := s1; first | omega | (simp at q; omega))
    go_wp2_with fail
    refine (laHeap_any _ _ _ hB).mono ?_; rintro e w2 ⟨rfl, hb2⟩; have s2 := hb2.size; obtain ⟨hc2, hf2⟩ := bcell hb2
    go_wp2
    go_ret2
    exact ⟨by simp [hw], by (repeat (first | (with_reducible exact Below.refl _ _) | (with_reducible assumption) | (with_reducible refine Below.drew ?_) | ((with_reducible refine balloc ?_ _ ?_); · (first | (simp; done) | (simp; omega) | omega)) | ((with_reducible refine bset ?_ _ ?_); · (first | (simp; done) | (simp; omega) | omega)) | (with_reducible refine bdrewN _ ?_) | ((with_reducible refine bcall ?_ (by assumption) ?_); · (first | (simp; done) | (simp; omega) | omega))))⟩

set_option maxHeartbeats 1000000 in
theorem winsKept_any (x y : Int) (w : World) :
    Calls Try.prog 16 #[bar2 x y] w fun e w' => e = .returned (.tuple #[.bool (wkB x y), .bool (barB x y)]) ∧ Below w.heap.size w w' := by
  cases hB : barB x y
  · have hw : wkB x y = false := by simp [wkB, hB]
    go_enter Try.func16, Try.ntmps16
    go_wp2_with fail
    refine (isBar_any _ _ _).mono ?_; rintro e w1 ⟨rfl, hb1⟩; have s1 := hb1.size; obtain ⟨hc1, hf1⟩ := bcell hb1; have z1_w0 : w.heap.size < w1.heap.size := (by have q := s1; first | omega | (simp at q; omega))
    go_wp2
    go_ret2
    exact ⟨by simp [hw], by (repeat (first | (with_reducible exact Below.refl _ _) | (with_reducible assumption) | (with_reducible refine Below.drew ?_) | ((with_reducible refine balloc ?_ _ ?_); · (first | (simp; done) | (simp; omega) | omega)) | ((with_reducible refine bset ?_ _ ?_); · (first | (simp; done) | (simp; omega) | omega)) | (with_reducible refine bdrewN _ ?_) | ((with_reducible refine bcall ?_ (by assumption) ?_); · (first | (simp; done) | (simp; omega) | omega))))⟩
  · have hw : wkB x y = decide (hpN x y ≠ 0) := by simp [wkB, hB]
    have ht : (((hpN x y : Nat) : Int) != 0) = decide (hpN x y ≠ 0) := by by_cases e : hpN x y = 0 <;> simp [e]
    go_enter Try.func16, Try.ntmps16
    go_wp2_with fail
    refine (isBar_any _ _ _).mono ?_; rintro e w1 ⟨rfl, hb1⟩; have s1 := hb1.size; obtain ⟨hc1, hf1⟩ := bcell hb1; have z1_w0 : w.heap.size < w1.heap.size := (by have q := s1; first | omega | (simp at q; omega))
    go_wp2_with fail
    refine (keptHeap_any _ _ _ hB).mono ?_; rintro e w2 ⟨rfl, hb2⟩; have s2 := hb2.size; obtain ⟨hc2, hf2⟩ := bcell hb2
    go_wp2
    go_ret2
    exact ⟨by simp [hw], by (repeat (first | (with_reducible exact Below.refl _ _) | (with_reducible assumption) | (with_reducible refine Below.drew ?_) | ((with_reducible refine balloc ?_ _ ?_); · (first | (simp; done) | (simp; omega) | omega)) | ((with_reducible refine bset ?_ _ ?_); · (first | (simp; done) | (simp; omega) | omega)) | (with_reducible refine bdrewN _ ?_) | ((with_reducible refine bcall ?_ (by assumption) ?_); · (first | (simp; done) | (simp; omega) | omega))))⟩

set_option maxHeartbeats 1000000 in
theorem sWinsKept_any (x y : Int) (w : World) :
    Calls Try.prog 15 #[bar2 x y] w fun e w' => e = .returned (.tuple #[.bool (wkB x y), .bool (barB x y)]) ∧ Below w.heap.size w w' := by
  cases hB : barB x y
  · have hw : wkB x y = false := by simp [wkB, hB]
    go_enter Try.func15, Try.ntmps15
    go_wp2_with fail
    refine (brGood_any _ _ _).mono ?_; rintro e w1 ⟨rfl, hb1⟩; have s1 := hb1.size; obtain ⟨hc1, hf1⟩ := bcell hb1; have z1_w0 : w.heap.size < w1.heap.size := (by have q := s1; first | omega | (simp at q; omega))
    go_wp2
    go_ret2
    exact ⟨by simp [hw], by (repeat (first | (with_reducible exact Below.refl _ _) | (with_reducible assumption) | (with_reducible refine Below.drew ?_) | ((with_reducible refine balloc ?_ _ ?_); · (first | (simp; done) | (simp; omega) | omega)) | ((with_reducible refine bset ?_ _ ?_); · (first | (simp; done) | (simp; omega) | omega)) | (with_reducible refine bdrewN _ ?_) | ((with_reducible refine bcall ?_ (by assumption) ?_); · (first | (simp; done) | (simp; omega) | omega))))⟩
  · have hw : wkB x y = decide (hpN x y ≠ 0) := by simp [wkB, hB]
    have ht : (((hpN x y : Nat) : Int) != 0) = decide (hpN x y ≠ 0) := by by_cases e : hpN x y = 0 <;> simp [e]
    go_enter Try.func15, Try.ntmps15
    go_wp2_with fail
    refine (brGood_any _ _ _).mono ?_; rintro e w1 ⟨rfl, hb1⟩; have s1 := hb1.size; obtain ⟨hc1, hf1⟩ := bcell hb1; have z1_w0 : w.heap.size < w1.heap.size := (by have q := s1; first | omega | (simp at q; omega))
    go_wp2_with fail
    refine (laHeap_any _ _ _ hB).mono ?_; rintro e w2 ⟨rfl, hb2⟩; have s2 := hb2.size; obtain ⟨hc2, hf2⟩ := bcell hb2
    go_wp2
    go_ret2
    exact ⟨by simp [hw], by (repeat (first | (with_reducible exact Below.refl _ _) | (with_reducible assumption) | (with_reducible refine Below.drew ?_) | ((with_reducible refine balloc ?_ _ ?_); · (first | (simp; done) | (simp; omega) | omega)) | ((with_reducible refine bset ?_ _ ?_); · (first | (simp; done) | (simp; omega) | omega)) | (with_reducible refine bdrewN _ ?_) | ((with_reducible refine bcall ?_ (by assumption) ?_); · (first | (simp; done) | (simp; omega) | omega))))⟩

end Go.Proofs.Ythemmckchmpicaa
