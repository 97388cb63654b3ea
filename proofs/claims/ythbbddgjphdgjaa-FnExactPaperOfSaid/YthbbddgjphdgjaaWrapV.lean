/-
  Contracts: VolumeOf, PaperOf, RibbonOf, FitsInto, SheetFor and FitsSheet of the program and of the model. Conditions: none.
-/
import Derived.Test.YthbbddgjphdgjaaWrap
namespace Go.Proofs.Ythbbddgjphdgjaa
open Go.RowKit
set_option linter.unusedVariables false
set_option linter.unusedSimpArgs false

def volN (x y z : Int) : Int := if boxB x y z then wrap64 (wrap64 (x * y) * z) else 0
def papR (x y z : Int) : Int := wrap64 (2 * wrap64 (wrap64 (wrap64 (x * y) + wrap64 (x * z)) + wrap64 (y * z)))
def papN (x y z : Int) : Int := if boxB x y z then papR x y z else 0
def ribN (x y z a : Int) : Int := if boxB x y z && inB a 0 60 then wrap64 (wrap64 (wrap64 (2 * wrap64 (x + z)) + wrap64 (2 * wrap64 (y + z))) + a) else 0
def intoB (x y z a b c : Int) : Bool := decide (x < a ∧ y < b ∧ z < c)
def shW (x z : Int) : Int := wrap64 (x + wrap64 (2 * z))
def shH (y z a : Int) : Int := wrap64 (wrap64 (wrap64 (2 * y) + wrap64 (2 * z)) + a)
def fsB (p q a b : Int) : Bool := decide ((p ≤ a ∧ q ≤ b) ∨ (p ≤ b ∧ q ≤ a))

set_option maxHeartbeats 400000 in
theorem volume_any (x y z : Int) (w : World) :
    Calls Try.prog 19 #[bx3 x y z] w fun e w' => e = .returned (.tuple #[.int .i64 (volN x y z), .bool (boxB x y z)]) ∧ Below w.heap.size w w' := by
  cases hB : boxB x y z
  all_goals
    have hs := volN.eq_1 x y z; simp only [hB, if_true, Bool.false_eq_true, if_false] at hs
    go_enter Try.func19, Try.ntmps19
    go_wp2_with fail
    refine (isBox_any _ _ _ _).mono ?_; rintro e w1 ⟨rfl, hb1⟩; have s1 := hb1.size; obtain ⟨hc1, hf1⟩ := bcell hb1; have z1_w0 : w.heap.size < w1.heap.size := (by have q := s1; first | omega | (simp at q; omega))
    rw [hB]
    go_wp2
    go_ret2
    exact ⟨by simp [hs], by (repeat (first | (with_reducible exact Below.refl _ _) | (with_reducible assumption) | (with_reducible refine Below.drew ?_) | ((with_reducible refine balloc ?_ _ ?_); · (first | (simp; done) | (simp; omega) | omega)) | ((with_reducible refine bset ?_ _ ?_); · (first | (simp; done) | (simp; omega) | omega)) | (with_reducible refine bdrewN _ ?_) | ((with_reducible refine bcall ?_ (by assumption) ?_); · (first | (simp; done) | (simp; omega) | omega))))⟩

set_option maxHeartbeats 400000 in
theorem sVolume_any (x y z : Int) (w : World) :
    Calls Try.prog 18 #[bx3 x y z] w fun e w' => e = .returned (.tuple #[.int .i64 (volN x y z), .bool (boxB x y z)]) ∧ Below w.heap.size w w' := by
  cases hB : boxB x y z
  all_goals
    have hs := volN.eq_1 x y z; simp only [hB, if_true, Bool.false_eq_true, if_false] at hs
    go_enter Try.func18, Try.ntmps18
    go_wp2_with fail
    refine (wrGood_any _ _ _ _).mono ?_; rintro e w1 ⟨rfl, hb1⟩; have s1 := hb1.size; obtain ⟨hc1, hf1⟩ := bcell hb1; have z1_w0 : w.heap.size < w1.heap.size := (by have q := s1; first | omega | (simp at q; omega))
    rw [hB]
    go_wp2
    go_ret2
    exact ⟨by simp [hs], by (repeat (first | (with_reducible exact Below.refl _ _) | (with_reducible assumption) | (with_reducible refine Below.drew ?_) | ((with_reducible refine balloc ?_ _ ?_); · (first | (simp; done) | (simp; omega) | omega)) | ((with_reducible refine bset ?_ _ ?_); · (first | (simp; done) | (simp; omega) | omega)) | (with_reducible refine bdrewN _ ?_) | ((with_reducible refine bcall ?_ (by assumption) ?_); · (first | (simp; done) | (simp; omega) | omega))))⟩

set_option maxHeartbeats 400000 in
theorem paperOf_any (x y z : Int) (w : World) :
    Calls Try.prog 50 #[bx3 x y z] w fun e w' => e = .returned (.int .i64 (papR x y z)) ∧ Below w.heap.size w w' := by
  go_enter Try.func50, Try.ntmps50
  go_wp2
  go_ret
  exact ⟨by simp only [papR, wrap64] <;> rfl, by (repeat (first | (with_reducible exact Below.refl _ _) | (with_reducible assumption) | (with_reducible refine Below.drew ?_) | ((with_reducible refine balloc ?_ _ ?_); · (first | (simp; done) | (simp; omega) | omega)) | ((with_reducible refine bset ?_ _ ?_); · (first | (simp; done) | (simp; omega) | omega)) | (with_reducible refine bdrewN _ ?_) | ((with_reducible refine bcall ?_ (by assumption) ?_); · (first | (simp; done) | (simp; omega) | omega))))⟩

set_option maxHeartbeats 400000 in
theorem wrPaper_any (x y z : Int) (w : World) :
    Calls Try.prog 49 #[bx3 x y z] w fun e w' => e = .returned (.int .i64 (papR x y z)) ∧ Below w.heap.size w w' := by
  go_enter Try.func49, Try.ntmps49
  go_wp2
  go_ret
  exact ⟨by simp only [papR, wrap64] <;> rfl, by (repeat (first | (with_reducible exact Below.refl _ _) | (with_reducible assumption) | (with_reducible refine Below.drew ?_) | ((with_reducible refine balloc ?_ _ ?_); · (first | (simp; done) | (simp; omega) | omega)) | ((with_reducible refine bset ?_ _ ?_); · (first | (simp; done) | (simp; omega) | omega)) | (with_reducible refine bdrewN _ ?_) | ((with_reducible refine bcall ?_ (by assumption) ?_); · (first | (simp; done) | (simp; omega) | omega))))⟩

set_option maxHeartbeats 400000 in
theorem paper_any (x y z : Int) (w : World) :
    Calls Try.prog 21 #[bx3 x y z] w fun e w' => e = .returned (.tuple #[.int .i64 (papN x y z), .bool (boxB x y z)]) ∧ Below w.heap.size w w' := by
  cases hB : boxB x y z
  · have hs : papN x y z = 0 := by simp [papN, hB]
    rw [hs]
    go_enter Try.func21, Try.ntmps21
    go_wp2_with fail
    refine (isBox_any _ _ _ _).mono ?_; rintro e w1 ⟨rfl, hb1⟩; have s1 := hb1.size; obtain ⟨hc1, hf1⟩ := bcell hb1; have z1_w0 : w.heap.size < w1.heap.size := (by have q := s1; first | omega | (simp at q; omega))
    rw [hB]
    go_wp2
    go_ret2
    exact ⟨rfl, by (repeat (first | (with_reducible exact Below.refl _ _) | (with_reducible assumption) | (with_reducible refine Below.drew ?_) | ((with_reducible refine balloc ?_ _ ?_); · (first | (simp; done) | (simp; omega) | omega)) | ((with_reducible refine bset ?_ _ ?_); · (first | (simp; done) | (simp; omega) | omega)) | (with_reducible refine bdrewN _ ?_) | ((with_reducible refine bcall ?_ (by assumption) ?_); · (first | (simp; done) | (simp; omega) | omega))))⟩
  · have hs : papN x y z = papR x y z := by simp [papN, hB]
    rw [hs]
    go_enter Try.func21, Try.ntmps21
    go_wp2_with fail
    refine (isBox_any _ _ _ _).mono ?_; rintro e w1 ⟨rfl, hb1⟩; have s1 := hb1.size; obtain ⟨hc1, hf1⟩ := bcell hb1; have z1_w0 : w.heap.size < w1.heap.size := (by have q := s1; first | omega | (simp at q; omega))
    rw [hB]
    go_wp2_with fail
    refine (paperOf_any _ _ _ _).mono ?_; rintro e w2 ⟨rfl, hb2⟩; have s2 := hb2.size; obtain ⟨hc2, hf2⟩ := bcell hb2; have z2_w0 : w.heap.size < w2.heap.size := (by have q := s2; first | omega | (simp at q; omega))
    go_wp2
    go_ret2
    exact ⟨rfl, by (repeat (first | (with_reducible exact Below.refl _ _) | (with_reducible assumption) | (with_reducible refine Below.drew ?_) | ((with_reducible refine balloc ?_ _ ?_); · (first | (simp; done) | (simp; omega) | omega)) | ((with_reducible refine bset ?_ _ ?_); · (first | (simp; done) | (simp; omega) | omega)) | (with_reducible refine bdrewN _ ?_) | ((with_reducible refine bcall ?_ (by assumption) ?_); · (first | (simp; done) | (simp; omega) | omega))))⟩

set_option maxHeartbeats 400000 in
theorem sPaper_any (x y z : Int) (w : World) :
    Calls Try.prog 20 #[bx3 x y z] w fun e w' => e = .returned (.tuple #[.int .i64 (papN x y z), .bool (boxB x y z)]) ∧ Below w.heap.size w w' := by
  cases hB : boxB x y z
  · have hs : papN x y z = 0 := by simp [papN, hB]
    rw [hs]
    go_enter Try.func20, Try.ntmps20
    go_wp2_with fail
    refine (wrGood_any _ _ _ _).mono ?_; rintro e w1 ⟨rfl, hb1⟩; have s1 := hb1.size; obtain ⟨hc1, hf1⟩ := bcell hb1; have z1_w0 : w.heap.size < w1.heap.size := (by have q := s1; first | omega | (simp at q; omega))
    rw [hB]
    go_wp2
    go_ret2
    exact ⟨rfl, by (repeat (first | (with_reducible exact Below.refl _ _) | (with_reducible assumption) | (with_reducible refine Below.drew ?_) | ((with_reducible refine balloc ?_ _ ?_); · (first | (simp; done) | (simp; omega) | omega)) | ((with_reducible refine bset ?_ _ ?_); · (first | (simp; done) | (simp; omega) | omega)) | (with_reducible refine bdrewN _ ?_) | ((with_reducible refine bcall ?_ (by assumption) ?_); · (first | (simp; done) | (simp; omega) | omega))))⟩
  · have hs : papN x y z = papR x y z := by simp [papN, hB]
    rw [hs]
    go_enter Try.func20, Try.ntmps20
    go_wp2_with fail
    refine (wrGood_any _ _ _ _).mono ?_; rintro e w1 ⟨rfl, hb1⟩; have s1 := hb1.size; obtain ⟨hc1, hf1⟩ := bcell hb1; have z1_w0 : w.heap.size < w1.heap.size := (by have q := s1; first | omega | (simp at q; omega))
    rw [hB]
    go_wp2_with fail
    refine (wrPaper_any _ _ _ _).mono ?_; rintro e w2 ⟨rfl, hb2⟩; have s2 := hb2.size; obtain ⟨hc2, hf2⟩ := bcell hb2; have z2_w0 : w.heap.size < w2.heap.size := (by have q := s2; first | omega | (simp at q; omega))
    go_wp2
    go_ret2
    exact ⟨rfl, by (repeat (first | (with_reducible exact Below.refl _ _) | (with_reducible assumption) | (with_reducible refine Below.drew ?_) | ((with_reducible refine balloc ?_ _ ?_); · (first | (simp; done) | (simp; omega) | omega)) | ((with_reducible refine bset ?_ _ ?_); · (first | (simp; done) | (simp; omega) | omega)) | (with_reducible refine bdrewN _ ?_) | ((with_reducible refine bcall ?_ (by assumption) ?_); · (first | (simp; done) | (simp; omega) | omega))))⟩

set_option maxHeartbeats 400000 in
theorem added_any (n : Int) (w : World) :
    Calls Try.prog 52 #[.int .i64 n] w fun e w' => e = .returned (.bool (inB n 0 60)) ∧ w = w' := by
  by_cases h1 : 0 ≤ n <;> by_cases h2 : n ≤ 60
  all_goals
    go_enter Try.func52, Try.ntmps52
    go_wp2
    go_ret
    exact ⟨by simp [inB, h1, h2], rfl⟩


set_option maxHeartbeats 400000 in
theorem bundle_any (n : Int) (w : World) :
    Calls Try.prog 62 #[.int .i64 n] w fun e w' => e = .returned (.bool (inB n 1 60)) ∧ w = w' := by
  by_cases h1 : 1 ≤ n <;> by_cases h2 : n ≤ 60
  all_goals
    go_enter Try.func62, Try.ntmps62
    go_wp2
    go_ret
    exact ⟨by simp [inB, h1, h2], rfl⟩

set_option maxHeartbeats 400000 in
theorem stacked_any (n : Int) (w : World) :
    Calls Try.prog 55 #[.int .i64 n] w fun e w' => e = .returned (.bool (inB n 1 500)) ∧ w = w' := by
  by_cases h1 : 1 ≤ n <;> by_cases h2 : n ≤ 500
  all_goals
    go_enter Try.func55, Try.ntmps55
    go_wp2
    go_ret
    exact ⟨by simp [inB, h1, h2], rfl⟩

set_option maxHeartbeats 400000 in
theorem ribbon_any (x y z a : Int) (w : World) :
    Calls Try.prog 23 #[bx3 x y z, .int .i64 a] w fun e w' => e = .returned (.tuple #[.int .i64 (ribN x y z a), .bool (boxB x y z && inB a 0 60)]) ∧ Below w.heap.size w w' := by
  cases hB : boxB x y z
  · have hs0 : ribN x y z a = 0 := by simp [ribN, hB]
    rw [hs0]
    go_enter Try.func23, Try.ntmps23
    go_wp2_with fail
    refine (isBox_any _ _ _ _).mono ?_; rintro e w1 ⟨rfl, hb1⟩; have s1 := hb1.size; obtain ⟨hc1, hf1⟩ := bcell hb1; have z1_w0 : w.heap.size < w1.heap.size := (by have q := s1; first | omega | (simp at q; omega))
    rw [hB]
    go_wp2
    refine bodyPost_ret (v := .tuple #[.int .i64 0, .bool false]) (by simp [results, Try.results23, go_sem, *]) rfl ⟨by simp [hB], by (repeat (first | (with_reducible exact Below.refl _ _) | (with_reducible assumption) | (with_reducible refine Below.drew ?_) | ((with_reducible refine balloc ?_ _ ?_); · (first | (simp; done) | (simp; omega) | omega)) | ((with_reducible refine bset ?_ _ ?_); · (first | (simp; done) | (simp; omega) | omega)) | (with_reducible refine bdrewN _ ?_) | ((with_reducible refine bcall ?_ (by assumption) ?_); · (first | (simp; done) | (simp; omega) | omega))))⟩
  · cases hA : inB a 0 60
    · have hs0 : ribN x y z a = 0 := by simp [ribN, hB, hA]
      rw [hs0]
      go_enter Try.func23, Try.ntmps23
      go_wp2_with fail
      refine (isBox_any _ _ _ _).mono ?_; rintro e w1 ⟨rfl, hb1⟩; have s1 := hb1.size; obtain ⟨hc1, hf1⟩ := bcell hb1; have z1_w0 : w.heap.size < w1.heap.size := (by have q := s1; first | omega | (simp at q; omega))
      rw [hB]
      go_wp2_with fail
      refine (added_any _ _).mono ?_; rintro e wx ⟨rfl, rfl⟩
      rw [hA]
      go_wp2
      refine bodyPost_ret (v := .tuple #[.int .i64 0, .bool false]) (by simp [results, Try.results23, go_sem, *]) rfl ⟨by simp [hB, hA], by (repeat (first | (with_reducible exact Below.refl _ _) | (with_reducible assumption) | (with_reducible refine Below.drew ?_) | ((with_reducible refine balloc ?_ _ ?_); · (first | (simp; done) | (simp; omega) | omega)) | ((with_reducible refine bset ?_ _ ?_); · (first | (simp; done) | (simp; omega) | omega)) | (with_reducible refine bdrewN _ ?_) | ((with_reducible refine bcall ?_ (by assumption) ?_); · (first | (simp; done) | (simp; omega) | omega))))⟩
    · have hs0 : ribN x y z a = wrap64 (wrap64 (wrap64 (2 * wrap64 (x + z)) + wrap64 (2 * wrap64 (y + z))) + a) := by simp [ribN, hB, hA]
      rw [hs0]
      go_enter Try.func23, Try.ntmps23
      go_wp2_with fail
      refine (isBox_any _ _ _ _).mono ?_; rintro e w1 ⟨rfl, hb1⟩; have s1 := hb1.size; obtain ⟨hc1, hf1⟩ := bcell hb1; have z1_w0 : w.heap.size < w1.heap.size := (by have q := s1; first | omega | (simp at q; omega))
      rw [hB]
      go_wp2_with fail
      refine (added_any _ _).mono ?_; rintro e wx ⟨rfl, rfl⟩
      rw [hA]
      go_wp2
      refine bodyPost_ret (v := .tuple #[.int .i64 (wrap64 (wrap64 (wrap64 (2 * wrap64 (x + z)) + wrap64 (2 * wrap64 (y + z))) + a)), .bool true]) (by simp [results, Try.results23, go_sem, *]) rfl ⟨by simp [hB, hA], by (repeat (first | (with_reducible exact Below.refl _ _) | (with_reducible assumption) | (with_reducible refine Below.drew ?_) | ((with_reducible refine balloc ?_ _ ?_); · (first | (simp; done) | (simp; omega) | omega)) | ((with_reducible refine bset ?_ _ ?_); · (first | (simp; done) | (simp; omega) | omega)) | (with_reducible refine bdrewN _ ?_) | ((with_reducible refine bcall ?_ (by assumption) ?_); · (first | (simp; done) | (simp; omega) | omega))))⟩

set_option maxHeartbeats 400000 in
theorem sRibbon_any (x y z a : Int) (w : World) :
    Calls Try.prog 22 #[bx3 x y z, .int .i64 a] w fun e w' => e = .returned (.tuple #[.int .i64 (ribN x y z a), .bool (boxB x y z && inB a 0 60)]) ∧ Below w.heap.size w w' := by
  cases hB : boxB x y z
  · have hs0 : ribN x y z a = 0 := by simp [ribN, hB]
    rw [hs0]
    go_enter Try.func22, Try.ntmps22
    go_wp2_with fail
    refine (wrGood_any _ _ _ _).mono ?_; rintro e w1 ⟨rfl, hb1⟩; have s1 := hb1.size; obtain ⟨hc1, hf1⟩ := bcell hb1; have z1_w0 : w.heap.size < w1.heap.size := (by have q := s1; first | omega | (simp at q; omega))
    rw [hB]
    go_wp2
    refine bodyPost_ret (v := .tuple #[.int .i64 0, .bool false]) (by simp [results, Try.results22, go_sem, *]) rfl ⟨by simp [hB], by (repeat (first | (with_reducible exact Below.refl _ _) | (with_reducible assumption) | (with_reducible refine Below.drew ?_) | ((with_reducible refine balloc ?_ _ ?_); · (first | (simp; done) | (simp; omega) | omega)) | ((with_reducible refine bset ?_ _ ?_); · (first | (simp; done) | (simp; omega) | omega)) | (with_reducible refine bdrewN _ ?_) | ((with_reducible refine bcall ?_ (by assumption) ?_); · (first | (simp; done) | (simp; omega) | omega))))⟩
  · cases hA : inB a 0 60
    · have hs0 : ribN x y z a = 0 := by simp [ribN, hB, hA]
      rw [hs0]
      go_enter Try.func22, Try.ntmps22
      go_wp2_with fail
      refine (wrGood_any _ _ _ _).mono ?_; rintro e w1 ⟨rfl, hb1⟩; have s1 := hb1.size; obtain ⟨hc1, hf1⟩ := bcell hb1; have z1_w0 : w.heap.size < w1.heap.size := (by have q := s1; first | omega | (simp at q; omega))
      rw [hB]
      go_wp2_with fail
      refine (l1In_any _ _ _ _).mono ?_; rintro e wx ⟨rfl, rfl⟩
      rw [hA]
      go_wp2
      refine bodyPost_ret (v := .tuple #[.int .i64 0, .bool false]) (by simp [results, Try.results22, go_sem, *]) rfl ⟨by simp [hB, hA], by (repeat (first | (with_reducible exact Below.refl _ _) | (with_reducible assumption) | (with_reducible refine Below.drew ?_) | ((with_reducible refine balloc ?_ _ ?_); · (first | (simp; done) | (simp; omega) | omega)) | ((with_reducible refine bset ?_ _ ?_); · (first | (simp; done) | (simp; omega) | omega)) | (with_reducible refine bdrewN _ ?_) | ((with_reducible refine bcall ?_ (by assumption) ?_); · (first | (simp; done) | (simp; omega) | omega))))⟩
    · have hs0 : ribN x y z a = wrap64 (wrap64 (wrap64 (2 * wrap64 (x + z)) + wrap64 (2 * wrap64 (y + z))) + a) := by simp [ribN, hB, hA]
      rw [hs0]
      go_enter Try.func22, Try.ntmps22
      go_wp2_with fail
      refine (wrGood_any _ _ _ _).mono ?_; rintro e w1 ⟨rfl, hb1⟩; have s1 := hb1.size; obtain ⟨hc1, hf1⟩ := bcell hb1; have z1_w0 : w.heap.size < w1.heap.size := (by have q := s1; first | omega | (simp at q; omega))
      rw [hB]
      go_wp2_with fail
      refine (l1In_any _ _ _ _).mono ?_; rintro e wx ⟨rfl, rfl⟩
      rw [hA]
      go_wp2
      refine bodyPost_ret (v := .tuple #[.int .i64 (wrap64 (wrap64 (wrap64 (2 * wrap64 (x + z)) + wrap64 (2 * wrap64 (y + z))) + a)), .bool true]) (by simp [results, Try.results22, go_sem, *]) rfl ⟨by simp [hB, hA], by (repeat (first | (with_reducible exact Below.refl _ _) | (with_reducible assumption) | (with_reducible refine Below.drew ?_) | ((with_reducible refine balloc ?_ _ ?_); · (first | (simp; done) | (simp; omega) | omega)) | ((with_reducible refine bset ?_ _ ?_); · (first | (simp; done) | (simp; omega) | omega)) | (with_reducible refine bdrewN _ ?_) | ((with_reducible refine bcall ?_ (by assumption) ?_); · (first | (simp; done) | (simp; omega) | omega))))⟩

def swN (x y z a : Int) : Int := if boxB x y z && inB a 0 60 then shW x z else 0
def shN (x y z a : Int) : Int := if boxB x y z && inB a 0 60 then shH y z a else 0






def fiV (x y z a b c : Int) : Value := .tuple #[.bool (boxB x y z && boxB a b c && intoB x y z a b c), .bool (boxB x y z && boxB a b c)]



end Go.Proofs.Ythbbddgjphdgjaa
