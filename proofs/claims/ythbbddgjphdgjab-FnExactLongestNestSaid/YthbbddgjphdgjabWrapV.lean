/-
  Contracts: VolumeOf, PaperOf, RibbonOf, FitsInto, SheetFor and FitsSheet of the program and of the model. Conditions: none.
-/
import Derived.Test.YthbbddgjphdgjabWrap
import Derived.Deep.QuietTactic
import Derived.BigQuiet
namespace Go.Proofs.Ythbbddgjphdgjab
open Go.RowKit
set_option linter.unusedVariables false
set_option linter.unusedSimpArgs false

def volN (x y z : Int) : Int := if boxB x y z then wrap64 (wrap64 (x * y) * z) else 0
def papR (x y z : Int) : Int := wrap64 (2 * wrap64 (wrap64 (wrap64 (x * y) + wrap64 (x * z)) + wrap64 (y * z)))
def papN (x y z : Int) : Int := if boxB x y z then papR x y z else 0
def ribN (x y z a : Int) : Int := if boxB x y z && inB a 0 60 then wrap64 (wrap64 (wrap64 (2 * wrap64 (x + z)) + wrap64 (2 * wrap64 (y + z))) + a) else 0
def intoB (x y z a b c : Int) : Bool := decide (x < a ∧ y < b ∧ z < c)
def shW (x z : Int) : Int := wrap64 (x + wrap64 (2 * z))
def shH (y z a : Int) : Int := wrap64 (wrap64 (wrap64 (2 * y) + wrap64 (2 * z)) + a)
def fsB (p q a b : Int) : Bool := decide ((p ≤ a ∧ q ≤ b) ∨ (p ≤ b ∧ q ≤ a))



set_option maxHeartbeats 400000 in
theorem paperOf_any (x y z : Int) (w : World) :
    Calls Try.prog 36 #[bx3 x y z] w fun e w' => e = .returned (.int .i64 (papR x y z)) ∧ Below w.heap.size w w' := by
  go_enter Try.func36, Try.ntmps36
  go_wp2
  go_ret
  exact ⟨by simp only [papR, wrap64] <;> rfl, by (repeat (first | (with_reducible exact Below.refl _ _) | (with_reducible assumption) | (with_reducible refine Below.drew ?_) | ((with_reducible refine balloc ?_ _ ?_); · (first | (simp; done) | (simp; omega) | omega)) | ((with_reducible refine bset ?_ _ ?_); · (first | (simp; done) | (simp; omega) | omega)) | (with_reducible refine bdrewN _ ?_) | ((with_reducible refine bcall ?_ (by assumption) ?_); · (first | (simp; done) | (simp; omega) | omega))))⟩

set_option maxHeartbeats 400000 in
theorem wrPaper_any (x y z : Int) (w : World) :
    Calls Try.prog 35 #[bx3 x y z] w fun e w' => e = .returned (.int .i64 (papR x y z)) ∧ Below w.heap.size w w' := by
  go_enter Try.func35, Try.ntmps35
  go_wp2
  go_ret
  exact ⟨by simp only [papR, wrap64] <;> rfl, by (repeat (first | (with_reducible exact Below.refl _ _) | (with_reducible assumption) | (with_reducible refine Below.drew ?_) | ((with_reducible refine balloc ?_ _ ?_); · (first | (simp; done) | (simp; omega) | omega)) | ((with_reducible refine bset ?_ _ ?_); · (first | (simp; done) | (simp; omega) | omega)) | (with_reducible refine bdrewN _ ?_) | ((with_reducible refine bcall ?_ (by assumption) ?_); · (first | (simp; done) | (simp; omega) | omega))))⟩



set_option maxHeartbeats 400000 in
theorem added_any (n : Int) (w : World) :
    Calls Try.prog 40 #[.int .i64 n] w fun e w' => e = .returned (.bool (inB n 0 60)) ∧ w = w' := by
  by_cases h1 : 0 ≤ n <;> by_cases h2 : n ≤ 60
  all_goals
    go_enter Try.func40, Try.ntmps40
    go_wp2
    go_ret
    exact ⟨by simp [inB, h1, h2], rfl⟩

set_option maxHeartbeats 400000 in
theorem side_any (n : Int) (w : World) :
    Calls Try.prog 41 #[.int .i64 n] w fun e w' => e = .returned (.bool (inB n 1 500)) ∧ w = w' := by
  by_cases h1 : 1 ≤ n <;> by_cases h2 : n ≤ 500
  all_goals
    go_enter Try.func41, Try.ntmps41
    go_wp2
    go_ret
    exact ⟨by simp [inB, h1, h2], rfl⟩





def swN (x y z a : Int) : Int := if boxB x y z && inB a 0 60 then shW x z else 0
def shN (x y z a : Int) : Int := if boxB x y z && inB a 0 60 then shH y z a else 0

set_option maxHeartbeats 400000 in
theorem sheet_any (x y z a : Int) (w : World) :
    Calls Try.prog 24 #[bx3 x y z, .int .i64 a] w fun e w' => e = .returned (.tuple #[.int .i64 (swN x y z a), .int .i64 (shN x y z a), .bool (boxB x y z && inB a 0 60)]) ∧ Below w.heap.size w w' := by
  cases hB : boxB x y z
  · have hs0 : swN x y z a = 0 := by simp [swN, shW, shH, hB]
    have hs1 : shN x y z a = 0 := by simp [shN, shW, shH, hB]
    rw [hs0, hs1]
    go_enter Try.func24, Try.ntmps24
    go_wp2_with fail
    refine (isBox_any _ _ _ _).mono ?_; rintro e w1 ⟨rfl, hb1⟩; have s1 := hb1.size; obtain ⟨hc1, hf1⟩ := bcell hb1; have z1_w0 : w.heap.size < w1.heap.size := (by have q := s1; first | omega | (simp at q; omega))
    rw [hB]
    go_wp2
    refine bodyPost_ret (v := .tuple #[.int .i64 0, .int .i64 0, .bool false]) (by simp [results, Try.results24, go_sem, *]) rfl ⟨by simp [hB], by (repeat (first | (with_reducible exact Below.refl _ _) | (with_reducible assumption) | (with_reducible refine Below.drew ?_) | ((with_reducible refine balloc ?_ _ ?_); · (first | (simp; done) | (simp; omega) | omega)) | ((with_reducible refine bset ?_ _ ?_); · (first | (simp; done) | (simp; omega) | omega)) | (with_reducible refine bdrewN _ ?_) | ((with_reducible refine bcall ?_ (by assumption) ?_); · (first | (simp; done) | (simp; omega) | omega))))⟩
  · cases hA : inB a 0 60
    · have hs0 : swN x y z a = 0 := by simp [swN, shW, shH, hB, hA]
      have hs1 : shN x y z a = 0 := by simp [shN, shW, shH, hB, hA]
      rw [hs0, hs1]
      go_enter Try.func24, Try.ntmps24
      go_wp2_with fail
      refine (isBox_any _ _ _ _).mono ?_; rintro e w1 ⟨rfl, hb1⟩; have s1 := hb1.size; obtain ⟨hc1, hf1⟩ := bcell hb1; have z1_w0 : w.heap.size < w1.heap.size := (by have q := s1; first | omega | (simp at q; omega))
      rw [hB]
      go_wp2_with fail
      refine (added_any _ _).mono ?_; rintro e wx ⟨rfl, rfl⟩
      rw [hA]
      go_wp2
      refine bodyPost_ret (v := .tuple #[.int .i64 0, .int .i64 0, .bool false]) (by simp [results, Try.results24, go_sem, *]) rfl ⟨by simp [hB, hA], by (repeat (first | (with_reducible exact Below.refl _ _) | (with_reducible assumption) | (with_reducible refine Below.drew ?_) | ((with_reducible refine balloc ?_ _ ?_); · (first | (simp; done) | (simp; omega) | omega)) | ((with_reducible refine bset ?_ _ ?_); · (first | (simp; done) | (simp; omega) | omega)) | (with_reducible refine bdrewN _ ?_) | ((with_reducible refine bcall ?_ (by assumption) ?_); · (first | (simp; done) | (simp; omega) | omega))))⟩
    · have hs0 : swN x y z a = wrap64 (x + wrap64 (2 * z)) := by simp [swN, shW, shH, hB, hA]
      have hs1 : shN x y z a = wrap64 (wrap64 (wrap64 (2 * y) + wrap64 (2 * z)) + a) := by simp [shN, shW, shH, hB, hA]
      rw [hs0, hs1]
      go_enter Try.func24, Try.ntmps24
      go_wp2_with fail
      refine (isBox_any _ _ _ _).mono ?_; rintro e w1 ⟨rfl, hb1⟩; have s1 := hb1.size; obtain ⟨hc1, hf1⟩ := bcell hb1; have z1_w0 : w.heap.size < w1.heap.size := (by have q := s1; first | omega | (simp at q; omega))
      rw [hB]
      go_wp2_with fail
      refine (added_any _ _).mono ?_; rintro e wx ⟨rfl, rfl⟩
      rw [hA]
      go_wp2
      go_quiet (fail)
      go_wp2
      refine bodyPost_ret (v := .tuple #[.int .i64 (wrap64 (x + wrap64 (2 * z))), .int .i64 (wrap64 (wrap64 (wrap64 (2 * y) + wrap64 (2 * z)) + a)), .bool true]) (by simp [results, Try.results24, go_sem, *]) rfl ⟨by simp [hB, hA], by (repeat (first | (with_reducible exact Below.refl _ _) | (with_reducible assumption) | (with_reducible refine Below.drew ?_) | ((with_reducible refine balloc ?_ _ ?_); · (first | (simp; done) | (simp; omega) | omega)) | ((with_reducible refine bset ?_ _ ?_); · (first | (simp; done) | (simp; omega) | omega)) | (with_reducible refine bdrewN _ ?_) | ((with_reducible refine bcall ?_ (by assumption) ?_); · (first | (simp; done) | (simp; omega) | omega))))⟩

set_option maxHeartbeats 400000 in
theorem wrSheet_any (x y z a : Int) (w : World) :
    Calls Try.prog 39 #[bx3 x y z, .int .i64 a] w fun e w' => e = .returned (.tuple #[.int .i64 (shW x z), .int .i64 (shH y z a)]) ∧ Below w.heap.size w w' := by
  go_enter Try.func39, Try.ntmps39
  go_wp2
  go_quiet (fail)
  go_wp2
  go_ret2
  exact ⟨rfl, by (repeat (first | (with_reducible exact Below.refl _ _) | (with_reducible assumption) | (with_reducible refine Below.drew ?_) | ((with_reducible refine balloc ?_ _ ?_); · (first | (simp; done) | (simp; omega) | omega)) | ((with_reducible refine bset ?_ _ ?_); · (first | (simp; done) | (simp; omega) | omega)) | (with_reducible refine bdrewN _ ?_) | ((with_reducible refine bcall ?_ (by assumption) ?_); · (first | (simp; done) | (simp; omega) | omega))))⟩

set_option maxHeartbeats 400000 in
theorem sSheet_any (x y z a : Int) (w : World) :
    Calls Try.prog 23 #[bx3 x y z, .int .i64 a] w fun e w' => e = .returned (.tuple #[.int .i64 (swN x y z a), .int .i64 (shN x y z a), .bool (boxB x y z && inB a 0 60)]) ∧ Below w.heap.size w w' := by
  cases hB : boxB x y z
  · have hs0 : swN x y z a = 0 := by simp [swN, shW, shH, hB]
    have hs1 : shN x y z a = 0 := by simp [shN, shW, shH, hB]
    rw [hs0, hs1]
    go_enter Try.func23, Try.ntmps23
    go_wp2_with fail
    refine (wrGood_any _ _ _ _).mono ?_; rintro e w1 ⟨rfl, hb1⟩; have s1 := hb1.size; obtain ⟨hc1, hf1⟩ := bcell hb1; have z1_w0 : w.heap.size < w1.heap.size := (by have q := s1; first | omega | (simp at q; omega))
    rw [hB]
    go_wp2
    refine bodyPost_ret (v := .tuple #[.int .i64 0, .int .i64 0, .bool false]) (by simp [results, Try.results23, go_sem, shW, shH, *]) rfl ⟨by simp [hB], by (repeat (first | (with_reducible exact Below.refl _ _) | (with_reducible assumption) | (with_reducible refine Below.drew ?_) | ((with_reducible refine balloc ?_ _ ?_); · (first | (simp; done) | (simp; omega) | omega)) | ((with_reducible refine bset ?_ _ ?_); · (first | (simp; done) | (simp; omega) | omega)) | (with_reducible refine bdrewN _ ?_) | ((with_reducible refine bcall ?_ (by assumption) ?_); · (first | (simp; done) | (simp; omega) | omega))))⟩
  · cases hA : inB a 0 60
    · have hs0 : swN x y z a = 0 := by simp [swN, shW, shH, hB, hA]
      have hs1 : shN x y z a = 0 := by simp [shN, shW, shH, hB, hA]
      rw [hs0, hs1]
      go_enter Try.func23, Try.ntmps23
      go_wp2_with fail
      refine (wrGood_any _ _ _ _).mono ?_; rintro e w1 ⟨rfl, hb1⟩; have s1 := hb1.size; obtain ⟨hc1, hf1⟩ := bcell hb1; have z1_w0 : w.heap.size < w1.heap.size := (by have q := s1; first | omega | (simp at q; omega))
      rw [hB]
      go_wp2_with fail
      refine (l1In_any _ _ _ _).mono ?_; rintro e wx ⟨rfl, rfl⟩
      rw [hA]
      go_wp2
      refine bodyPost_ret (v := .tuple #[.int .i64 0, .int .i64 0, .bool false]) (by simp [results, Try.results23, go_sem, shW, shH, *]) rfl ⟨by simp [hB, hA], by (repeat (first | (with_reducible exact Below.refl _ _) | (with_reducible assumption) | (with_reducible refine Below.drew ?_) | ((with_reducible refine balloc ?_ _ ?_); · (first | (simp; done) | (simp; omega) | omega)) | ((with_reducible refine bset ?_ _ ?_); · (first | (simp; done) | (simp; omega) | omega)) | (with_reducible refine bdrewN _ ?_) | ((with_reducible refine bcall ?_ (by assumption) ?_); · (first | (simp; done) | (simp; omega) | omega))))⟩
    · have hs0 : swN x y z a = wrap64 (x + wrap64 (2 * z)) := by simp [swN, shW, shH, hB, hA]
      have hs1 : shN x y z a = wrap64 (wrap64 (wrap64 (2 * y) + wrap64 (2 * z)) + a) := by simp [shN, shW, shH, hB, hA]
      rw [hs0, hs1]
      go_enter Try.func23, Try.ntmps23
      go_wp2_with fail
      refine (wrGood_any _ _ _ _).mono ?_; rintro e w1 ⟨rfl, hb1⟩; have s1 := hb1.size; obtain ⟨hc1, hf1⟩ := bcell hb1; have z1_w0 : w.heap.size < w1.heap.size := (by have q := s1; first | omega | (simp at q; omega))
      rw [hB]
      go_wp2_with fail
      refine (l1In_any _ _ _ _).mono ?_; rintro e wx ⟨rfl, rfl⟩
      rw [hA]
      go_wp2_with fail
      refine (wrSheet_any _ _ _ _ _).mono ?_; rintro e w2 ⟨rfl, hb2⟩; have s2 := hb2.size; obtain ⟨hc2, hf2⟩ := bcell hb2; have z2_w0 : w.heap.size < w2.heap.size := (by have q := s2; first | omega | (simp at q; omega))
      go_wp2
      refine bodyPost_ret (v := .tuple #[.int .i64 (wrap64 (x + wrap64 (2 * z))), .int .i64 (wrap64 (wrap64 (wrap64 (2 * y) + wrap64 (2 * z)) + a)), .bool true]) (by simp [results, Try.results23, go_sem, shW, shH, *]) rfl ⟨by simp [hB, hA], by (repeat (first | (with_reducible exact Below.refl _ _) | (with_reducible assumption) | (with_reducible refine Below.drew ?_) | ((with_reducible refine balloc ?_ _ ?_); · (first | (simp; done) | (simp; omega) | omega)) | ((with_reducible refine bset ?_ _ ?_); · (first | (simp; done) | (simp; omega) | omega)) | (with_reducible refine bdrewN _ ?_) | ((with_reducible refine bcall ?_ (by assumption) ?_); · (first | (simp; done) | (simp; omega) | omega))))⟩

set_option maxHeartbeats 400000 in
theorem fitsInto_any (x y z a b c : Int) (w : World) :
    Calls Try.prog 30 #[bx3 x y z, bx3 a b c] w fun e w' => e = .returned (.bool (intoB x y z a b c)) ∧ Below w.heap.size w w' := by
  by_cases h1 : x < a
  · by_cases h2 : y < b
    · by_cases h3 : z < c
      all_goals
        go_enter Try.func30, Try.ntmps30
        go_wp2
        go_ret
        exact ⟨ret_bool (by simp [intoB]; omega), by (repeat (first | (with_reducible exact Below.refl _ _) | (with_reducible assumption) | (with_reducible refine Below.drew ?_) | ((with_reducible refine balloc ?_ _ ?_); · (first | (simp; done) | (simp; omega) | omega)) | ((with_reducible refine bset ?_ _ ?_); · (first | (simp; done) | (simp; omega) | omega)) | (with_reducible refine bdrewN _ ?_) | ((with_reducible refine bcall ?_ (by assumption) ?_); · (first | (simp; done) | (simp; omega) | omega))))⟩
    · go_enter Try.func30, Try.ntmps30
      go_wp2
      go_ret
      exact ⟨ret_bool (by simp [intoB]; omega), by (repeat (first | (with_reducible exact Below.refl _ _) | (with_reducible assumption) | (with_reducible refine Below.drew ?_) | ((with_reducible refine balloc ?_ _ ?_); · (first | (simp; done) | (simp; omega) | omega)) | ((with_reducible refine bset ?_ _ ?_); · (first | (simp; done) | (simp; omega) | omega)) | (with_reducible refine bdrewN _ ?_) | ((with_reducible refine bcall ?_ (by assumption) ?_); · (first | (simp; done) | (simp; omega) | omega))))⟩
  · go_enter Try.func30, Try.ntmps30
    go_wp2
    go_ret
    exact ⟨ret_bool (by simp [intoB]; omega), by (repeat (first | (with_reducible exact Below.refl _ _) | (with_reducible assumption) | (with_reducible refine Below.drew ?_) | ((with_reducible refine balloc ?_ _ ?_); · (first | (simp; done) | (simp; omega) | omega)) | ((with_reducible refine bset ?_ _ ?_); · (first | (simp; done) | (simp; omega) | omega)) | (with_reducible refine bdrewN _ ?_) | ((with_reducible refine bcall ?_ (by assumption) ?_); · (first | (simp; done) | (simp; omega) | omega))))⟩

set_option maxHeartbeats 400000 in
theorem wrInto_any (x y z a b c : Int) (w : World) :
    Calls Try.prog 28 #[bx3 x y z, bx3 a b c] w fun e w' => e = .returned (.bool (intoB x y z a b c)) ∧ Below w.heap.size w w' := by
  by_cases h1 : x < a
  · by_cases h2 : y < b
    · by_cases h3 : z < c
      all_goals
        go_enter Try.func28, Try.ntmps28
        go_wp2
        go_ret
        exact ⟨ret_bool (by simp [intoB]; omega), by (repeat (first | (with_reducible exact Below.refl _ _) | (with_reducible assumption) | (with_reducible refine Below.drew ?_) | ((with_reducible refine balloc ?_ _ ?_); · (first | (simp; done) | (simp; omega) | omega)) | ((with_reducible refine bset ?_ _ ?_); · (first | (simp; done) | (simp; omega) | omega)) | (with_reducible refine bdrewN _ ?_) | ((with_reducible refine bcall ?_ (by assumption) ?_); · (first | (simp; done) | (simp; omega) | omega))))⟩
    · go_enter Try.func28, Try.ntmps28
      go_wp2
      go_ret
      exact ⟨ret_bool (by simp [intoB]; omega), by (repeat (first | (with_reducible exact Below.refl _ _) | (with_reducible assumption) | (with_reducible refine Below.drew ?_) | ((with_reducible refine balloc ?_ _ ?_); · (first | (simp; done) | (simp; omega) | omega)) | ((with_reducible refine bset ?_ _ ?_); · (first | (simp; done) | (simp; omega) | omega)) | (with_reducible refine bdrewN _ ?_) | ((with_reducible refine bcall ?_ (by assumption) ?_); · (first | (simp; done) | (simp; omega) | omega))))⟩
  · go_enter Try.func28, Try.ntmps28
    go_wp2
    go_ret
    exact ⟨ret_bool (by simp [intoB]; omega), by (repeat (first | (with_reducible exact Below.refl _ _) | (with_reducible assumption) | (with_reducible refine Below.drew ?_) | ((with_reducible refine balloc ?_ _ ?_); · (first | (simp; done) | (simp; omega) | omega)) | ((with_reducible refine bset ?_ _ ?_); · (first | (simp; done) | (simp; omega) | omega)) | (with_reducible refine bdrewN _ ?_) | ((with_reducible refine bcall ?_ (by assumption) ?_); · (first | (simp; done) | (simp; omega) | omega))))⟩

def fiA (x y z a b c : Int) : Bool := boxB x y z && boxB a b c && intoB x y z a b c
def fiO (x y z a b c : Int) : Bool := boxB x y z && boxB a b c

set_option maxHeartbeats 400000 in
theorem fitsF_any (x y z a b c : Int) (w : World) :
    Calls Try.prog 10 #[bx3 x y z, bx3 a b c] w fun e w' => e = .returned (.tuple #[.bool (fiA x y z a b c), .bool (fiO x y z a b c)]) ∧ Below w.heap.size w w' := by
  cases hB : boxB x y z
  · rw [show fiA x y z a b c = false by simp [fiA, hB], show fiO x y z a b c = false by simp [fiO, hB]]
    go_enter Try.func10, Try.ntmps10
    go_wp2_with fail
    refine (isBox_any _ _ _ _).mono ?_; rintro e w1 ⟨rfl, hb1⟩; have s1 := hb1.size; obtain ⟨hc1, hf1⟩ := bcell hb1; have z1_w0 : w.heap.size < w1.heap.size := (by have q := s1; first | omega | (simp at q; omega)); have z1_w1 : w.heap.size + 1 < w1.heap.size := (by have q := s1; first | omega | (simp at q; omega))
    rw [hB]
    go_wp2
    refine bodyPost_ret (v := .tuple #[.bool false, .bool false]) (by simp [results, Try.results10, go_sem]) rfl ⟨rfl, by (repeat (first | (with_reducible exact Below.refl _ _) | (with_reducible assumption) | (with_reducible refine Below.drew ?_) | ((with_reducible refine balloc ?_ _ ?_); · (first | (simp; done) | (simp; omega) | omega)) | ((with_reducible refine bset ?_ _ ?_); · (first | (simp; done) | (simp; omega) | omega)) | (with_reducible refine bdrewN _ ?_) | ((with_reducible refine bcall ?_ (by assumption) ?_); · (first | (simp; done) | (simp; omega) | omega))))⟩
  · cases hC : boxB a b c
    · rw [show fiA x y z a b c = false by simp [fiA, hC], show fiO x y z a b c = false by simp [fiO, hC]]
      go_enter Try.func10, Try.ntmps10
      go_wp2_with fail
      refine (isBox_any _ _ _ _).mono ?_; rintro e w1 ⟨rfl, hb1⟩; have s1 := hb1.size; obtain ⟨hc1, hf1⟩ := bcell hb1; have z1_w0 : w.heap.size < w1.heap.size := (by have q := s1; first | omega | (simp at q; omega)); have z1_w1 : w.heap.size + 1 < w1.heap.size := (by have q := s1; first | omega | (simp at q; omega))
      rw [hB]
      go_wp2_with fail
      refine (isBox_any _ _ _ _).mono ?_; rintro e w2 ⟨rfl, hb2⟩; have s2 := hb2.size; obtain ⟨hc2, hf2⟩ := bcell hb2; have z2_w0 : w.heap.size < w2.heap.size := (by have q := s2; first | omega | (simp at q; omega)); have z2_w1 : w.heap.size + 1 < w2.heap.size := (by have q := s2; first | omega | (simp at q; omega))
      rw [hC]
      go_wp2
      refine bodyPost_ret (v := .tuple #[.bool false, .bool false]) (by simp [results, Try.results10, go_sem]) rfl ⟨rfl, by (repeat (first | (with_reducible exact Below.refl _ _) | (with_reducible assumption) | (with_reducible refine Below.drew ?_) | ((with_reducible refine balloc ?_ _ ?_); · (first | (simp; done) | (simp; omega) | omega)) | ((with_reducible refine bset ?_ _ ?_); · (first | (simp; done) | (simp; omega) | omega)) | (with_reducible refine bdrewN _ ?_) | ((with_reducible refine bcall ?_ (by assumption) ?_); · (first | (simp; done) | (simp; omega) | omega))))⟩
    · rw [show fiA x y z a b c = intoB x y z a b c by simp [fiA, hB, hC], show fiO x y z a b c = true by simp [fiO, hB, hC]]
      go_enter Try.func10, Try.ntmps10
      go_wp2_with fail
      refine (isBox_any _ _ _ _).mono ?_; rintro e w1 ⟨rfl, hb1⟩; have s1 := hb1.size; obtain ⟨hc1, hf1⟩ := bcell hb1; have z1_w0 : w.heap.size < w1.heap.size := (by have q := s1; first | omega | (simp at q; omega)); have z1_w1 : w.heap.size + 1 < w1.heap.size := (by have q := s1; first | omega | (simp at q; omega))
      rw [hB]
      go_wp2_with fail
      refine (isBox_any _ _ _ _).mono ?_; rintro e w2 ⟨rfl, hb2⟩; have s2 := hb2.size; obtain ⟨hc2, hf2⟩ := bcell hb2; have z2_w0 : w.heap.size < w2.heap.size := (by have q := s2; first | omega | (simp at q; omega)); have z2_w1 : w.heap.size + 1 < w2.heap.size := (by have q := s2; first | omega | (simp at q; omega))
      rw [hC]
      go_wp2_with fail
      refine (fitsInto_any _ _ _ _ _ _ _).mono ?_; rintro e w3 ⟨rfl, hb3⟩; have s3 := hb3.size; obtain ⟨hc3, hf3⟩ := bcell hb3; have z3_w0 : w.heap.size < w3.heap.size := (by have q := s3; first | omega | (simp at q; omega)); have z3_w1 : w.heap.size + 1 < w3.heap.size := (by have q := s3; first | omega | (simp at q; omega))
      go_wp2
      refine bodyPost_ret (v := .tuple #[.bool (intoB x y z a b c), .bool true]) (by simp [results, Try.results10, go_sem]) rfl ⟨rfl, by (repeat (first | (with_reducible exact Below.refl _ _) | (with_reducible assumption) | (with_reducible refine Below.drew ?_) | ((with_reducible refine balloc ?_ _ ?_); · (first | (simp; done) | (simp; omega) | omega)) | ((with_reducible refine bset ?_ _ ?_); · (first | (simp; done) | (simp; omega) | omega)) | (with_reducible refine bdrewN _ ?_) | ((with_reducible refine bcall ?_ (by assumption) ?_); · (first | (simp; done) | (simp; omega) | omega))))⟩

set_option maxHeartbeats 400000 in
theorem sFits_any (x y z a b c : Int) (w : World) :
    Calls Try.prog 8 #[bx3 x y z, bx3 a b c] w fun e w' => e = .returned (.tuple #[.bool (fiA x y z a b c), .bool (fiO x y z a b c)]) ∧ Below w.heap.size w w' := by
  cases hB : boxB x y z
  · rw [show fiA x y z a b c = false by simp [fiA, hB], show fiO x y z a b c = false by simp [fiO, hB]]
    go_enter Try.func8, Try.ntmps8
    go_wp2_with fail
    refine (wrGood_any _ _ _ _).mono ?_; rintro e w1 ⟨rfl, hb1⟩; have s1 := hb1.size; obtain ⟨hc1, hf1⟩ := bcell hb1; have z1_w0 : w.heap.size < w1.heap.size := (by have q := s1; first | omega | (simp at q; omega)); have z1_w1 : w.heap.size + 1 < w1.heap.size := (by have q := s1; first | omega | (simp at q; omega))
    rw [hB]
    go_wp2
    refine bodyPost_ret (v := .tuple #[.bool false, .bool false]) (by simp [results, Try.results8, go_sem]) rfl ⟨rfl, by (repeat (first | (with_reducible exact Below.refl _ _) | (with_reducible assumption) | (with_reducible refine Below.drew ?_) | ((with_reducible refine balloc ?_ _ ?_); · (first | (simp; done) | (simp; omega) | omega)) | ((with_reducible refine bset ?_ _ ?_); · (first | (simp; done) | (simp; omega) | omega)) | (with_reducible refine bdrewN _ ?_) | ((with_reducible refine bcall ?_ (by assumption) ?_); · (first | (simp; done) | (simp; omega) | omega))))⟩
  · cases hC : boxB a b c
    · rw [show fiA x y z a b c = false by simp [fiA, hC], show fiO x y z a b c = false by simp [fiO, hC]]
      go_enter Try.func8, Try.ntmps8
      go_wp2_with fail
      refine (wrGood_any _ _ _ _).mono ?_; rintro e w1 ⟨rfl, hb1⟩; have s1 := hb1.size; obtain ⟨hc1, hf1⟩ := bcell hb1; have z1_w0 : w.heap.size < w1.heap.size := (by have q := s1; first | omega | (simp at q; omega)); have z1_w1 : w.heap.size + 1 < w1.heap.size := (by have q := s1; first | omega | (simp at q; omega))
      rw [hB]
      go_wp2_with fail
      refine (wrGood_any _ _ _ _).mono ?_; rintro e w2 ⟨rfl, hb2⟩; have s2 := hb2.size; obtain ⟨hc2, hf2⟩ := bcell hb2; have z2_w0 : w.heap.size < w2.heap.size := (by have q := s2; first | omega | (simp at q; omega)); have z2_w1 : w.heap.size + 1 < w2.heap.size := (by have q := s2; first | omega | (simp at q; omega))
      rw [hC]
      go_wp2
      refine bodyPost_ret (v := .tuple #[.bool false, .bool false]) (by simp [results, Try.results8, go_sem]) rfl ⟨rfl, by (repeat (first | (with_reducible exact Below.refl _ _) | (with_reducible assumption) | (with_reducible refine Below.drew ?_) | ((with_reducible refine balloc ?_ _ ?_); · (first | (simp; done) | (simp; omega) | omega)) | ((with_reducible refine bset ?_ _ ?_); · (first | (simp; done) | (simp; omega) | omega)) | (with_reducible refine bdrewN _ ?_) | ((with_reducible refine bcall ?_ (by assumption) ?_); · (first | (simp; done) | (simp; omega) | omega))))⟩
    · rw [show fiA x y z a b c = intoB x y z a b c by simp [fiA, hB, hC], show fiO x y z a b c = true by simp [fiO, hB, hC]]
      go_enter Try.func8, Try.ntmps8
      go_wp2_with fail
      refine (wrGood_any _ _ _ _).mono ?_; rintro e w1 ⟨rfl, hb1⟩; have s1 := hb1.size; obtain ⟨hc1, hf1⟩ := bcell hb1; have z1_w0 : w.heap.size < w1.heap.size := (by have q := s1; first | omega | (simp at q; omega)); have z1_w1 : w.heap.size + 1 < w1.heap.size := (by have q := s1; first | omega | (simp at q; omega))
      rw [hB]
      go_wp2_with fail
      refine (wrGood_any _ _ _ _).mono ?_; rintro e w2 ⟨rfl, hb2⟩; have s2 := hb2.size; obtain ⟨hc2, hf2⟩ := bcell hb2; have z2_w0 : w.heap.size < w2.heap.size := (by have q := s2; first | omega | (simp at q; omega)); have z2_w1 : w.heap.size + 1 < w2.heap.size := (by have q := s2; first | omega | (simp at q; omega))
      rw [hC]
      go_wp2_with fail
      refine (wrInto_any _ _ _ _ _ _ _).mono ?_; rintro e w3 ⟨rfl, hb3⟩; have s3 := hb3.size; obtain ⟨hc3, hf3⟩ := bcell hb3; have z3_w0 : w.heap.size < w3.heap.size := (by have q := s3; first | omega | (simp at q; omega)); have z3_w1 : w.heap.size + 1 < w3.heap.size := (by have q := s3; first | omega | (simp at q; omega))
      go_wp2
      refine bodyPost_ret (v := .tuple #[.bool (intoB x y z a b c), .bool true]) (by simp [results, Try.results8, go_sem]) rfl ⟨rfl, by (repeat (first | (with_reducible exact Below.refl _ _) | (with_reducible assumption) | (with_reducible refine Below.drew ?_) | ((with_reducible refine balloc ?_ _ ?_); · (first | (simp; done) | (simp; omega) | omega)) | ((with_reducible refine bset ?_ _ ?_); · (first | (simp; done) | (simp; omega) | omega)) | (with_reducible refine bdrewN _ ?_) | ((with_reducible refine bcall ?_ (by assumption) ?_); · (first | (simp; done) | (simp; omega) | omega))))⟩

end Go.Proofs.Ythbbddgjphdgjab
