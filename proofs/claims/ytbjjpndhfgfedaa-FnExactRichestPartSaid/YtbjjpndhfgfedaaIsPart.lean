/-
  Contract: whether a rectangle is inside a bar, of the program.
-/
import Derived.Test.YtbjjpndhfgfedaaNutAt
namespace Go.Proofs.Ytbjjpndhfgfedaa
open Go.RowKit

/-- a value of the struct of a part -/
abbrev part4 (x y a b : Int) : Value := .agg #[.int .i64 x, .int .i64 y, .int .i64 a, .int .i64 b]
def partB (W H x y a b : Int) : Bool := barB a b && decide (0 ≤ x) && decide (0 ≤ y) && decide (x ≤ W - a) && decide (y ≤ H - b)

set_option maxRecDepth 100000 in
set_option maxHeartbeats 1000000 in
theorem isPart_any (W H x y a b : Int) (w : World) (hW0 : 0 ≤ W) (hW : W ≤ 100) (hH0 : 0 ≤ H) (hH : H ≤ 100) :
    Calls Try.prog 57 #[bar2 W H, part4 x y a b] w fun e w' => e = .returned (.bool (partB W H x y a b)) ∧ Below w.heap.size w w' := by
  cases hB : barB a b
  · have hP : partB W H x y a b = false := by simp [partB, hB]
    rw [hP]
    clear hP
    go_enter Try.func57, Try.ntmps57
    go_wp2_with fail
    refine (isBar_any _ _ _).mono ?_; rintro e w1 ⟨rfl, hb1⟩; have s1 := hb1.size; obtain ⟨hc1, hf1⟩ := bcell hb1; have z1_w0 : w.heap.size < w1.heap.size := (by have q := s1; first | omega | (simp at q; omega)); have z1_w1 : w.heap.size + 1 < w1.heap.size := (by have q := s1; first | omega | (simp at q; omega))
    go_wp2
    go_ret
    exact ⟨rfl, by (repeat (first | (with_reducible exact Below.refl _ _) | (with_reducible assumption) | (with_reducible refine Below.drew ?_) | ((with_reducible refine balloc ?_ _ ?_); · (first | (simp; done) | (simp; omega) | omega)) | ((with_reducible refine bset ?_ _ ?_); · (first | (simp; done) | (simp; omega) | omega)) | (with_reducible refine bdrewN _ ?_) | ((with_reducible refine bcall ?_ (by assumption) ?_); · (first | (simp; done) | (simp; omega) | omega))))⟩
  · obtain ⟨a1, a2, b1, b2⟩ := barB_true hB
    by_cases h1 : 0 ≤ x
    · by_cases h2 : 0 ≤ y
      · by_cases h3 : x ≤ W - a
        · have hP : partB W H x y a b = decide (y ≤ H - b) := by simp [partB, hB, h1, h2, h3]
          rw [hP]
          clear hP
          go_enter Try.func57, Try.ntmps57
          go_wp2_with fail
          refine (isBar_any _ _ _).mono ?_; rintro e w1 ⟨rfl, hb1⟩; have s1 := hb1.size; obtain ⟨hc1, hf1⟩ := bcell hb1; have z1_w0 : w.heap.size < w1.heap.size := (by have q := s1; first | omega | (simp at q; omega)); have z1_w1 : w.heap.size + 1 < w1.heap.size := (by have q := s1; first | omega | (simp at q; omega))
          go_wp2
          go_ret
          exact ⟨rfl, by (repeat (first | (with_reducible exact Below.refl _ _) | (with_reducible assumption) | (with_reducible refine Below.drew ?_) | ((with_reducible refine balloc ?_ _ ?_); · (first | (simp; done) | (simp; omega) | omega)) | ((with_reducible refine bset ?_ _ ?_); · (first | (simp; done) | (simp; omega) | omega)) | (with_reducible refine bdrewN _ ?_) | ((with_reducible refine bcall ?_ (by assumption) ?_); · (first | (simp; done) | (simp; omega) | omega))))⟩
        · have hP : partB W H x y a b = false := by simp [partB, h3]
          rw [hP]
          clear hP
          have h3' : decide (x ≤ W - a) = false := by simpa using h3
          go_enter Try.func57, Try.ntmps57
          go_wp2_with fail
          refine (isBar_any _ _ _).mono ?_; rintro e w1 ⟨rfl, hb1⟩; have s1 := hb1.size; obtain ⟨hc1, hf1⟩ := bcell hb1; have z1_w0 : w.heap.size < w1.heap.size := (by have q := s1; first | omega | (simp at q; omega)); have z1_w1 : w.heap.size + 1 < w1.heap.size := (by have q := s1; first | omega | (simp at q; omega))
          go_wp2
          go_ret
          exact ⟨rfl, by (repeat (first | (with_reducible exact Below.refl _ _) | (with_reducible assumption) | (with_reducible refine Below.drew ?_) | ((with_reducible refine balloc ?_ _ ?_); · (first | (simp; done) | (simp; omega) | omega)) | ((with_reducible refine bset ?_ _ ?_); · (first | (simp; done) | (simp; omega) | omega)) | (with_reducible refine bdrewN _ ?_) | ((with_reducible refine bcall ?_ (by assumption) ?_); · (first | (simp; done) | (simp; omega) | omega))))⟩
      · have hP : partB W H x y a b = false := by simp [partB, h2]
        rw [hP]
        clear hP
        go_enter Try.func57, Try.ntmps57
        go_wp2_with fail
        refine (isBar_any _ _ _).mono ?_; rintro e w1 ⟨rfl, hb1⟩; have s1 := hb1.size; obtain ⟨hc1, hf1⟩ := bcell hb1; have z1_w0 : w.heap.size < w1.heap.size := (by have q := s1; first | omega | (simp at q; omega)); have z1_w1 : w.heap.size + 1 < w1.heap.size := (by have q := s1; first | omega | (simp at q; omega))
        go_wp2
        go_ret
        exact ⟨rfl, by (repeat (first | (with_reducible exact Below.refl _ _) | (with_reducible assumption) | (with_reducible refine Below.drew ?_) | ((with_reducible refine balloc ?_ _ ?_); · (first | (simp; done) | (simp; omega) | omega)) | ((with_reducible refine bset ?_ _ ?_); · (first | (simp; done) | (simp; omega) | omega)) | (with_reducible refine bdrewN _ ?_) | ((with_reducible refine bcall ?_ (by assumption) ?_); · (first | (simp; done) | (simp; omega) | omega))))⟩
    · have hP : partB W H x y a b = false := by simp [partB, h1]
      rw [hP]
      clear hP
      go_enter Try.func57, Try.ntmps57
      go_wp2_with fail
      refine (isBar_any _ _ _).mono ?_; rintro e w1 ⟨rfl, hb1⟩; have s1 := hb1.size; obtain ⟨hc1, hf1⟩ := bcell hb1; have z1_w0 : w.heap.size < w1.heap.size := (by have q := s1; first | omega | (simp at q; omega)); have z1_w1 : w.heap.size + 1 < w1.heap.size := (by have q := s1; first | omega | (simp at q; omega))
      go_wp2
      go_ret
      exact ⟨rfl, by (repeat (first | (with_reducible exact Below.refl _ _) | (with_reducible assumption) | (with_reducible refine Below.drew ?_) | ((with_reducible refine balloc ?_ _ ?_); · (first | (simp; done) | (simp; omega) | omega)) | ((with_reducible refine bset ?_ _ ?_); · (first | (simp; done) | (simp; omega) | omega)) | (with_reducible refine bdrewN _ ?_) | ((with_reducible refine bcall ?_ (by assumption) ?_); · (first | (simp; done) | (simp; omega) | omega))))⟩

end Go.Proofs.Ytbjjpndhfgfedaa
