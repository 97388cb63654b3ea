/-
  Contracts: SquaresOf, FewestBreaks of the program and of the model. Conditions: none.
-/
import Derived.Test.YtjaddijhijnlnaaBase
namespace Go.Proofs.Ytjaddijhijnlnaa
open Go.RowKit

def sqN (x y : Int) : Int := if barB x y then wrap64 (x * y) else 0
def fbN (x y : Int) : Int := if barB x y then wrap64 (wrap64 (x * y) - 1) else 0

set_option maxHeartbeats 400000 in
theorem squares_any (x y : Int) (w : World) :
    Calls Try.prog 39 #[bar2 x y] w fun e w' => e = .returned (.tuple #[.int .i64 (sqN x y), .bool (barB x y)]) ∧ Below w.heap.size w w' := by
  cases hB : barB x y
  all_goals
    have hs := sqN.eq_1 x y; simp only [hB, if_true, Bool.false_eq_true, if_false] at hs
    go_enter Try.func39, Try.ntmps39
    go_wp2_with fail
    refine (isBar_any _ _ _).mono ?_; rintro e w1 ⟨rfl, hb1⟩; have s1 := hb1.size; obtain ⟨hc1, hf1⟩ := bcell hb1; have z1_0 : w.heap.size < w1.heap.size := by have q := s1; first | omega | (simp at q; omega)
    go_wp2
    go_ret2
    exact ⟨by simp [hs], by (repeat (first | exact Below.refl _ _ | (refine Below.alloc ?_ (by first | (simp; done) | (simp; omega) | (simp at *; omega)) _) | refine Below.drew ?_ | (refine Below.trans ?_ (Below.mono (by assumption) (by first | (simp; done) | (simp; omega) | (simp at *; omega))))))⟩

set_option maxHeartbeats 400000 in
theorem sSquares_any (x y : Int) (w : World) :
    Calls Try.prog 38 #[bar2 x y] w fun e w' => e = .returned (.tuple #[.int .i64 (sqN x y), .bool (barB x y)]) ∧ Below w.heap.size w w' := by
  cases hB : barB x y
  all_goals
    have hs := sqN.eq_1 x y; simp only [hB, if_true, Bool.false_eq_true, if_false] at hs
    go_enter Try.func38, Try.ntmps38
    go_wp2_with fail
    refine (brGood_any _ _ _).mono ?_; rintro e w1 ⟨rfl, hb1⟩; have s1 := hb1.size; obtain ⟨hc1, hf1⟩ := bcell hb1; have z1_0 : w.heap.size < w1.heap.size := by have q := s1; first | omega | (simp at q; omega)
    go_wp2
    go_ret2
    exact ⟨by simp [hs], by (repeat (first | exact Below.refl _ _ | (refine Below.alloc ?_ (by first | (simp; done) | (simp; omega) | (simp at *; omega)) _) | refine Below.drew ?_ | (refine Below.trans ?_ (Below.mono (by assumption) (by first | (simp; done) | (simp; omega) | (simp at *; omega))))))⟩

set_option maxHeartbeats 400000 in
theorem fewest_any (x y : Int) (w : World) :
    Calls Try.prog 41 #[bar2 x y] w fun e w' => e = .returned (.tuple #[.int .i64 (fbN x y), .bool (barB x y)]) ∧ Below w.heap.size w w' := by
  cases hB : barB x y
  all_goals
    have hs := fbN.eq_1 x y; simp only [hB, if_true, Bool.false_eq_true, if_false] at hs
    go_enter Try.func41, Try.ntmps41
    go_wp2_with fail
    refine (isBar_any _ _ _).mono ?_; rintro e w1 ⟨rfl, hb1⟩; have s1 := hb1.size; obtain ⟨hc1, hf1⟩ := bcell hb1; have z1_0 : w.heap.size < w1.heap.size := by have q := s1; first | omega | (simp at q; omega)
    go_wp2
    go_ret2
    exact ⟨by simp [hs], by (repeat (first | exact Below.refl _ _ | (refine Below.alloc ?_ (by first | (simp; done) | (simp; omega) | (simp at *; omega)) _) | refine Below.drew ?_ | (refine Below.trans ?_ (Below.mono (by assumption) (by first | (simp; done) | (simp; omega) | (simp at *; omega))))))⟩

set_option maxHeartbeats 400000 in
theorem sFewest_any (x y : Int) (w : World) :
    Calls Try.prog 40 #[bar2 x y] w fun e w' => e = .returned (.tuple #[.int .i64 (fbN x y), .bool (barB x y)]) ∧ Below w.heap.size w w' := by
  cases hB : barB x y
  all_goals
    have hs := fbN.eq_1 x y; simp only [hB, if_true, Bool.false_eq_true, if_false] at hs
    go_enter Try.func40, Try.ntmps40
    go_wp2_with fail
    refine (brGood_any _ _ _).mono ?_; rintro e w1 ⟨rfl, hb1⟩; have s1 := hb1.size; obtain ⟨hc1, hf1⟩ := bcell hb1; have z1_0 : w.heap.size < w1.heap.size := by have q := s1; first | omega | (simp at q; omega)
    go_wp2
    go_ret2
    exact ⟨by simp [hs], by (repeat (first | exact Below.refl _ _ | (refine Below.alloc ?_ (by first | (simp; done) | (simp; omega) | (simp at *; omega)) _) | refine Below.drew ?_ | (refine Below.trans ?_ (Below.mono (by assumption) (by first | (simp; done) | (simp; omega) | (simp at *; omega))))))⟩

end Go.Proofs.Ytjaddijhijnlnaa
