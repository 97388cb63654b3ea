/-
  Contract: CheapestToEat of the program where it fails.
-/
import Derived.Test.YtobncknlipeinaaChpE
namespace Go.Proofs.Ytobncknlipeinaa
open Go.RowKit Go.Maps
set_option linter.unusedVariables false
set_option linter.unusedSimpArgs false

set_option maxRecDepth 100000 in
set_option maxHeartbeats 1000000 in
theorem cheapest_no (x y : Int) (w : World) (h : barB x y = false ∨ (x = 1 ∧ y = 1)) :
    Calls Try.prog 14 #[bar2 x y] w fun e w' => e = .returned (.tuple #[.int .i64 0, .int .i64 0, .bool false]) ∧ Below w.heap.size w w' := by
  have HG : Hid (∀ wx, Calls Try.prog 26 #[bar2 x y] wx fun e w' => e = .returned (.bool (barB x y)) ∧ Below wx.heap.size wx w') := fun wx => isBar_any x y wx
  by_cases hb : barB x y = false
  · rw [hb] at HG
    clear h
    go_enter Try.func14, Try.ntmps14
    go_wp2_with fail
    refine (HG.out _).mono ?_; rintro e w1 ⟨rfl, hb1⟩; have s1 := hb1.size; obtain ⟨hc1, hf1⟩ := bcell hb1; have z1_w0 : w.heap.size < w1.heap.size := (by have q := s1; first | omega | (simp at q; omega))
    have bw1 : Below w.heap.size w w1 := by (repeat (first | (with_reducible exact Below.refl _ _) | (with_reducible assumption) | (with_reducible refine Below.drew ?_) | ((with_reducible refine balloc ?_ _ ?_); · (first | (simp; done) | (simp; omega) | omega)) | ((with_reducible refine bset ?_ _ ?_); · (first | (simp; done) | (simp; omega) | omega)) | (with_reducible refine bdrewN _ ?_) | ((with_reducible refine bcall ?_ (by assumption) ?_); · (first | (simp; done) | (simp; omega) | omega))))
    clear hc1 hf1 hb1
    go_wp2
    go_ret3
    exact ⟨rfl, bw1⟩
  · obtain ⟨rfl, rfl⟩ : x = 1 ∧ y = 1 := by
      rcases h with h | h
      · exact absurd h hb
      · exact h
    rw [show barB 1 1 = true from rfl] at HG
    clear h hb
    go_enter Try.func14, Try.ntmps14
    go_wp2_with fail
    refine (HG.out _).mono ?_; rintro e w1 ⟨rfl, hb1⟩; have s1 := hb1.size; obtain ⟨hc1, hf1⟩ := bcell hb1; have z1_w0 : w.heap.size < w1.heap.size := (by have q := s1; first | omega | (simp at q; omega))
    have c0 : w1.cell? ⟨w.heap.size, 0, none⟩ = some (.int .i64 1) := by rw [hc1 _ _ (by simp)]; simp [go_sem]
    have c1 : w1.cell? ⟨w.heap.size, 1, none⟩ = some (.int .i64 1) := by rw [hc1 _ _ (by simp)]; simp [go_sem]
    have bw1 : Below w.heap.size w w1 := by (repeat (first | (with_reducible exact Below.refl _ _) | (with_reducible assumption) | (with_reducible refine Below.drew ?_) | ((with_reducible refine balloc ?_ _ ?_); · (first | (simp; done) | (simp; omega) | omega)) | ((with_reducible refine bset ?_ _ ?_); · (first | (simp; done) | (simp; omega) | omega)) | (with_reducible refine bdrewN _ ?_) | ((with_reducible refine bcall ?_ (by assumption) ?_); · (first | (simp; done) | (simp; omega) | omega))))
    clear hc1 hf1 hb1
    go_wp2
    go_ret3
    exact ⟨rfl, bw1⟩

end Go.Proofs.Ytobncknlipeinaa
