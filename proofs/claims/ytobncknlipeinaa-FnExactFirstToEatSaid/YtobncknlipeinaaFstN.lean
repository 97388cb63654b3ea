/-
  Contracts: FirstToEat of the model and of the program where they fail.
-/
import Derived.Test.YtobncknlipeinaaLstS
import Derived.WalkMore
import Derived.Deep.LoopGhost
namespace Go.Proofs.Ytobncknlipeinaa
open Go.RowKit Go.Maps
set_option linter.unusedVariables false
set_option linter.unusedSimpArgs false

set_option maxRecDepth 100000 in
set_option maxHeartbeats 1000000 in
theorem sFirst_no (x y s : Int) (w : World) (h : someB x y s = false ∨ (someB x y s = true ∧ (s = 0 ∨ s = x * y))) :
    Calls Try.prog 11 #[bar2 x y, .int .i64 s] w fun e w' => e = .returned (.tuple #[.bool false, .int .i64 0, .bool false]) ∧ Below w.heap.size w w' := by
  have HSM : Hid (∀ wx, Calls Try.prog 24 #[bar2 x y, .int .i64 s] wx fun e w' => e = .returned (.bool (someB x y s)) ∧ Below wx.heap.size wx w') := fun wx => brSome_any x y s wx
  rcases h with h | ⟨h, h2⟩
  · rw [h] at HSM
    clear h
    go_enter Try.func11, Try.ntmps11
    go_wp2_with fail
    refine (HSM.out _).mono ?_; rintro e w1 ⟨rfl, hb1⟩; have s1 := hb1.size; obtain ⟨hc1, hf1⟩ := bcell hb1; have z1_w0 : w.heap.size < w1.heap.size := (by have q := s1; first | omega | (simp at q; omega))
    have bw1 : Below w.heap.size w w1 := by (repeat (first | (with_reducible exact Below.refl _ _) | (with_reducible assumption) | (with_reducible refine Below.drew ?_) | ((with_reducible refine balloc ?_ _ ?_); · (first | (simp; done) | (simp; omega) | omega)) | ((with_reducible refine bset ?_ _ ?_); · (first | (simp; done) | (simp; omega) | omega)) | (with_reducible refine bdrewN _ ?_) | ((with_reducible refine bcall ?_ (by assumption) ?_); · (first | (simp; done) | (simp; omega) | omega))))
    clear hc1 hf1 hb1
    go_wp2
    go_ret3
    exact ⟨rfl, bw1⟩
  · rw [h] at HSM
    obtain ⟨a, b, k, rfl, rfl, rfl, ha1, ha2, hb1', hb2', hk⟩ := someB_true h
    obtain ⟨N, hN⟩ : ∃ N, Hid (N = a * b) := ⟨_, rfl⟩
    have hN144 : N ≤ 144 := by rw [hN.out]; exact Nat.le_trans (Nat.mul_le_mul ha2 hb2') (by omega)
    have hNi : (a : Int) * (b : Int) = (N : Int) := by rw [hN.out]; exact (Int.natCast_mul a b).symm
    have wN : IntKind.i64.wrap ((a : Int) * (b : Int)) = (N : Int) := by rw [hNi]; exact IntWalk.i64_in _ ⟨by omega, by omega⟩
    rw [hNi] at h2
    clear h hNi
    by_cases h0 : k = 0
    · subst h0
      go_enter Try.func11, Try.ntmps11
      go_wp2_with fail
      refine (HSM.out _).mono ?_; rintro e w1 ⟨rfl, hb1⟩; have s1 := hb1.size; obtain ⟨hc1, hf1⟩ := bcell hb1; have z1_w0 : w.heap.size < w1.heap.size := (by have q := s1; first | omega | (simp at q; omega))
      have c0 : w1.cell? ⟨w.heap.size, 0, none⟩ = some (.int .i64 (a : Int)) := by rw [hc1 _ _ (by simp)]; simp [go_sem]
      have c1 : w1.cell? ⟨w.heap.size, 1, none⟩ = some (.int .i64 (b : Int)) := by rw [hc1 _ _ (by simp)]; simp [go_sem]
      have bw1 : Below w.heap.size w w1 := by (repeat (first | (with_reducible exact Below.refl _ _) | (with_reducible assumption) | (with_reducible refine Below.drew ?_) | ((with_reducible refine balloc ?_ _ ?_); · (first | (simp; done) | (simp; omega) | omega)) | ((with_reducible refine bset ?_ _ ?_); · (first | (simp; done) | (simp; omega) | omega)) | (with_reducible refine bdrewN _ ?_) | ((with_reducible refine bcall ?_ (by assumption) ?_); · (first | (simp; done) | (simp; omega) | omega))))
      clear hc1 hf1 hb1
      go_wp2
      go_ret3
      exact ⟨rfl, bw1⟩
    · have hkN : k = N := by omega
      subst hkN
      have y0 : ((k : Int) == 0) = false := by simp; omega
      have y1 : ¬ (k : Int) = 0 := by omega
      clear h2
      go_enter Try.func11, Try.ntmps11
      go_wp2_with fail
      refine (HSM.out _).mono ?_; rintro e w1 ⟨rfl, hb1⟩; have s1 := hb1.size; obtain ⟨hc1, hf1⟩ := bcell hb1; have z1_w0 : w.heap.size < w1.heap.size := (by have q := s1; first | omega | (simp at q; omega))
      have c0 : w1.cell? ⟨w.heap.size, 0, none⟩ = some (.int .i64 (a : Int)) := by rw [hc1 _ _ (by simp)]; simp [go_sem]
      have c1 : w1.cell? ⟨w.heap.size, 1, none⟩ = some (.int .i64 (b : Int)) := by rw [hc1 _ _ (by simp)]; simp [go_sem]
      have bw1 : Below w.heap.size w w1 := by (repeat (first | (with_reducible exact Below.refl _ _) | (with_reducible assumption) | (with_reducible refine Below.drew ?_) | ((with_reducible refine balloc ?_ _ ?_); · (first | (simp; done) | (simp; omega) | omega)) | ((with_reducible refine bset ?_ _ ?_); · (first | (simp; done) | (simp; omega) | omega)) | (with_reducible refine bdrewN _ ?_) | ((with_reducible refine bcall ?_ (by assumption) ?_); · (first | (simp; done) | (simp; omega) | omega))))
      clear hc1 hf1 hb1
      go_wp2
      go_ret3
      exact ⟨rfl, bw1⟩

set_option maxRecDepth 100000 in
set_option maxHeartbeats 1000000 in
theorem first_no (x y s : Int) (w : World) (h : someB x y s = false ∨ (someB x y s = true ∧ (s = 0 ∨ s = x * y))) :
    Calls Try.prog 12 #[bar2 x y, .int .i64 s] w fun e w' => e = .returned (.tuple #[.bool false, .int .i64 0, .bool false]) ∧ Below w.heap.size w w' := by
  have HIB : Hid (∀ wx, Calls Try.prog 26 #[bar2 x y] wx fun e w' => e = .returned (.bool (barB x y)) ∧ Below wx.heap.size wx w') := fun wx => isBar_any x y wx
  cases hb : barB x y
  · rw [hb] at HIB
    clear h hb
    go_enter Try.func12, Try.ntmps12
    go_wp2
    go_step3
    go_wp2_with fail
    refine (HIB.out _).mono ?_; rintro e w1 ⟨rfl, hb1⟩; have s1 := hb1.size; obtain ⟨hc1, hf1⟩ := bcell hb1; have z1_w0 : w.heap.size < w1.heap.size := (by have q := s1; first | omega | (simp at q; omega))
    have bw1 : Below w.heap.size w w1 := by (repeat (first | (with_reducible exact Below.refl _ _) | (with_reducible assumption) | (with_reducible refine Below.drew ?_) | ((with_reducible refine balloc ?_ _ ?_); · (first | (simp; done) | (simp; omega) | omega)) | ((with_reducible refine bset ?_ _ ?_); · (first | (simp; done) | (simp; omega) | omega)) | (with_reducible refine bdrewN _ ?_) | ((with_reducible refine bcall ?_ (by assumption) ?_); · (first | (simp; done) | (simp; omega) | omega))))
    clear hc1 hf1 hb1
    go_wp2
    rw [Exit.noGoto_ret]
    go_ret3
    exact ⟨rfl, bw1⟩
  · rw [hb] at HIB
    have hq := barB_true hb
    have h3 : s ≤ 0 ∨ x * y ≤ s := by
      rcases h with h | ⟨_, h⟩
      · rcases someB_false h with h | ⟨_, h⟩
        · rw [hb] at h; cases h
        · omega
      · omega
    have hxy : x * y ≤ 144 ∧ 0 ≤ x * y := ⟨by have := Int.mul_le_mul hq.2.1 hq.2.2.2 (by omega) (by omega); omega, Int.mul_nonneg (by omega) (by omega)⟩
    have hxw : IntKind.i64.wrap (x * y) = x * y := IntWalk.i64_in _ (by omega)
    obtain ⟨xy, hxye⟩ : ∃ z, z = x * y := ⟨_, rfl⟩
    rw [← hxye] at h3
    have hxw2 : IntKind.i64.wrap (x * y) = xy := by rw [hxw, hxye]
    clear hxw hxye hxy hq hb h
    go_enter Try.func12, Try.ntmps12
    go_wp2
    go_step3
    go_wp2_with fail
    refine (HIB.out _).mono ?_; rintro e w1 ⟨rfl, hb1⟩; have s1 := hb1.size; obtain ⟨hc1, hf1⟩ := bcell hb1; have z1_w0 : w.heap.size < w1.heap.size := (by have q := s1; first | omega | (simp at q; omega))
    have c0 : w1.cell? ⟨w.heap.size, 0, none⟩ = some (.int .i64 x) := by rw [hc1 _ _ (by simp)]; simp [go_sem]
    have c1 : w1.cell? ⟨w.heap.size, 1, none⟩ = some (.int .i64 y) := by rw [hc1 _ _ (by simp)]; simp [go_sem]
    have bw1 : Below w.heap.size w w1 := by (repeat (first | (with_reducible exact Below.refl _ _) | (with_reducible assumption) | (with_reducible refine Below.drew ?_) | ((with_reducible refine balloc ?_ _ ?_); · (first | (simp; done) | (simp; omega) | omega)) | ((with_reducible refine bset ?_ _ ?_); · (first | (simp; done) | (simp; omega) | omega)) | (with_reducible refine bdrewN _ ?_) | ((with_reducible refine bcall ?_ (by assumption) ?_); · (first | (simp; done) | (simp; omega) | omega))))
    clear hc1 hf1 hb1
    by_cases hs : s ≤ 0
    · clear h3
      go_wp2
      rw [Exit.noGoto_ret]
      go_ret3
      exact ⟨rfl, bw1⟩
    · have h4 : xy ≤ s := by omega
      clear h3
      go_wp2
      rw [Exit.noGoto_ret]
      go_ret3
      exact ⟨rfl, bw1⟩

end Go.Proofs.Ytobncknlipeinaa
