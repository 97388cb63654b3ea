/-
  Contracts: CodeOfPraline of the program and of the model. Conditions: none.
-/
import Derived.Test.YtcggiekhlophlaaCode
namespace Go.Proofs.Ytcggiekhlophlaa
open Go.RowKit
set_option linter.unusedVariables false
set_option linter.unusedSimpArgs false

set_option maxHeartbeats 400000 in
theorem isPr_any (n m : Int) (w : World) :
    Calls Try.prog 54 #[.int .i64 n, .int .i64 m] w fun e w' => e = .returned (.bool (inB n 0 (m - 1))) ∧ w = w' := by
  by_cases h1 : 0 ≤ n <;> by_cases h2 : n < m
  all_goals
    go_enter Try.func54, Try.ntmps54
    go_wp2
    go_ret
    exact ⟨ret_bool (by simp [inB]; omega), rfl⟩

def cdB (p t r x : Int) : Bool := beB p t r && inB x 0 (p - 1)
def cdR (p t r x : Int) : List Int := if cdB p t r x then codeL x.toNat (r.toNat + 1) t.toNat else []
theorem length_cdR (p t r x : Int) : (cdR p t r x).length ≤ 20 := by
  unfold cdR
  split
  · rename_i h
    simp only [cdB, Bool.and_eq_true] at h
    obtain ⟨P, T, R, rfl, rfl, rfl, _, _, _, _, _⟩ := beB_nat h.1
    rw [length_codeL]; simpa using ‹T ≤ 20›
  · simp

set_option maxHeartbeats 1000000 in
theorem codeOfF_any (p t r x : Int) (w : World) :
    Calls Try.prog 22 #[.int .i64 p, .int .i64 t, .int .i64 r, .int .i64 x] w fun e w' => ∃ A' n' c', e = .returned (.tuple #[.slice A' n' c', .bool (cdB p t r x)]) ∧ w'.ownsRow w.heap.size 3 1 (.slice A' n' c') n' (intCells (cdR p t r x)) ∧ Below w.heap.size w w' := by
  cases h : beB p t r
  · rw [show cdB p t r x = false by simp [cdB, h], show cdR p t r x = [] by simp [cdR, cdB, h]]
    go_enter Try.func22, Try.ntmps22
    go_wp2_with fail
    refine (canBe_any _ _ _ _).mono ?_; rintro e w1 ⟨rfl, hb1⟩; have s1 := hb1.size; obtain ⟨hc1, hf1⟩ := bcell hb1
    rw [h]
    go_wp2
    go_ret2
    exact ⟨none, 0, 0, rfl, World.ownsRow_nil _ _ _ _, by (repeat (first | (with_reducible exact Below.refl _ _) | (with_reducible assumption) | (with_reducible refine Below.drew ?_) | ((with_reducible refine balloc ?_ _ ?_); · (first | (simp; done) | (simp; omega) | omega)) | ((with_reducible refine bset ?_ _ ?_); · (first | (simp; done) | (simp; omega) | omega)) | (with_reducible refine bdrewN _ ?_) | ((with_reducible refine bcall ?_ (by assumption) ?_); · (first | (simp; done) | (simp; omega) | omega))))⟩
  · cases h2 : inB x 0 (p - 1)
    · rw [show cdB p t r x = false by simp [cdB, h2], show cdR p t r x = [] by simp [cdR, cdB, h2]]
      go_enter Try.func22, Try.ntmps22
      go_wp2_with fail
      refine (canBe_any _ _ _ _).mono ?_; rintro e w1 ⟨rfl, hb1⟩; have s1 := hb1.size; obtain ⟨hc1, hf1⟩ := bcell hb1
      rw [h]
      go_wp2_with (go_at_call 54; refine (isPr_any _ _ _).mono ?_; rintro e wx ⟨rfl, rfl⟩; rw [h2])
      go_ret2
      exact ⟨none, 0, 0, rfl, World.ownsRow_nil _ _ _ _, by (repeat (first | (with_reducible exact Below.refl _ _) | (with_reducible assumption) | (with_reducible refine Below.drew ?_) | ((with_reducible refine balloc ?_ _ ?_); · (first | (simp; done) | (simp; omega) | omega)) | ((with_reducible refine bset ?_ _ ?_); · (first | (simp; done) | (simp; omega) | omega)) | (with_reducible refine bdrewN _ ?_) | ((with_reducible refine bcall ?_ (by assumption) ?_); · (first | (simp; done) | (simp; omega) | omega))))⟩
    · have hB : cdB p t r x = true := by simp [cdB, h, h2]
      have h2' := inB_true h2
      obtain ⟨P, T, R, rfl, rfl, rfl, p1, p2, t1, t2, r1, r2, pr⟩ := beB_nat h
      obtain ⟨X, rfl⟩ : ∃ X : Nat, x = X := ⟨x.toNat, by omega⟩
      rw [hB, show cdR (P : Int) (T : Int) (R : Int) (X : Int) = codeL X (R + 1) T by simp [cdR, hB]]
      go_enter Try.func22, Try.ntmps22
      go_wp2_with fail
      refine (canBe_any _ _ _ _).mono ?_; rintro e w1 ⟨rfl, hb1⟩; have s1 := hb1.size; obtain ⟨hc1, hf1⟩ := bcell hb1
      rw [h]
      go_wp2_with (go_at_call 54; refine (isPr_any _ _ _).mono ?_; rintro e wx ⟨rfl, rfl⟩; rw [h2])
      refine (codeOf_any X T R (by omega) t2 t1 (by omega) _).mono ?_; rintro e w2 ⟨g, rfl, own, hb2⟩
      go_wp2
      go_ret2
      exact ⟨_, _, _, rfl, own_base own s1, hb1.trans (hb2.mono s1)⟩
set_option maxHeartbeats 1000000 in
theorem sCodeOfF_any (p t r x : Int) (w : World) :
    Calls Try.prog 21 #[.int .i64 p, .int .i64 t, .int .i64 r, .int .i64 x] w fun e w' => ∃ A' n' c', e = .returned (.tuple #[.slice A' n' c', .bool (cdB p t r x)]) ∧ w'.ownsRow w.heap.size 3 1 (.slice A' n' c') n' (intCells (cdR p t r x)) ∧ Below w.heap.size w w' := by
  cases h : beB p t r
  · rw [show cdB p t r x = false by simp [cdB, h], show cdR p t r x = [] by simp [cdR, cdB, h]]
    go_enter Try.func21, Try.ntmps21
    go_wp2_with (go_at_call 51; refine (bxEnough_any _ _ _ _).mono ?_; rintro e wx ⟨rfl, rfl⟩; rw [h])
    go_ret2
    exact ⟨none, 0, 0, rfl, World.ownsRow_nil _ _ _ _, Below.refl _ _⟩
  · obtain ⟨P, T, R, rfl, rfl, rfl, p1, p2, t1, t2, r1, r2, pr⟩ := beB_nat h
    cases h2 : inB x 0 ((P : Int) - 1)
    · rw [show cdB (P : Int) (T : Int) (R : Int) x = false by simp [cdB, h2], show cdR (P : Int) (T : Int) (R : Int) x = [] by simp [cdR, cdB, h2]]
      clear pr
      go_enter Try.func21, Try.ntmps21
      go_wp2_with first | (go_at_call 51; refine (bxEnough_any _ _ _ _).mono ?_; rintro e wx ⟨rfl, rfl⟩; rw [h]) | (go_at_call 44; refine (l1In_any _ _ _ _).mono ?_; rintro e wx ⟨rfl, rfl⟩; rw [h2])
      go_ret2
      exact ⟨none, 0, 0, rfl, World.ownsRow_nil _ _ _ _, Below.refl _ _⟩
    · have hB : cdB (P : Int) (T : Int) (R : Int) x = true := by simp [cdB, h, h2]
      have h2' := inB_true h2
      obtain ⟨X, rfl⟩ : ∃ X : Nat, x = X := ⟨x.toNat, by omega⟩
      rw [hB, show cdR (P : Int) (T : Int) (R : Int) (X : Int) = codeL X (R + 1) T by simp [cdR, hB]]
      have HC := Lib.hid (fun wx => bxCode_any X T R (by omega) t2 t1 (by omega) wx)
      clear pr
      go_enter Try.func21, Try.ntmps21
      go_wp2_with first | (go_at_call 51; refine (bxEnough_any _ _ _ _).mono ?_; rintro e wx ⟨rfl, rfl⟩; rw [h]) | (go_at_call 44; refine (l1In_any _ _ _ _).mono ?_; rintro e wx ⟨rfl, rfl⟩; rw [h2])
      refine (HC.out _).mono ?_; rintro e w2 ⟨g, rfl, own, hb2⟩
      go_wp2
      go_ret2
      exact ⟨_, _, _, rfl, own, hb2⟩

end Go.Proofs.Ytcggiekhlophlaa
