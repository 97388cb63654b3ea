/-
  Contracts: suspects behind a result, and the result that finds one, of the program. Conditions: none.
-/
import Derived.Test.YtcggiekhlophlaaResW
namespace Go.Proofs.Ytcggiekhlophlaa
open Go.RowKit
set_option linter.unusedVariables false
set_option linter.unusedSimpArgs false

abbrev su2 (x y : Int) : Value := .agg #[.int .i64 x, .int .i64 y]
/-- the first one and how many they are behind a result -/
def afF (F M v : Nat) : Int := if v = 108 then F else if v = 114 then (F : Int) + (panN M : Nat) else if v = 61 then (F : Int) + 2 * (panN M : Nat) else 0
def afM (M v : Nat) : Int := if v = 108 then (panN M : Nat) else if v = 114 then (panN M : Nat) else if v = 61 then (M : Int) - 2 * (panN M : Nat) else 0

set_option maxHeartbeats 1000000 in
theorem after_any (F M v : Nat) (hF : F ≤ 1000) (hM : M ≤ 1000) (w : World) :
    Calls Try.prog 62 #[su2 F M, .int .u8 (v : Int)] w fun e w' => e = .returned (su2 (afF F M v) (afM M v)) ∧ Below w.heap.size w w' := by
  have HG := Lib.hid (fun wx => groupsP_any M hM wx)
  have hq := panN_le M
  by_cases h1 : v = 108
  · have h1i : ((v : Int) == 108) = true := by simp; omega
    rw [show afF F M v = (F : Int) by simp [afF, h1], show afM M v = (panN M : Nat) by simp [afM, h1]]
    generalize panN M = q at *
    go_enter Try.func62, Try.ntmps62
    go_wp2_with (go_at_call 60; refine (HG.out _).mono ?_; rintro e wx ⟨rfl, rfl⟩)
    refine bodyPost_ret (v := su2 F q) (by simp [results, Try.results62, go_sem]) rfl ⟨rfl, ?_⟩
    (repeat (first | (with_reducible exact Below.refl _ _) | (with_reducible assumption) | (with_reducible refine Below.drew ?_) | ((with_reducible refine balloc ?_ _ ?_); · (first | (simp; done) | (simp; omega) | omega)) | ((with_reducible refine bset ?_ _ ?_); · (first | (simp; done) | (simp; omega) | omega)) | (with_reducible refine bdrewN _ ?_) | ((with_reducible refine bcall ?_ (by assumption) ?_); · (first | (simp; done) | (simp; omega) | omega))))
  · have h1i : ((v : Int) == 108) = false := by simp; omega
    by_cases h2 : v = 114
    · have h2i : ((v : Int) == 114) = true := by simp; omega
      rw [show afF F M v = (F : Int) + (panN M : Nat) by simp [afF, h2], show afM M v = (panN M : Nat) by simp [afM, h2]]
      generalize panN M = q at *
      go_enter Try.func62, Try.ntmps62
      go_wp2_with (go_at_call 60; refine (HG.out _).mono ?_; rintro e wx ⟨rfl, rfl⟩)
      refine bodyPost_ret (v := su2 ((F : Int) + q) q) (by simp [results, Try.results62, go_sem]) rfl ⟨rfl, ?_⟩
      (repeat (first | (with_reducible exact Below.refl _ _) | (with_reducible assumption) | (with_reducible refine Below.drew ?_) | ((with_reducible refine balloc ?_ _ ?_); · (first | (simp; done) | (simp; omega) | omega)) | ((with_reducible refine bset ?_ _ ?_); · (first | (simp; done) | (simp; omega) | omega)) | (with_reducible refine bdrewN _ ?_) | ((with_reducible refine bcall ?_ (by assumption) ?_); · (first | (simp; done) | (simp; omega) | omega))))
    · have h2i : ((v : Int) == 114) = false := by simp; omega
      by_cases h3 : v = 61
      · have h3i : ((v : Int) == 61) = true := by simp; omega
        rw [show afF F M v = (F : Int) + 2 * (panN M : Nat) by simp [afF, h3], show afM M v = (M : Int) - 2 * (panN M : Nat) by simp [afM, h3]]
        generalize panN M = q at *
        go_enter Try.func62, Try.ntmps62
        go_wp2_with (go_at_call 60; refine (HG.out _).mono ?_; rintro e wx ⟨rfl, rfl⟩)
        refine bodyPost_ret (v := su2 ((F : Int) + 2 * q) ((M : Int) - 2 * q)) (by simp [results, Try.results62, go_sem]) rfl ⟨rfl, ?_⟩
        (repeat (first | (with_reducible exact Below.refl _ _) | (with_reducible assumption) | (with_reducible refine Below.drew ?_) | ((with_reducible refine balloc ?_ _ ?_); · (first | (simp; done) | (simp; omega) | omega)) | ((with_reducible refine bset ?_ _ ?_); · (first | (simp; done) | (simp; omega) | omega)) | (with_reducible refine bdrewN _ ?_) | ((with_reducible refine bcall ?_ (by assumption) ?_); · (first | (simp; done) | (simp; omega) | omega))))
      · have h3i : ((v : Int) == 61) = false := by simp; omega
        rw [show afF F M v = 0 by simp [afF, h1, h2, h3], show afM M v = 0 by simp [afM, h1, h2, h3]]
        generalize panN M = q at *
        go_enter Try.func62, Try.ntmps62
        go_wp2_with (go_at_call 60; refine (HG.out _).mono ?_; rintro e wx ⟨rfl, rfl⟩)
        refine bodyPost_ret (v := su2 0 0) (by simp [results, Try.results62, go_sem]) rfl ⟨rfl, ?_⟩
        (repeat (first | (with_reducible exact Below.refl _ _) | (with_reducible assumption) | (with_reducible refine Below.drew ?_) | ((with_reducible refine balloc ?_ _ ?_); · (first | (simp; done) | (simp; omega) | omega)) | ((with_reducible refine bset ?_ _ ?_); · (first | (simp; done) | (simp; omega) | omega)) | (with_reducible refine bdrewN _ ?_) | ((with_reducible refine bcall ?_ (by assumption) ?_); · (first | (simp; done) | (simp; omega) | omega))))

def rifV (D M : Nat) : Nat := if D < panN M then 108 else if D < 2 * panN M then 114 else 61

set_option maxHeartbeats 1000000 in
theorem resultIf_any (F D M : Nat) (hF : F + D ≤ 1000) (hM : M ≤ 1000) (w : World) :
    Calls Try.prog 64 #[su2 F M, .int .i64 ((F : Int) + D)] w fun e w' => e = .returned (.int .u8 ((rifV D M : Nat) : Int)) ∧ Below w.heap.size w w' := by
  have HG := Lib.hid (fun wx => groupsP_any M hM wx)
  have hq := panN_le M
  by_cases h1 : D < panN M
  · have h1i : (F : Int) + D < (F : Int) + (panN M : Nat) := by omega
    rw [show rifV D M = 108 by simp [rifV, h1]]
    generalize panN M = q at *
    go_enter Try.func64, Try.ntmps64
    go_wp2_with (go_at_call 60; refine (HG.out _).mono ?_; rintro e wx ⟨rfl, rfl⟩)
    go_ret
    exact ⟨rfl, by (repeat (first | (with_reducible exact Below.refl _ _) | (with_reducible assumption) | (with_reducible refine Below.drew ?_) | ((with_reducible refine balloc ?_ _ ?_); · (first | (simp; done) | (simp; omega) | omega)) | ((with_reducible refine bset ?_ _ ?_); · (first | (simp; done) | (simp; omega) | omega)) | (with_reducible refine bdrewN _ ?_) | ((with_reducible refine bcall ?_ (by assumption) ?_); · (first | (simp; done) | (simp; omega) | omega))))⟩
  · have h1i : ¬ (F : Int) + D < (F : Int) + (panN M : Nat) := by omega
    by_cases h2 : D < 2 * panN M
    · have h2i : (F : Int) + D < (F : Int) + 2 * (panN M : Nat) := by omega
      rw [show rifV D M = 114 by simp [rifV, h1, h2]]
      generalize panN M = q at *
      go_enter Try.func64, Try.ntmps64
      go_wp2_with (go_at_call 60; refine (HG.out _).mono ?_; rintro e wx ⟨rfl, rfl⟩)
      go_ret
      exact ⟨rfl, by (repeat (first | (with_reducible exact Below.refl _ _) | (with_reducible assumption) | (with_reducible refine Below.drew ?_) | ((with_reducible refine balloc ?_ _ ?_); · (first | (simp; done) | (simp; omega) | omega)) | ((with_reducible refine bset ?_ _ ?_); · (first | (simp; done) | (simp; omega) | omega)) | (with_reducible refine bdrewN _ ?_) | ((with_reducible refine bcall ?_ (by assumption) ?_); · (first | (simp; done) | (simp; omega) | omega))))⟩
    · have h2i : ¬ (F : Int) + D < (F : Int) + 2 * (panN M : Nat) := by omega
      rw [show rifV D M = 61 by simp [rifV, h1, h2]]
      generalize panN M = q at *
      go_enter Try.func64, Try.ntmps64
      go_wp2_with (go_at_call 60; refine (HG.out _).mono ?_; rintro e wx ⟨rfl, rfl⟩)
      go_ret
      exact ⟨rfl, by (repeat (first | (with_reducible exact Below.refl _ _) | (with_reducible assumption) | (with_reducible refine Below.drew ?_) | ((with_reducible refine balloc ?_ _ ?_); · (first | (simp; done) | (simp; omega) | omega)) | ((with_reducible refine bset ?_ _ ?_); · (first | (simp; done) | (simp; omega) | omega)) | (with_reducible refine bdrewN _ ?_) | ((with_reducible refine bcall ?_ (by assumption) ?_); · (first | (simp; done) | (simp; omega) | omega))))⟩
end Go.Proofs.Ytcggiekhlophlaa
