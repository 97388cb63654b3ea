/-
  Contracts of the small functions of chapter 5: boxes. Conditions: none.
-/
import Derived.Test.YthbbddgjphdgjabBase
namespace Go.Proofs.Ythbbddgjphdgjab
open Go.RowKit
set_option linter.unusedVariables false

abbrev bx3 (x y z : Int) : Value := .agg #[.int .i64 x, .int .i64 y, .int .i64 z]

def boxB (x y z : Int) : Bool := decide (1 ≤ z ∧ z ≤ y ∧ y ≤ x ∧ x ≤ 60)
theorem boxB_true {x y z : Int} (h : boxB x y z = true) : 1 ≤ z ∧ z ≤ y ∧ y ≤ x ∧ x ≤ 60 := by simpa [boxB] using h

theorem boxB_cases {p : Prop} (x y z : Int) (h1 : ¬ 1 ≤ z → boxB x y z = false → p) (h2 : 1 ≤ z → ¬ z ≤ y → boxB x y z = false → p) (h3 : 1 ≤ z → z ≤ y → ¬ y ≤ x → boxB x y z = false → p)
    (h4 : 1 ≤ z → z ≤ y → y ≤ x → ¬ x ≤ 60 → boxB x y z = false → p) (h5 : 1 ≤ z → z ≤ y → y ≤ x → x ≤ 60 → boxB x y z = true → p) : p := by
  by_cases a : 1 ≤ z
  · by_cases b : z ≤ y
    · by_cases c : y ≤ x
      · by_cases d : x ≤ 60
        · exact h5 a b c d (by simp [boxB, a, b, c, d])
        · exact h4 a b c d (by simp [boxB, d])
      · exact h3 a b c (by simp [boxB, c])
    · exact h2 a b (by simp [boxB, b])
  · exact h1 a (by simp [boxB, a])

set_option maxHeartbeats 400000 in
theorem toBox_any (x y z : Int) (w : World) :
    Calls Try.prog 9 #[bx3 x y z] w fun e w' => e = .returned (bx3 x y z) ∧ Below w.heap.size w w' := by
  go_enter Try.func9, Try.ntmps9
  go_wp2
  refine bodyPost_ret (v := bx3 x y z) (by simp [results, Try.results9, go_sem]) rfl ⟨rfl, ?_⟩
  (repeat (first | (with_reducible exact Below.refl _ _) | (with_reducible assumption) | (with_reducible refine Below.drew ?_) | ((with_reducible refine balloc ?_ _ ?_); · (first | (simp; done) | (simp; omega) | omega)) | ((with_reducible refine bset ?_ _ ?_); · (first | (simp; done) | (simp; omega) | omega)) | (with_reducible refine bdrewN _ ?_) | ((with_reducible refine bcall ?_ (by assumption) ?_); · (first | (simp; done) | (simp; omega) | omega))))

set_option maxHeartbeats 400000 in
theorem isBox_any (x y z : Int) (w : World) :
    Calls Try.prog 29 #[bx3 x y z] w fun e w' => e = .returned (.bool (boxB x y z)) ∧ Below w.heap.size w w' := by
  refine boxB_cases x y z ?_ ?_ ?_ ?_ ?_
  all_goals
    intros
    go_enter Try.func29, Try.ntmps29
    go_wp2
    go_ret
    exact ⟨by first | rfl | exact ret_bool (Eq.symm ‹boxB x y z = true›) | exact ret_bool (Eq.symm ‹boxB x y z = false›), by (repeat (first | (with_reducible exact Below.refl _ _) | (with_reducible assumption) | (with_reducible refine Below.drew ?_) | ((with_reducible refine balloc ?_ _ ?_); · (first | (simp; done) | (simp; omega) | omega)) | ((with_reducible refine bset ?_ _ ?_); · (first | (simp; done) | (simp; omega) | omega)) | (with_reducible refine bdrewN _ ?_) | ((with_reducible refine bcall ?_ (by assumption) ?_); · (first | (simp; done) | (simp; omega) | omega))))⟩

theorem inB_f {n a b : Int} (h : ¬ (a ≤ n ∧ n ≤ b)) : inB n a b = false := by simpa [inB] using h
theorem inB_t {n a b : Int} (h1 : a ≤ n) (h2 : n ≤ b) : inB n a b = true := by simp [inB, h1, h2]

set_option maxHeartbeats 400000 in
theorem wrGood_any (x y z : Int) (w : World) :
    Calls Try.prog 27 #[bx3 x y z] w fun e w' => e = .returned (.bool (boxB x y z)) ∧ Below w.heap.size w w' := by
  cases h1 : inB x 1 60
  · have hB : boxB x y z = false := by simp [inB, boxB] at *; omega
    go_enter Try.func27, Try.ntmps27
    go_wp2_with (go_at_call 34; refine (l1In_any _ _ _ _).mono ?_; rintro e wx ⟨rfl, rfl⟩; first | rw [h1] | rw [h2] | rw [h3])
    go_ret
    exact ⟨ret_bool hB.symm, by (repeat (first | (with_reducible exact Below.refl _ _) | (with_reducible assumption) | (with_reducible refine Below.drew ?_) | ((with_reducible refine balloc ?_ _ ?_); · (first | (simp; done) | (simp; omega) | omega)) | ((with_reducible refine bset ?_ _ ?_); · (first | (simp; done) | (simp; omega) | omega)) | (with_reducible refine bdrewN _ ?_) | ((with_reducible refine bcall ?_ (by assumption) ?_); · (first | (simp; done) | (simp; omega) | omega))))⟩
  · cases h2 : inB y 1 x
    · have hB : boxB x y z = false := by simp [inB, boxB] at *; omega
      go_enter Try.func27, Try.ntmps27
      go_wp2_with (go_at_call 34; refine (l1In_any _ _ _ _).mono ?_; rintro e wx ⟨rfl, rfl⟩; first | rw [h1] | rw [h2] | rw [h3])
      go_ret
      exact ⟨ret_bool hB.symm, by (repeat (first | (with_reducible exact Below.refl _ _) | (with_reducible assumption) | (with_reducible refine Below.drew ?_) | ((with_reducible refine balloc ?_ _ ?_); · (first | (simp; done) | (simp; omega) | omega)) | ((with_reducible refine bset ?_ _ ?_); · (first | (simp; done) | (simp; omega) | omega)) | (with_reducible refine bdrewN _ ?_) | ((with_reducible refine bcall ?_ (by assumption) ?_); · (first | (simp; done) | (simp; omega) | omega))))⟩
    · cases h3 : inB z 1 y
      · have hB : boxB x y z = false := by simp [inB, boxB] at *; omega
        go_enter Try.func27, Try.ntmps27
        go_wp2_with (go_at_call 34; refine (l1In_any _ _ _ _).mono ?_; rintro e wx ⟨rfl, rfl⟩; first | rw [h1] | rw [h2] | rw [h3])
        go_ret
        exact ⟨ret_bool hB.symm, by (repeat (first | (with_reducible exact Below.refl _ _) | (with_reducible assumption) | (with_reducible refine Below.drew ?_) | ((with_reducible refine balloc ?_ _ ?_); · (first | (simp; done) | (simp; omega) | omega)) | ((with_reducible refine bset ?_ _ ?_); · (first | (simp; done) | (simp; omega) | omega)) | (with_reducible refine bdrewN _ ?_) | ((with_reducible refine bcall ?_ (by assumption) ?_); · (first | (simp; done) | (simp; omega) | omega))))⟩
      · have hB : boxB x y z = true := by simp [inB, boxB] at *; omega
        go_enter Try.func27, Try.ntmps27
        go_wp2_with (go_at_call 34; refine (l1In_any _ _ _ _).mono ?_; rintro e wx ⟨rfl, rfl⟩; first | rw [h1] | rw [h2] | rw [h3])
        go_ret
        exact ⟨ret_bool hB.symm, by (repeat (first | (with_reducible exact Below.refl _ _) | (with_reducible assumption) | (with_reducible refine Below.drew ?_) | ((with_reducible refine balloc ?_ _ ?_); · (first | (simp; done) | (simp; omega) | omega)) | ((with_reducible refine bset ?_ _ ?_); · (first | (simp; done) | (simp; omega) | omega)) | (with_reducible refine bdrewN _ ?_) | ((with_reducible refine bcall ?_ (by assumption) ?_); · (first | (simp; done) | (simp; omega) | omega))))⟩


end Go.Proofs.Ythbbddgjphdgjab
