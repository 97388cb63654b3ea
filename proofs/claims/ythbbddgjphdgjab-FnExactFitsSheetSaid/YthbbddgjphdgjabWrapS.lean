/-
  Contracts: FitsSheet of the program and of the model. Conditions: none.
-/
import Derived.Test.YthbbddgjphdgjabWrapV
namespace Go.Proofs.Ythbbddgjphdgjab
open Go.RowKit
set_option linter.unusedVariables false
set_option linter.unusedSimpArgs false

def fsOk (x y z a p q : Int) : Bool := boxB x y z && inB a 0 60 && inB p 1 500 && inB q 1 500
def fsA (x y z a p q : Int) : Bool := fsOk x y z a p q && fsB (shW x z) (shH y z a) p q
def tr3 (u v : Int) (b : Bool) : Value := .tuple #[.int .i64 u, .int .i64 v, .bool b]

theorem sheet_tr (x y z a : Int) (w : World) :
    Calls Try.prog 24 #[bx3 x y z, .int .i64 a] w fun e w' => e = .returned (.tuple #[.int .i64 (swN x y z a), .int .i64 (shN x y z a), .bool (boxB x y z && inB a 0 60)]) ∧ Below w.heap.size w w' := sheet_any x y z a w

theorem fsB_cases {Q : Prop} (p q a b : Int) (h1 : p ≤ a → q ≤ b → fsB p q a b = true → p ≤ b → q ≤ a → Q) (h2 : p ≤ a → q ≤ b → fsB p q a b = true → p ≤ b → ¬ q ≤ a → Q) (h3 : p ≤ a → q ≤ b → fsB p q a b = true → ¬ p ≤ b → Q)
    (h4 : p ≤ a → ¬ q ≤ b → p ≤ b → q ≤ a → fsB p q a b = true → Q) (h5 : p ≤ a → ¬ q ≤ b → p ≤ b → ¬ q ≤ a → fsB p q a b = false → Q) (h6 : p ≤ a → ¬ q ≤ b → ¬ p ≤ b → fsB p q a b = false → Q)
    (h7 : ¬ p ≤ a → p ≤ b → q ≤ a → fsB p q a b = true → Q) (h8 : ¬ p ≤ a → p ≤ b → ¬ q ≤ a → fsB p q a b = false → Q) (h9 : ¬ p ≤ a → ¬ p ≤ b → fsB p q a b = false → Q) : Q := by
  by_cases a1 : p ≤ a <;> by_cases a2 : q ≤ b <;> by_cases a3 : p ≤ b <;> by_cases a4 : q ≤ a
  all_goals first
    | exact h1 a1 a2 (by simp [fsB, a1, a2]) a3 a4
    | exact h2 a1 a2 (by simp [fsB, a1, a2]) a3 a4
    | exact h3 a1 a2 (by simp [fsB, a1, a2]) a3
    | exact h4 a1 a2 a3 a4 (by simp [fsB, a3, a4])
    | exact h5 a1 a2 a3 a4 (by simp [fsB, a2, a4])
    | exact h6 a1 a2 a3 (by simp [fsB, a2, a3])
    | exact h7 a1 a3 a4 (by simp [fsB, a3, a4])
    | exact h8 a1 a3 a4 (by simp [fsB, a1, a4])
    | exact h9 a1 a3 (by simp [fsB, a1, a3])

set_option maxHeartbeats 1000000 in
theorem fitsSheet_any (x y z a p q : Int) (w : World) :
    Calls Try.prog 26 #[bx3 x y z, .int .i64 a, .int .i64 p, .int .i64 q] w fun e w' => e = .returned (.tuple #[.bool (fsA x y z a p q), .bool (fsOk x y z a p q)]) ∧ Below w.heap.size w w' := by
  cases hB : (boxB x y z && inB a 0 60)
  · rw [show fsA x y z a p q = false by simp [fsA, fsOk, hB], show fsOk x y z a p q = false by simp [fsOk, hB]]
    go_enter Try.func26, Try.ntmps26
    go_wp2_with fail
    refine (sheet_any _ _ _ _ _).mono ?_; rintro e w1 ⟨rfl, hb1⟩; have s1 := hb1.size; obtain ⟨hc1, hf1⟩ := bcell hb1; have z1_w0 : w.heap.size < w1.heap.size := (by have q := s1; first | omega | (simp at q; omega))
    rw [hB]
    go_wp2
    refine bodyPost_ret (v := .tuple #[.bool false, .bool false]) (by simp [results, Try.results26, go_sem]) rfl ⟨rfl, by (repeat (first | (with_reducible exact Below.refl _ _) | (with_reducible assumption) | (with_reducible refine Below.drew ?_) | ((with_reducible refine balloc ?_ _ ?_); · (first | (simp; done) | (simp; omega) | omega)) | ((with_reducible refine bset ?_ _ ?_); · (first | (simp; done) | (simp; omega) | omega)) | (with_reducible refine bdrewN _ ?_) | ((with_reducible refine bcall ?_ (by assumption) ?_); · (first | (simp; done) | (simp; omega) | omega))))⟩
  · cases hP : inB p 1 500
    · rw [show fsA x y z a p q = false by simp [fsA, fsOk, hP], show fsOk x y z a p q = false by simp [fsOk, hP]]
      go_enter Try.func26, Try.ntmps26
      go_wp2_with fail
      refine (sheet_any _ _ _ _ _).mono ?_; rintro e w1 ⟨rfl, hb1⟩; have s1 := hb1.size; obtain ⟨hc1, hf1⟩ := bcell hb1; have z1_w0 : w.heap.size < w1.heap.size := (by have q := s1; first | omega | (simp at q; omega))
      rw [hB]
      go_wp2_with (go_at_call 41; refine (side_any _ _).mono ?_; rintro e wx ⟨rfl, rfl⟩; first | rw [hP] | rw [hQ])
      refine bodyPost_ret (v := .tuple #[.bool false, .bool false]) (by simp [results, Try.results26, go_sem]) rfl ⟨rfl, by (repeat (first | (with_reducible exact Below.refl _ _) | (with_reducible assumption) | (with_reducible refine Below.drew ?_) | ((with_reducible refine balloc ?_ _ ?_); · (first | (simp; done) | (simp; omega) | omega)) | ((with_reducible refine bset ?_ _ ?_); · (first | (simp; done) | (simp; omega) | omega)) | (with_reducible refine bdrewN _ ?_) | ((with_reducible refine bcall ?_ (by assumption) ?_); · (first | (simp; done) | (simp; omega) | omega))))⟩
    · cases hQ : inB q 1 500
      · rw [show fsA x y z a p q = false by simp [fsA, fsOk, hQ], show fsOk x y z a p q = false by simp [fsOk, hQ]]
        go_enter Try.func26, Try.ntmps26
        go_wp2_with fail
        refine (sheet_any _ _ _ _ _).mono ?_; rintro e w1 ⟨rfl, hb1⟩; have s1 := hb1.size; obtain ⟨hc1, hf1⟩ := bcell hb1; have z1_w0 : w.heap.size < w1.heap.size := (by have q := s1; first | omega | (simp at q; omega))
        rw [hB]
        go_wp2_with (go_at_call 41; refine (side_any _ _).mono ?_; rintro e wx ⟨rfl, rfl⟩; first | rw [hP] | rw [hQ])
        refine bodyPost_ret (v := .tuple #[.bool false, .bool false]) (by simp [results, Try.results26, go_sem]) rfl ⟨rfl, by (repeat (first | (with_reducible exact Below.refl _ _) | (with_reducible assumption) | (with_reducible refine Below.drew ?_) | ((with_reducible refine balloc ?_ _ ?_); · (first | (simp; done) | (simp; omega) | omega)) | ((with_reducible refine bset ?_ _ ?_); · (first | (simp; done) | (simp; omega) | omega)) | (with_reducible refine bdrewN _ ?_) | ((with_reducible refine bcall ?_ (by assumption) ?_); · (first | (simp; done) | (simp; omega) | omega))))⟩
      · rw [show fsA x y z a p q = fsB (swN x y z a) (shN x y z a) p q by simp [fsA, fsOk, swN, shN, hB, hP, hQ], show fsOk x y z a p q = true by simp [fsOk, hB, hP, hQ]]
        have HS := Lib.hid (fun wx => sheet_any x y z a wx)
        rw [hB] at HS
        generalize swN x y z a = u at *
        generalize shN x y z a = v at *
        refine fsB_cases u v p q ?_ ?_ ?_ ?_ ?_ ?_ ?_ ?_ ?_
        all_goals
          intros
          have hF := ‹fsB u v p q = _›
          rw [hF]
          go_enter Try.func26, Try.ntmps26
          go_wp2_with fail
          refine (HS.out _).mono ?_; rintro e w1 ⟨rfl, hb1⟩; have s1 := hb1.size; obtain ⟨hc1, hf1⟩ := bcell hb1; have z1_w0 : w.heap.size < w1.heap.size := (by have q := s1; first | omega | (simp at q; omega))
          go_wp2_with (go_at_call 41; refine (side_any _ _).mono ?_; rintro e wx ⟨rfl, rfl⟩; first | rw [hP] | rw [hQ])
          first | refine bodyPost_ret (v := .tuple #[.bool true, .bool true]) (by simp [results, Try.results26, go_sem, *]) rfl ⟨rfl, by (repeat (first | (with_reducible exact Below.refl _ _) | (with_reducible assumption) | (with_reducible refine Below.drew ?_) | ((with_reducible refine balloc ?_ _ ?_); · (first | (simp; done) | (simp; omega) | omega)) | ((with_reducible refine bset ?_ _ ?_); · (first | (simp; done) | (simp; omega) | omega)) | (with_reducible refine bdrewN _ ?_) | ((with_reducible refine bcall ?_ (by assumption) ?_); · (first | (simp; done) | (simp; omega) | omega))))⟩ | refine bodyPost_ret (v := .tuple #[.bool false, .bool true]) (by simp [results, Try.results26, go_sem, *]) rfl ⟨rfl, by (repeat (first | (with_reducible exact Below.refl _ _) | (with_reducible assumption) | (with_reducible refine Below.drew ?_) | ((with_reducible refine balloc ?_ _ ?_); · (first | (simp; done) | (simp; omega) | omega)) | ((with_reducible refine bset ?_ _ ?_); · (first | (simp; done) | (simp; omega) | omega)) | (with_reducible refine bdrewN _ ?_) | ((with_reducible refine bcall ?_ (by assumption) ?_); · (first | (simp; done) | (simp; omega) | omega))))⟩

set_option maxHeartbeats 1000000 in
theorem sFitsSheet_any (x y z a p q : Int) (w : World) :
    Calls Try.prog 25 #[bx3 x y z, .int .i64 a, .int .i64 p, .int .i64 q] w fun e w' => e = .returned (.tuple #[.bool (fsA x y z a p q), .bool (fsOk x y z a p q)]) ∧ Below w.heap.size w w' := by
  cases hO : fsOk x y z a p q
  · rw [show fsA x y z a p q = false by simp [fsA, hO]]
    cases hB : boxB x y z
    · go_enter Try.func25, Try.ntmps25
      go_wp2_with fail
      refine (wrGood_any _ _ _ _).mono ?_; rintro e w1 ⟨rfl, hb1⟩; have s1 := hb1.size; obtain ⟨hc1, hf1⟩ := bcell hb1; have z1_w0 : w.heap.size < w1.heap.size := (by have q := s1; first | omega | (simp at q; omega))
      rw [hB]
      go_wp2
      refine bodyPost_ret (v := .tuple #[.bool false, .bool false]) (by simp [results, Try.results25, go_sem]) rfl ⟨rfl, by (repeat (first | (with_reducible exact Below.refl _ _) | (with_reducible assumption) | (with_reducible refine Below.drew ?_) | ((with_reducible refine balloc ?_ _ ?_); · (first | (simp; done) | (simp; omega) | omega)) | ((with_reducible refine bset ?_ _ ?_); · (first | (simp; done) | (simp; omega) | omega)) | (with_reducible refine bdrewN _ ?_) | ((with_reducible refine bcall ?_ (by assumption) ?_); · (first | (simp; done) | (simp; omega) | omega))))⟩
    · cases hA : inB a 0 60
      · go_enter Try.func25, Try.ntmps25
        go_wp2_with fail
        refine (wrGood_any _ _ _ _).mono ?_; rintro e w1 ⟨rfl, hb1⟩; have s1 := hb1.size; obtain ⟨hc1, hf1⟩ := bcell hb1; have z1_w0 : w.heap.size < w1.heap.size := (by have q := s1; first | omega | (simp at q; omega))
        rw [hB]
        go_wp2_with (go_at_call 34; refine (l1In_any _ _ _ _).mono ?_; rintro e wx ⟨rfl, rfl⟩; first | rw [hA] | rw [hP] | rw [hQ])
        refine bodyPost_ret (v := .tuple #[.bool false, .bool false]) (by simp [results, Try.results25, go_sem]) rfl ⟨rfl, by (repeat (first | (with_reducible exact Below.refl _ _) | (with_reducible assumption) | (with_reducible refine Below.drew ?_) | ((with_reducible refine balloc ?_ _ ?_); · (first | (simp; done) | (simp; omega) | omega)) | ((with_reducible refine bset ?_ _ ?_); · (first | (simp; done) | (simp; omega) | omega)) | (with_reducible refine bdrewN _ ?_) | ((with_reducible refine bcall ?_ (by assumption) ?_); · (first | (simp; done) | (simp; omega) | omega))))⟩
      · cases hP : inB p 1 500
        · go_enter Try.func25, Try.ntmps25
          go_wp2_with fail
          refine (wrGood_any _ _ _ _).mono ?_; rintro e w1 ⟨rfl, hb1⟩; have s1 := hb1.size; obtain ⟨hc1, hf1⟩ := bcell hb1; have z1_w0 : w.heap.size < w1.heap.size := (by have q := s1; first | omega | (simp at q; omega))
          rw [hB]
          go_wp2_with (go_at_call 34; refine (l1In_any _ _ _ _).mono ?_; rintro e wx ⟨rfl, rfl⟩; first | rw [hA] | rw [hP] | rw [hQ])
          refine bodyPost_ret (v := .tuple #[.bool false, .bool false]) (by simp [results, Try.results25, go_sem]) rfl ⟨rfl, by (repeat (first | (with_reducible exact Below.refl _ _) | (with_reducible assumption) | (with_reducible refine Below.drew ?_) | ((with_reducible refine balloc ?_ _ ?_); · (first | (simp; done) | (simp; omega) | omega)) | ((with_reducible refine bset ?_ _ ?_); · (first | (simp; done) | (simp; omega) | omega)) | (with_reducible refine bdrewN _ ?_) | ((with_reducible refine bcall ?_ (by assumption) ?_); · (first | (simp; done) | (simp; omega) | omega))))⟩
        · have hQ : inB q 1 500 = false := by simpa [fsOk, hB, hA, hP] using hO
          go_enter Try.func25, Try.ntmps25
          go_wp2_with fail
          refine (wrGood_any _ _ _ _).mono ?_; rintro e w1 ⟨rfl, hb1⟩; have s1 := hb1.size; obtain ⟨hc1, hf1⟩ := bcell hb1; have z1_w0 : w.heap.size < w1.heap.size := (by have q := s1; first | omega | (simp at q; omega))
          rw [hB]
          go_wp2_with (go_at_call 34; refine (l1In_any _ _ _ _).mono ?_; rintro e wx ⟨rfl, rfl⟩; first | rw [hA] | rw [hP] | rw [hQ])
          refine bodyPost_ret (v := .tuple #[.bool false, .bool false]) (by simp [results, Try.results25, go_sem]) rfl ⟨rfl, by (repeat (first | (with_reducible exact Below.refl _ _) | (with_reducible assumption) | (with_reducible refine Below.drew ?_) | ((with_reducible refine balloc ?_ _ ?_); · (first | (simp; done) | (simp; omega) | omega)) | ((with_reducible refine bset ?_ _ ?_); · (first | (simp; done) | (simp; omega) | omega)) | (with_reducible refine bdrewN _ ?_) | ((with_reducible refine bcall ?_ (by assumption) ?_); · (first | (simp; done) | (simp; omega) | omega))))⟩
  · have hO' := hO
    simp only [fsOk, Bool.and_eq_true] at hO'
    obtain ⟨⟨⟨hB, hA⟩, hP⟩, hQ⟩ := hO'
    rw [show fsA x y z a p q = fsB (shW x z) (shH y z a) p q by simp [fsA, hO]]
    have HS := Lib.hid (fun wx => wrSheet_any x y z a wx)
    clear hO
    generalize shW x z = u at *
    generalize shH y z a = v at *
    refine fsB_cases u v p q ?_ ?_ ?_ ?_ ?_ ?_ ?_ ?_ ?_
    all_goals
      intros
      have hF := ‹fsB u v p q = _›
      rw [hF]
      go_enter Try.func25, Try.ntmps25
      go_wp2_with fail
      refine (wrGood_any _ _ _ _).mono ?_; rintro e w1 ⟨rfl, hb1⟩; have s1 := hb1.size; obtain ⟨hc1, hf1⟩ := bcell hb1; have z1_w0 : w.heap.size < w1.heap.size := (by have q := s1; first | omega | (simp at q; omega))
      rw [hB]
      go_wp2_with (go_at_call 34; refine (l1In_any _ _ _ _).mono ?_; rintro e wx ⟨rfl, rfl⟩; first | rw [hA] | rw [hP] | rw [hQ])
      go_wp2_with fail
      refine (HS.out _).mono ?_; rintro e w2 ⟨rfl, hb2⟩; have s2 := hb2.size; obtain ⟨hc2, hf2⟩ := bcell hb2; have z2_w0 : w.heap.size < w2.heap.size := (by have q := s2; first | omega | (simp at q; omega))
      go_wp2
      first | refine bodyPost_ret (v := .tuple #[.bool true, .bool true]) (by simp [results, Try.results25, go_sem, *]) rfl ⟨rfl, by (repeat (first | (with_reducible exact Below.refl _ _) | (with_reducible assumption) | (with_reducible refine Below.drew ?_) | ((with_reducible refine balloc ?_ _ ?_); · (first | (simp; done) | (simp; omega) | omega)) | ((with_reducible refine bset ?_ _ ?_); · (first | (simp; done) | (simp; omega) | omega)) | (with_reducible refine bdrewN _ ?_) | ((with_reducible refine bcall ?_ (by assumption) ?_); · (first | (simp; done) | (simp; omega) | omega))))⟩ | refine bodyPost_ret (v := .tuple #[.bool false, .bool true]) (by simp [results, Try.results25, go_sem, *]) rfl ⟨rfl, by (repeat (first | (with_reducible exact Below.refl _ _) | (with_reducible assumption) | (with_reducible refine Below.drew ?_) | ((with_reducible refine balloc ?_ _ ?_); · (first | (simp; done) | (simp; omega) | omega)) | ((with_reducible refine bset ?_ _ ?_); · (first | (simp; done) | (simp; omega) | omega)) | (with_reducible refine bdrewN _ ?_) | ((with_reducible refine bcall ?_ (by assumption) ?_); · (first | (simp; done) | (simp; omega) | omega))))⟩

end Go.Proofs.Ythbbddgjphdgjab
