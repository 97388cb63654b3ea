/-
  Contracts: makeBreaks and brAll whatever the bar and the list; LengthOfBreaks of the program and of the model.
-/
import Derived.Test.YtjaddijhijnlnaaBrAll
namespace Go.Proofs.Ytjaddijhijnlnaa
open Go.RowKit

def mbR (x y : Int) (bs : List (Int × Bool × Int)) : Option (List (Int × Int) × Int) := if barB x y = true ∧ bs.length ≤ 144 then runB bs [(x, y)] 0 else none

set_option maxRecDepth 100000 in
set_option maxHeartbeats 1000000 in
theorem makeBreaks_any (x y : Int) (A : Option Addr) (n c : Nat) (bs : List (Int × Bool × Int)) (w : World) (hr : Rd w 3 A n (tripCells bs)) (hn : n ≤ 1048576) :
    Calls Try.prog 88 #[bar2 x y, .slice A n c] w fun e w' => ∃ A' n' c', e = .returned (.tuple #[.slice A' n' c', .int .i64 ((mbR x y bs).getD ([], 0)).2, .bool (mbR x y bs).isSome]) ∧ w'.ownsRow w.heap.size 25 2 (.slice A' n' c') n' (pairCells ((mbR x y bs).getD ([], 0)).1) ∧ Below w.heap.size w w' := by
  have hnl : bs.length = n := by have := hr.1; rw [length_tripCells] at this; omega
  cases hB : barB x y
  · have hM : mbR x y bs = none := by simp [mbR, hB]
    rw [hM]
    clear hM hr hnl
    go_enter Try.func88, Try.ntmps88
    go_wp2_with fail
    refine (isBar_any _ _ _).mono ?_; rintro e w1 ⟨rfl, hb1⟩; have s1 := hb1.size; obtain ⟨hc1, hf1⟩ := bcell hb1; have z1_w0 : w.heap.size < w1.heap.size := (by have q := s1; first | omega | (simp at q; omega))
    go_wp2
    go_ret3
    exact ⟨none, 0, 0, rfl, by simpa [pairCells] using World.ownsRow_nil _ _ _ _, by (repeat (first | (with_reducible exact Below.refl _ _) | (with_reducible assumption) | (with_reducible refine Below.drew ?_) | ((with_reducible refine balloc ?_ _ ?_); · (first | (simp; done) | (simp; omega) | omega)) | ((with_reducible refine bset ?_ _ ?_); · (first | (simp; done) | (simp; omega) | omega)) | (with_reducible refine bdrewN _ ?_) | ((with_reducible refine bcall ?_ (by assumption) ?_); · (first | (simp; done) | (simp; omega) | omega))))⟩
  · by_cases h : n ≤ 144
    · have hM : mbR x y bs = runB bs [(x, y)] 0 := by simp [mbR, hB, hnl, h]
      rw [hM]
      exact makeBreaks_yes x y A n c bs w hB hr h
    · have hM : mbR x y bs = none := by simp [mbR, hnl]; omega
      rw [hM]
      have t1 : decide ((144 : Int) < (n : Int)) = true := by simp; omega
      clear hM hr hnl
      go_enter Try.func88, Try.ntmps88
      go_wp2_with fail
      refine (isBar_any _ _ _).mono ?_; rintro e w1 ⟨rfl, hb1⟩; have s1 := hb1.size; obtain ⟨hc1, hf1⟩ := bcell hb1; have z1_w0 : w.heap.size < w1.heap.size := (by have q := s1; first | omega | (simp at q; omega))
      go_wp2
      go_ret3
      exact ⟨none, 0, 0, rfl, by simpa [pairCells] using World.ownsRow_nil _ _ _ _, by (repeat (first | (with_reducible exact Below.refl _ _) | (with_reducible assumption) | (with_reducible refine Below.drew ?_) | ((with_reducible refine balloc ?_ _ ?_); · (first | (simp; done) | (simp; omega) | omega)) | ((with_reducible refine bset ?_ _ ?_); · (first | (simp; done) | (simp; omega) | omega)) | (with_reducible refine bdrewN _ ?_) | ((with_reducible refine bcall ?_ (by assumption) ?_); · (first | (simp; done) | (simp; omega) | omega))))⟩

set_option maxRecDepth 100000 in
set_option maxHeartbeats 1000000 in
theorem brAll_any (x y : Int) (A : Option Addr) (n c : Nat) (bs : List (Int × Bool × Int)) (w : World) (hr : Rd w 3 A n (tripCells bs)) (hn : n ≤ 1048576) :
    Calls Try.prog 86 #[bar2 x y, .slice A n c] w fun e w' => ∃ A' n' c', e = .returned (.tuple #[.slice A' n' c', .int .i64 ((mbR x y bs).getD ([], 0)).2, .bool (mbR x y bs).isSome]) ∧ w'.ownsRow w.heap.size 25 2 (.slice A' n' c') n' (pairCells ((mbR x y bs).getD ([], 0)).1) ∧ Below w.heap.size w w' := by
  have hnl : bs.length = n := by have := hr.1; rw [length_tripCells] at this; omega
  cases hB : barB x y
  · have hM : mbR x y bs = none := by simp [mbR, hB]
    rw [hM]
    clear hM hr hnl
    go_enter Try.func86, Try.ntmps86
    go_wp2_with fail
    refine (brGood_any _ _ _).mono ?_; rintro e w1 ⟨rfl, hb1⟩; have s1 := hb1.size; obtain ⟨hc1, hf1⟩ := bcell hb1; have z1_w0 : w.heap.size < w1.heap.size := (by have q := s1; first | omega | (simp at q; omega))
    go_wp2
    go_ret3
    exact ⟨none, 0, 0, rfl, by simpa [pairCells] using World.ownsRow_nil _ _ _ _, by (repeat (first | (with_reducible exact Below.refl _ _) | (with_reducible assumption) | (with_reducible refine Below.drew ?_) | ((with_reducible refine balloc ?_ _ ?_); · (first | (simp; done) | (simp; omega) | omega)) | ((with_reducible refine bset ?_ _ ?_); · (first | (simp; done) | (simp; omega) | omega)) | (with_reducible refine bdrewN _ ?_) | ((with_reducible refine bcall ?_ (by assumption) ?_); · (first | (simp; done) | (simp; omega) | omega))))⟩
  · by_cases h : n ≤ 144
    · have hM : mbR x y bs = runB bs [(x, y)] 0 := by simp [mbR, hB, hnl, h]
      rw [hM]
      exact brAll_yes x y A n c bs w hB hr h
    · have hM : mbR x y bs = none := by simp [mbR, hnl]; omega
      rw [hM]
      have t1 : decide ((144 : Int) < (n : Int)) = true := by simp; omega
      clear hM hr hnl
      go_enter Try.func86, Try.ntmps86
      go_wp2_with fail
      refine (brGood_any _ _ _).mono ?_; rintro e w1 ⟨rfl, hb1⟩; have s1 := hb1.size; obtain ⟨hc1, hf1⟩ := bcell hb1; have z1_w0 : w.heap.size < w1.heap.size := (by have q := s1; first | omega | (simp at q; omega))
      go_wp2
      go_ret3
      exact ⟨none, 0, 0, rfl, by simpa [pairCells] using World.ownsRow_nil _ _ _ _, by (repeat (first | (with_reducible exact Below.refl _ _) | (with_reducible assumption) | (with_reducible refine Below.drew ?_) | ((with_reducible refine balloc ?_ _ ?_); · (first | (simp; done) | (simp; omega) | omega)) | ((with_reducible refine bset ?_ _ ?_); · (first | (simp; done) | (simp; omega) | omega)) | (with_reducible refine bdrewN _ ?_) | ((with_reducible refine bcall ?_ (by assumption) ?_); · (first | (simp; done) | (simp; omega) | omega))))⟩

set_option maxRecDepth 100000 in
set_option maxHeartbeats 1000000 in
theorem lengthOf_any (x y : Int) (A : Option Addr) (n c : Nat) (bs : List (Int × Bool × Int)) (w : World) (hr : Rd w 3 A n (tripCells bs)) (hn : n ≤ 1048576) :
    Calls Try.prog 57 #[bar2 x y, .slice A n c] w fun e w' => e = .returned (.tuple #[.int .i64 ((mbR x y bs).getD ([], 0)).2, .bool (mbR x y bs).isSome]) ∧ Below w.heap.size w w' := by
  go_enter Try.func57, Try.ntmps57
  go_wp2_with fail
  refine (makeBreaks_any x y A n c bs _ ?_ hn).mono ?_
  · exact hr.alloc _
  rintro e w1 ⟨A1, n1, c1, rfl, own1, hb1⟩
  have s1 := hb1.size
  clear own1
  go_wp2
  go_ret2
  exact ⟨rfl, by (repeat (first | (with_reducible exact Below.refl _ _) | (with_reducible assumption) | (with_reducible refine Below.drew ?_) | ((with_reducible refine balloc ?_ _ ?_); · (first | (simp; done) | (simp; omega) | omega)) | ((with_reducible refine bset ?_ _ ?_); · (first | (simp; done) | (simp; omega) | omega)) | (with_reducible refine bdrewN _ ?_) | ((with_reducible refine bcall ?_ (by assumption) ?_); · (first | (simp; done) | (simp; omega) | omega))))⟩

set_option maxRecDepth 100000 in
set_option maxHeartbeats 1000000 in
theorem sLengthOf_any (x y : Int) (A : Option Addr) (n c : Nat) (bs : List (Int × Bool × Int)) (w : World) (hr : Rd w 3 A n (tripCells bs)) (hn : n ≤ 1048576) :
    Calls Try.prog 56 #[bar2 x y, .slice A n c] w fun e w' => e = .returned (.tuple #[.int .i64 ((mbR x y bs).getD ([], 0)).2, .bool (mbR x y bs).isSome]) ∧ Below w.heap.size w w' := by
  go_enter Try.func56, Try.ntmps56
  go_wp2_with fail
  refine (brAll_any x y A n c bs _ ?_ hn).mono ?_
  · exact hr.alloc _
  rintro e w1 ⟨A1, n1, c1, rfl, own1, hb1⟩
  have s1 := hb1.size
  clear own1
  go_wp2
  go_ret2
  exact ⟨rfl, by (repeat (first | (with_reducible exact Below.refl _ _) | (with_reducible assumption) | (with_reducible refine Below.drew ?_) | ((with_reducible refine balloc ?_ _ ?_); · (first | (simp; done) | (simp; omega) | omega)) | ((with_reducible refine bset ?_ _ ?_); · (first | (simp; done) | (simp; omega) | omega)) | (with_reducible refine bdrewN _ ?_) | ((with_reducible refine bcall ?_ (by assumption) ?_); · (first | (simp; done) | (simp; omega) | omega))))⟩

end Go.Proofs.Ytjaddijhijnlnaa
