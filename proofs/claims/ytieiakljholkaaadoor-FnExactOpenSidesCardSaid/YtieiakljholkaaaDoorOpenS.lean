/-
  Contracts: OpenSides of the program and of the model.
-/
import Derived.Test.YtieiakljholkaaaDoorOpenT
import Derived.Test.YtieiakljholkaaaDoorSqOk
namespace Go.Proofs.YtieiakljholkaaaDoor
open Go.RowKit
set_option linter.unusedVariables false
set_option linter.unusedSimpArgs false

def openR (ss : List ByteArray) (x y : Int) : Nat := if sqOk ss x y then openN ss x y else 0
theorem openR_no {ss : List ByteArray} {x y : Int} (h : sqOk ss x y = false) : openR ss x y = 0 := by simp [openR, h]
theorem openR_yes {ss : List ByteArray} {x y : Int} (h : sqOk ss x y = true) : openR ss x y = openN ss x y := by simp [openR, h]

set_option maxHeartbeats 1000000 in
theorem sOpenSides_any (A : Option Addr) (n c : Nat) (ss : List ByteArray) (x y : Int) (w : World) (hr : Rd w 1 A n (strCells ss)) (hsz : ∀ s ∈ ss, s.size ≤ 9223372036854775807) :
    Calls Tryd.prog 20 #[.slice A n c, .int .i64 x, .int .i64 y] w fun e w' => e = .returned (.tuple #[.int .i64 (openR ss x y : Nat), .bool (sqOk ss x y)]) ∧ Below w.heap.size w w' := by
  have HG := Lib.hid (mlSquare_any A n c ss x y w hr hsz)
  clear hsz
  cases hB : sqOk ss x y
  · rw [hB] at HG
    rw [openR_no hB]
    go_enter Tryd.func20, Tryd.ntmps20
    go_wp2_with fail
    refine HG.out.mono ?_; rintro e w1 ⟨rfl, rfl⟩
    go_wp2
    go_ret2
    exact ⟨rfl, Below.refl _ _⟩
  · rw [hB] at HG
    rw [openR_yes hB]
    simp only [sqOk, Bool.and_eq_true] at hB
    have hb := TB.of hB.1
    rw [hr.slen] at hb
    obtain ⟨i, j, rfl, rfl, hi, hj, _⟩ := hasQ_nat hb hB.2
    have HO := Lib.hid (mlOpen_any A n c _ i j ss w hr hb hi hj)
    go_enter Tryd.func20, Tryd.ntmps20
    go_wp2_with fail
    refine HG.out.mono ?_; rintro e w1 ⟨rfl, rfl⟩
    go_wp2_with fail
    refine HO.out.mono ?_; rintro e w1 ⟨rfl, hb1⟩
    go_wp2
    go_ret2
    exact ⟨rfl, hb1⟩

set_option maxHeartbeats 1000000 in
theorem openSides_any (A : Option Addr) (n c : Nat) (ss : List ByteArray) (x y : Int) (w : World) (hr : Rd w 1 A n (strCells ss)) (hsz : ∀ s ∈ ss, s.size ≤ 9223372036854775807) :
    Calls Tryd.prog 21 #[.slice A n c, .int .i64 x, .int .i64 y] w fun e w' => e = .returned (.tuple #[.int .i64 (openR ss x y : Nat), .bool (sqOk ss x y)]) ∧ Below w.heap.size w w' := by
  have HG := Lib.hid (isTablet_any A n c ss w hr hsz)
  clear hsz
  cases hT : tabB ss
  · rw [hT] at HG
    have hB := sqOk_no (x := x) (y := y) hT
    rw [openR_no hB, hB]
    go_enter Tryd.func21, Tryd.ntmps21
    go_wp2_with (go_at_call 16; refine HG.out.mono ?_; rintro e w1 ⟨rfl, hb1⟩)
    go_wp2
    go_ret2
    exact ⟨rfl, hb1⟩
  · rw [hT] at HG
    have hb := TB.of hT
    rw [hr.slen] at hb
    have HA := Lib.hid (fun wx h => hasSquare_any A n c _ ss x y wx h hb)
    have hok : sqOk ss x y = hasQ ss x y := by simp [sqOk, hT]
    cases hB : hasQ ss x y
    · rw [hB] at HA hok
      rw [openR_no hok, hok]
      go_enter Tryd.func21, Tryd.ntmps21
      go_wp2_with (go_at_call 16; refine HG.out.mono ?_; rintro e w1 ⟨rfl, hb1⟩; have s1 := hb1.size)
      go_wp2_with (go_at_call 48; refine (HA.out _ (hr.later hb1 (Nat.le_refl _))).mono ?_; rintro e w2 ⟨rfl, hb2⟩)
      go_wp2
      go_ret2
      exact ⟨rfl, hb1.trans (hb2.mono s1)⟩
    · rw [hB] at HA hok
      obtain ⟨i, j, rfl, rfl, hi, hj, _⟩ := hasQ_nat hb hB
      have HO := Lib.hid (fun wx h => openSq_any A n c _ i j ss wx h hb hi hj)
      rw [openR_yes hok, hok]
      go_enter Tryd.func21, Tryd.ntmps21
      go_wp2_with (go_at_call 16; refine HG.out.mono ?_; rintro e w1 ⟨rfl, hb1⟩; have s1 := hb1.size)
      go_wp2_with (go_at_call 48; refine (HA.out _ (hr.later hb1 (Nat.le_refl _))).mono ?_; rintro e w2 ⟨rfl, hb2⟩; have s2 := hb2.size)
      have hb3 := hb1.trans (hb2.mono s1)
      go_wp2_with fail
      refine (HO.out _ (hr.later hb3 (Nat.le_refl _))).mono ?_; rintro e w3 ⟨rfl, hb4⟩
      go_wp2
      go_ret2
      exact ⟨rfl, hb3.trans (hb4.mono (by omega))⟩

end Go.Proofs.YtieiakljholkaaaDoor
