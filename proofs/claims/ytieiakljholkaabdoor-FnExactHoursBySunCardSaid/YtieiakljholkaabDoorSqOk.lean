/-
  Contracts: whether there are a tablet and a square at a place of it, of the model.
-/
import Derived.Test.YtieiakljholkaabDoorSquareT
namespace Go.Proofs.YtieiakljholkaabDoor
open Go.RowKit
set_option linter.unusedVariables false
set_option linter.unusedSimpArgs false

/-- whether the sides of a square are asked for -/
def sqOk (ss : List ByteArray) (x y : Int) : Bool := tabB ss && hasQ ss x y
theorem hasQ_nat {ss : List ByteArray} {x y : Int} {W n : Nat} (hb : TB ss W n) (h : hasQ ss x y = true) : ∃ i j : Nat, x = i ∧ y = j ∧ i < W ∧ j < n ∧ tq ss j i = true := by
  simp only [hasQ, inB, Bool.and_eq_true, decide_eq_true_eq, hb.len, hb.headW] at h
  exact ⟨x.toNat, y.toNat, by omega, by omega, by omega, by omega, h.2.2⟩

theorem sqOk_no {ss : List ByteArray} {x y : Int} (h : tabB ss = false) : sqOk ss x y = false := by simp [sqOk, h]

set_option maxHeartbeats 1000000 in
theorem mlSquare_any (A : Option Addr) (n c : Nat) (ss : List ByteArray) (x y : Int) (w : World) (hr : Rd w 1 A n (strCells ss)) (hsz : ∀ s ∈ ss, s.size ≤ 9223372036854775807) :
    Calls Tryd.prog 47 #[.slice A n c, .int .i64 x, .int .i64 y] w fun e w' => e = .returned (.bool (sqOk ss x y)) ∧ w = w' := by
  have HG := Lib.hid (mlGood_any A n c ss w hr hsz)
  clear hsz
  cases hB : tabB ss
  · rw [hB] at HG
    rw [sqOk_no hB]
    go_enter Tryd.func47, Tryd.ntmps47
    go_wp2_with (go_at_call 55; refine HG.out.mono ?_; rintro e w1 ⟨rfl, rfl⟩)
    go_wp2
    go_ret
    exact ⟨rfl, rfl⟩
  · have hb := TB.of hB
    rw [hr.slen] at hb
    have HA := Lib.hid (mlAt_any A n c _ ss x y w hr hb)
    have hok : sqOk ss x y = hasQ ss x y := by simp [sqOk, hB]
    rw [hB] at HG
    rw [hok]
    go_enter Tryd.func47, Tryd.ntmps47
    go_wp2_with (go_at_call 55; refine HG.out.mono ?_; rintro e w1 ⟨rfl, rfl⟩)
    go_wp2_with (go_at_call 65; refine HA.out.mono ?_; rintro e w1 ⟨rfl, rfl⟩)
    go_wp2
    go_ret
    exact ⟨rfl, rfl⟩

end Go.Proofs.YtieiakljholkaabDoor
