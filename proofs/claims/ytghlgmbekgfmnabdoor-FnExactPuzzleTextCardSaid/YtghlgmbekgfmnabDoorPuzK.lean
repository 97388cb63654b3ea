/-
  Contracts: the laws' size, copy, comparison, marks of puzzles.
-/
import Derived.Test.YtghlgmbekgfmnabDoorCluK
import Derived.Test.YtghlgmbekgfmnabDoorOwnA
import Derived.Test.YtghlgmbekgfmnabDoorReg
namespace Go.Proofs.YtghlgmbekgfmnabDoor
open Go.RowKit
set_option linter.unusedVariables false

theorem own_setO {w : World} {B e z n b o : Nat} {v : Value} {xs : List Value} (h : w.ownsRow B e z v n xs) (u : Value) (hb : v.ownBlock ≠ some b) : (w.setCell ⟨b, o, none⟩ u).ownsRow B e z v n xs :=
  World.ownsRow.kept h ⟨rfl, rfl, rfl, by simp, fun i _ hi => by
    have e : b ≠ i := fun e => hi (by rw [e])
    simp [World.setCell, Array.getElem?_modify, e]⟩ (.inr hb)
abbrev puzV (A : Option Addr) (n c : Nat) : Value := .agg #[.slice A n c]

set_option maxHeartbeats 400000 in
theorem szPuzzle_yes (A : Option Addr) (n c : Nat) (w : World) (hn : n ≤ 1048576) :
    Calls Tryd.prog 16 #[puzV A n c, .int .i64 1048576] w fun e w' => e = .returned (.int .i64 (1048576 - (n : Int))) ∧ Below w.heap.size w w' := by
  go_enter Tryd.func16, Tryd.ntmps16
  go_wp2_with fail
  refine (szClueS_yes _ _ _ _ hn).mono ?_; rintro e wx ⟨rfl, rfl⟩
  go_wp2
  go_ret
  exact ⟨rfl, by (repeat (first | (with_reducible exact Below.refl _ _) | (with_reducible assumption) | (with_reducible refine Below.drew ?_) | ((with_reducible refine balloc ?_ _ ?_); · (first | (simp; done) | (simp; omega) | omega)) | ((with_reducible refine bset ?_ _ ?_); · (first | (simp; done) | (simp; omega) | omega)) | (with_reducible refine bdrewN _ ?_) | ((with_reducible refine bcall ?_ (by assumption) ?_); · (first | (simp; done) | (simp; omega) | omega))))⟩
set_option maxHeartbeats 400000 in
theorem szPuzzle_no (A : Option Addr) (n c : Nat) (w : World) (hm : n ≤ maxLen) (hn : ¬ n ≤ 1048576) :
    Calls Tryd.prog 16 #[puzV A n c, .int .i64 1048576] w fun e w' => e = .returned (.int .i64 (-1)) ∧ Below w.heap.size w w' := by
  go_enter Tryd.func16, Tryd.ntmps16
  go_wp2_with fail
  refine (szClueS_no _ _ _ _ hm hn).mono ?_; rintro e wx ⟨rfl, rfl⟩
  go_wp2
  go_ret
  exact ⟨rfl, by (repeat (first | (with_reducible exact Below.refl _ _) | (with_reducible assumption) | (with_reducible refine Below.drew ?_) | ((with_reducible refine balloc ?_ _ ?_); · (first | (simp; done) | (simp; omega) | omega)) | ((with_reducible refine bset ?_ _ ?_); · (first | (simp; done) | (simp; omega) | omega)) | (with_reducible refine bdrewN _ ?_) | ((with_reducible refine bcall ?_ (by assumption) ?_); · (first | (simp; done) | (simp; omega) | omega))))⟩

set_option maxHeartbeats 400000 in
theorem toPuzzle_any (A : Option Addr) (n c : Nat) (xs : List (Int × Int × Int)) (w : World) (hr : Rd w 3 A n (boxCells xs)) (hn : n ≤ 1048576) :
    Calls Tryd.prog 18 #[puzV A n c] w fun e w' => ∃ g, e = .returned (puzV (some ⟨g, 0, none⟩) n n) ∧ w'.ownsRow w.heap.size 70 3 (.slice (some ⟨g, 0, none⟩) n n) n (boxCells xs) ∧ Below w.heap.size w w' := by
  have HA := Lib.hid (fun wx h => toClueS_any A n c xs wx h hn)
  go_enter Tryd.func18, Tryd.ntmps18
  go_wp2_with fail
  refine (HA.out _ (hr.later (B := w.heap.size) (by (repeat (first | (with_reducible exact Below.refl _ _) | (with_reducible assumption) | (with_reducible refine Below.drew ?_) | ((with_reducible refine balloc ?_ _ ?_); · (first | (simp; done) | (simp; omega) | omega)) | ((with_reducible refine bset ?_ _ ?_); · (first | (simp; done) | (simp; omega) | omega)) | (with_reducible refine bdrewN _ ?_) | ((with_reducible refine bcall ?_ (by assumption) ?_); · (first | (simp; done) | (simp; omega) | omega))))) (Nat.le_refl _))).mono ?_; rintro e w1 ⟨g, rfl, ho, hb⟩
  have s1 := hb.size
  simp at s1
  obtain ⟨hc1, hf1⟩ := bcell hb
  have z0 : w.heap.size < w1.heap.size := by omega
  have z1 : w.heap.size + 1 < w1.heap.size := by omega
  have z2 : w.heap.size + 1 + 1 < w1.heap.size := by omega
  have bw1 : Below w.heap.size w w1 := by (repeat (first | (with_reducible exact Below.refl _ _) | (with_reducible assumption) | (with_reducible refine Below.drew ?_) | ((with_reducible refine balloc ?_ _ ?_); · (first | (simp; done) | (simp; omega) | omega)) | ((with_reducible refine bset ?_ _ ?_); · (first | (simp; done) | (simp; omega) | omega)) | (with_reducible refine bdrewN _ ?_) | ((with_reducible refine bcall ?_ (by assumption) ?_); · (first | (simp; done) | (simp; omega) | omega))))
  have HO := Lib.hid ho
  have hog := (ho.lt g rfl).1
  simp at hog
  clear ho hb
  go_wp2
  refine bodyPost_ret (v := puzV (some ⟨g, 0, none⟩) n n) (by simp [results, Tryd.results18, go_sem, hc1]) rfl ⟨g, rfl, ?_, ?_⟩
  · have o1 := own_base HO.out (show w.heap.size ≤ _ by simp; omega)
    exact own_setO (own_setO o1 _ (by simp [Value.ownBlock]; omega)) _ (by simp [Value.ownBlock]; omega)
  · (repeat (first | (with_reducible exact Below.refl _ _) | (with_reducible assumption) | (with_reducible refine Below.drew ?_) | ((with_reducible refine balloc ?_ _ ?_); · (first | (simp; done) | (simp; omega) | omega)) | ((with_reducible refine bset ?_ _ ?_); · (first | (simp; done) | (simp; omega) | omega)) | (with_reducible refine bdrewN _ ?_) | ((with_reducible refine bcall ?_ (by assumption) ?_); · (first | (simp; done) | (simp; omega) | omega))))

set_option maxHeartbeats 400000 in
theorem eqPuzzle_same (A C : Option Addr) (n c m d : Nat) (xs : List (Int × Int × Int)) (w : World) (ha : Rd w 3 A n (boxCells xs)) (hb : Rd w 3 C m (boxCells xs)) (hn : n ≤ 4000000000) (hm : m ≤ 4000000000) :
    Calls Tryd.prog 20 #[puzV A n c, puzV C m d] w fun e w' => e = .returned (.bool true) ∧ Below w.heap.size w w' := by
  have HA := Lib.hid (fun wx h k => eqClueS_same A C n c m d xs wx h k hn hm)
  go_enter Tryd.func20, Tryd.ntmps20
  go_wp2_with fail
  refine (HA.out _ (ha.later (B := w.heap.size) (by (repeat (first | (with_reducible exact Below.refl _ _) | (with_reducible assumption) | (with_reducible refine Below.drew ?_) | ((with_reducible refine balloc ?_ _ ?_); · (first | (simp; done) | (simp; omega) | omega)) | ((with_reducible refine bset ?_ _ ?_); · (first | (simp; done) | (simp; omega) | omega)) | (with_reducible refine bdrewN _ ?_) | ((with_reducible refine bcall ?_ (by assumption) ?_); · (first | (simp; done) | (simp; omega) | omega))))) (Nat.le_refl _)) (hb.later (B := w.heap.size) (by (repeat (first | (with_reducible exact Below.refl _ _) | (with_reducible assumption) | (with_reducible refine Below.drew ?_) | ((with_reducible refine balloc ?_ _ ?_); · (first | (simp; done) | (simp; omega) | omega)) | ((with_reducible refine bset ?_ _ ?_); · (first | (simp; done) | (simp; omega) | omega)) | (with_reducible refine bdrewN _ ?_) | ((with_reducible refine bcall ?_ (by assumption) ?_); · (first | (simp; done) | (simp; omega) | omega))))) (Nat.le_refl _))).mono ?_; rintro e w1 ⟨rfl, hb1⟩
  go_wp2
  go_ret
  exact ⟨rfl, by (repeat (first | (with_reducible exact Below.refl _ _) | (with_reducible assumption) | (with_reducible refine Below.drew ?_) | ((with_reducible refine balloc ?_ _ ?_); · (first | (simp; done) | (simp; omega) | omega)) | ((with_reducible refine bset ?_ _ ?_); · (first | (simp; done) | (simp; omega) | omega)) | (with_reducible refine bdrewN _ ?_) | ((with_reducible refine bcall ?_ (by assumption) ?_); · (first | (simp; done) | (simp; omega) | omega))))⟩

set_option maxHeartbeats 400000 in
theorem markPuzzle_g (A : Option Addr) (n c B : Nat) (k0 : Int) (xs : List (Int × Int × Int)) (w : World) (ho : w.ownsRow B 70 3 (.slice A n c) n (boxCells xs)) (hn : n ≤ 4000000000) (h0 : 0 ≤ k0) (h1 : k0 ≤ 4000000000) :
    Calls Tryd.prog 23 #[puzV A n c, .int .i64 k0] w fun e w' => e = .returned (.int .i64 (k0 + 3 * (n : Int))) ∧ w'.ownsRow B 70 3 (.slice A n c) n (boxCells (marks3 k0 n)) ∧ Below (min B w.heap.size) w w' ∧ w.grownBy w' (Value.slice A n c).ownBlock := by
  go_enter Tryd.func23, Tryd.ntmps23
  go_wp2_with fail
  refine (markClueS_g A n c B k0 xs _ (own_alloc ho _) hn h0 h1).mono ?_; rintro e w1 ⟨rfl, ho1, hb1, hg1⟩
  go_wp2
  go_ret
  refine ⟨rfl, ho1, ?_, ?_⟩
  · exact ((Below.refl _ _).alloc (Nat.min_le_right _ _) _).trans (hb1.mono (Nat.min_le_left _ _))
  · exact gbX_trans (World.grownBy_alloc w _ _) hg1

set_option maxHeartbeats 400000 in
theorem heldPuzzle_any (A : Option Addr) (n c : Nat) (k0 : Int) (w : World) (ho : Rd w 3 A n (boxCells (marks3 k0 n))) (hn : n ≤ 4000000000) (h0 : 0 ≤ k0) (h1 : k0 ≤ 4000000000) :
    Calls Tryd.prog 24 #[puzV A n c, .int .i64 k0] w fun e w' => e = .returned (.int .i64 (k0 + 3 * (n : Int))) ∧ Below w.heap.size w w' := by
  have HA := Lib.hid (fun wx h => heldClueS_any A n c k0 wx h hn h0 h1)
  go_enter Tryd.func24, Tryd.ntmps24
  go_wp2_with fail
  refine (HA.out _ (ho.later (B := w.heap.size) (by (repeat (first | (with_reducible exact Below.refl _ _) | (with_reducible assumption) | (with_reducible refine Below.drew ?_) | ((with_reducible refine balloc ?_ _ ?_); · (first | (simp; done) | (simp; omega) | omega)) | ((with_reducible refine bset ?_ _ ?_); · (first | (simp; done) | (simp; omega) | omega)) | (with_reducible refine bdrewN _ ?_) | ((with_reducible refine bcall ?_ (by assumption) ?_); · (first | (simp; done) | (simp; omega) | omega))))) (Nat.le_refl _))).mono ?_; rintro e w1 ⟨rfl, rfl⟩
  go_wp2
  go_ret
  exact ⟨rfl, by (repeat (first | (with_reducible exact Below.refl _ _) | (with_reducible assumption) | (with_reducible refine Below.drew ?_) | ((with_reducible refine balloc ?_ _ ?_); · (first | (simp; done) | (simp; omega) | omega)) | ((with_reducible refine bset ?_ _ ?_); · (first | (simp; done) | (simp; omega) | omega)) | (with_reducible refine bdrewN _ ?_) | ((with_reducible refine bcall ?_ (by assumption) ?_); · (first | (simp; done) | (simp; omega) | omega))))⟩
end Go.Proofs.YtghlgmbekgfmnabDoor
