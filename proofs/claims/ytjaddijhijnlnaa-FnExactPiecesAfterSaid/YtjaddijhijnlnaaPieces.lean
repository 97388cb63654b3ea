/-
  Contracts: PiecesAfter of the program and of the model; the marking of a slice of breaks.
-/
import Derived.Test.YtjaddijhijnlnaaLengths
import Derived.Test.YtjaddijhijnlnaaIsBreak
namespace Go.Proofs.Ytjaddijhijnlnaa
open Go.RowKit

set_option maxRecDepth 100000 in
set_option maxHeartbeats 1000000 in
theorem piecesAfter_any (x y : Int) (A : Option Addr) (n c : Nat) (bs : List (Int × Bool × Int)) (w : World) (hr : Rd w 3 A n (tripCells bs)) (hn : n ≤ 1048576) :
    Calls Try.prog 51 #[bar2 x y, .slice A n c] w fun e w' => ∃ A' n' c', e = .returned (.tuple #[.slice A' n' c', .bool (mbR x y bs).isSome]) ∧ w'.ownsRow w.heap.size 25 2 (.slice A' n' c') n' (pairCells ((mbR x y bs).getD ([], 0)).1) ∧ Below w.heap.size w w' := by
  go_enter Try.func51, Try.ntmps51
  go_wp2_with fail
  refine (makeBreaks_any x y A n c bs _ ?_ hn).mono ?_
  · exact hr.alloc _
  rintro e w1 ⟨A1, n1, c1, rfl, own1, hb1⟩
  have s1 := hb1.size
  have own2 := own_base own1 (B' := w.heap.size) (by simp)
  clear own1
  go_wp2
  go_ret2
  exact ⟨A1, n1, c1, rfl, own2, by (repeat (first | (with_reducible exact Below.refl _ _) | (with_reducible assumption) | (with_reducible refine Below.drew ?_) | ((with_reducible refine balloc ?_ _ ?_); · (first | (simp; done) | (simp; omega) | omega)) | ((with_reducible refine bset ?_ _ ?_); · (first | (simp; done) | (simp; omega) | omega)) | (with_reducible refine bdrewN _ ?_) | ((with_reducible refine bcall ?_ (by assumption) ?_); · (first | (simp; done) | (simp; omega) | omega))))⟩

set_option maxRecDepth 100000 in
set_option maxHeartbeats 1000000 in
theorem sPiecesAfter_any (x y : Int) (A : Option Addr) (n c : Nat) (bs : List (Int × Bool × Int)) (w : World) (hr : Rd w 3 A n (tripCells bs)) (hn : n ≤ 1048576) :
    Calls Try.prog 50 #[bar2 x y, .slice A n c] w fun e w' => ∃ A' n' c', e = .returned (.tuple #[.slice A' n' c', .bool (mbR x y bs).isSome]) ∧ w'.ownsRow w.heap.size 25 2 (.slice A' n' c') n' (pairCells ((mbR x y bs).getD ([], 0)).1) ∧ Below w.heap.size w w' := by
  go_enter Try.func50, Try.ntmps50
  go_wp2_with fail
  refine (brAll_any x y A n c bs _ ?_ hn).mono ?_
  · exact hr.alloc _
  rintro e w1 ⟨A1, n1, c1, rfl, own1, hb1⟩
  have s1 := hb1.size
  have own2 := own_base own1 (B' := w.heap.size) (by simp)
  clear own1
  go_wp2
  go_ret2
  exact ⟨A1, n1, c1, rfl, own2, by (repeat (first | (with_reducible exact Below.refl _ _) | (with_reducible assumption) | (with_reducible refine Below.drew ?_) | ((with_reducible refine balloc ?_ _ ?_); · (first | (simp; done) | (simp; omega) | omega)) | ((with_reducible refine bset ?_ _ ?_); · (first | (simp; done) | (simp; omega) | omega)) | (with_reducible refine bdrewN _ ?_) | ((with_reducible refine bcall ?_ (by assumption) ?_); · (first | (simp; done) | (simp; omega) | omega))))⟩

theorem gb_trans {w w' w'' : World} {row : Option Nat} (h : w.grownBy w' row) (k : w'.grownBy w'' row) : w.grownBy w'' row :=
  ⟨k.os.trans h.os, k.tape.trans h.tape, k.output.trans h.output, Nat.le_trans h.size k.size, fun i hi hr => (k.block i (Nat.lt_of_lt_of_le hi h.size) hr).trans (h.block i hi hr)⟩

set_option maxRecDepth 100000 in
set_option maxHeartbeats 1000000 in
theorem markBreakS_any (A : Option Addr) (n c B : Nat) (k0 : Int) (cs0 : List Value) (w : World) (ho : w.ownsRow B 63 3 (.slice A n c) n cs0) (hn : n ≤ 4000000000) (h0 : 0 ≤ k0) (h1 : k0 ≤ 4000000000) :
    Calls Try.prog 53 #[.slice A n c, .int .i64 k0] w fun e w' => e = .returned (.int .i64 (k0 + 3 * (n : Int))) ∧ Below B w w' ∧ w.grownBy w' (Value.slice A n c).ownBlock := by
  go_enter Try.func53, Try.ntmps53
  go_wp2
  go_loopw [1, 5] (fun q i wr => ∃ (k : Nat) (cs : List Value), k ≤ n ∧ i = .int .i64 k ∧ q = .int .i64 (k0 + 3 * (k : Int)) ∧ wr.ownsRow B 63 3 (.slice A n c) n cs ∧ Below B w wr ∧ w.grownBy wr (Value.slice A n c).ownBlock) (fun _ i _ => n - (intOf i).toNat)
  case atStart => exact ⟨0, cs0, Nat.zero_le _, rfl, by simp, ho, Below.refl _ _, World.grownBy.refl _ _⟩
  case round =>
    obtain ⟨k, cs, hk, rfl, rfl, hown, hB, hG⟩ := hrel
    by_cases hlt : k < n
    · obtain ⟨g, rfl, hg1, hg2⟩ := own_at hown (by omega)
      have lcs : cs.length = n * 3 := hown.1
      have a0 := hown.cellAt (k * 3) (by omega)
      have a1 := hown.cellAt (k * 3 + 1) (by omega)
      have a2 := hown.cellAt (k * 3 + 2) (by omega)
      rw [List.getElem?_eq_getElem (by omega)] at a0 a1 a2
      have f0 := hown.frozenAt (k * 3)
      have f1 := hown.frozenAt (k * 3 + 1)
      have f2 := hown.frozenAt (k * 3 + 2)
      generalize cs[k * 3] = v0 at a0
      generalize cs[k * 3 + 1] = v1 at a1
      generalize cs[k * 3 + 2] = v2 at a2
      have stall : ∀ u0 u1 u2 : Value, ∃ cs', ((((wr.setCell ⟨g, k * 3, none⟩ u0).setCell ⟨g, k * 3 + 1, none⟩ u1).setCell ⟨g, k * 3 + 2, none⟩ u2)).ownsRow B 63 3 (.slice (some ⟨g, 0, none⟩) n c) n cs' ∧ w.grownBy (((wr.setCell ⟨g, k * 3, none⟩ u0).setCell ⟨g, k * 3 + 1, none⟩ u1).setCell ⟨g, k * 3 + 2, none⟩ u2) (some g) :=
        fun u0 u1 u2 => ⟨_, (((hown.stored (k * 3) u0).1.stored (k * 3 + 1) u1).1.stored (k * 3 + 2) u2).1, gb_trans hG (gb_trans (hown.stored (k * 3) u0).2 (gb_trans ((hown.stored (k * 3) u0).1.stored (k * 3 + 1) u1).2 ((((hown.stored (k * 3) u0).1.stored (k * 3 + 1) u1).1.stored (k * 3 + 2) u2).2)))⟩
      have SA := Lib.hid stall
      clear stall hown lcs
      go_wp2
      go_roundw
      case rel =>
        obtain ⟨cs', hcs', hG'⟩ := SA.out _ _ _
        exact ⟨k + 1, cs', by omega, by go_num, by congr 1; omega, hcs', by (repeat (first | (with_reducible exact Below.refl _ _) | (with_reducible assumption) | (with_reducible refine Below.drew ?_) | ((with_reducible refine balloc ?_ _ ?_); · (first | (simp; done) | (simp; omega) | omega)) | ((with_reducible refine bset ?_ _ ?_); · (first | (simp; done) | (simp; omega) | omega)) | (with_reducible refine bdrewN _ ?_) | ((with_reducible refine bcall ?_ (by assumption) ?_); · (first | (simp; done) | (simp; omega) | omega)))), hG'⟩
      case measure => simp [intOf]; omega
    · go_wp2
      go_ret
      have : k = n := by omega
      subst this
      exact ⟨rfl, hB, hG⟩

end Go.Proofs.Ytjaddijhijnlnaa
