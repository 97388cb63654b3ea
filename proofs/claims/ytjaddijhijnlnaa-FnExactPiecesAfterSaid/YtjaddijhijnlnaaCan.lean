/-
  Contract: the program's canMake.
-/
import Derived.Test.YtjaddijhijnlnaaMake
namespace Go.Proofs.Ytjaddijhijnlnaa
open Go.RowKit

/-- can this break be made of these pieces? -/
def cmB (l : List (Int × Int)) (p : Int) (d : Bool) (t : Int) : Bool := if h : 0 ≤ p ∧ p.toNat < l.length then canB (l[p.toNat]'h.2).1 (l[p.toNat]'h.2).2 d t else false
theorem cmB_at (l : List (Int × Int)) (p : Nat) (d : Bool) (t : Int) (hp : p < l.length) : cmB l p d t = canB (l[p]).1 (l[p]).2 d t := by
  unfold cmB; rw [dif_pos ⟨by omega, by simpa using hp⟩]; simp

set_option maxRecDepth 100000 in
set_option maxHeartbeats 1000000 in
theorem canMake_any (A : Option Addr) (n c : Nat) (p : Int) (d : Bool) (t : Int) (l : List (Int × Int)) (w : World) (ho : Rd w 2 A n (pairCells l)) (hbars : ∀ q ∈ l, barB q.1 q.2 = true) :
    Calls Try.prog 89 #[.slice A n c, brk3 p d t] w fun e w' => e = .returned (.bool (cmB l p d t)) ∧ Below w.heap.size w w' := by
  have hnl : l.length = n := by have := ho.1; rw [length_pairCells] at this; omega
  by_cases h0 : p < 0
  · have hc : cmB l p d t = false := by unfold cmB; rw [dif_neg]; omega
    rw [hc]; clear hc
    go_enter Try.func89, Try.ntmps89
    go_wp2
    go_ret
    exact ⟨rfl, by (repeat (first | (with_reducible exact Below.refl _ _) | (with_reducible assumption) | (with_reducible refine Below.drew ?_) | ((with_reducible refine balloc ?_ _ ?_); · (first | (simp; done) | (simp; omega) | omega)) | ((with_reducible refine bset ?_ _ ?_); · (first | (simp; done) | (simp; omega) | omega)) | (with_reducible refine bdrewN _ ?_) | ((with_reducible refine bcall ?_ (by assumption) ?_); · (first | (simp; done) | (simp; omega) | omega))))⟩
  · obtain ⟨P, rfl⟩ := Int.eq_ofNat_of_zero_le (show 0 ≤ p by omega)
    clear h0
    by_cases h1 : P < n
    · obtain ⟨b, o, rfl, hb, hx, p1, p2⟩ := ho.pair h1
      rw [cmB_at l P d t hx]
      have hB := hbars _ (List.getElem_mem hx)
      generalize hq : l[P] = q at *
      obtain ⟨x, y⟩ := q
      simp only at p1 p2 hB ⊢
      have HQ := Lib.hid hq
      have HNL := Lib.hid hnl
      clear hq hnl hbars
      have z1 : ((P : Int) < 0) = False := by simp
      have q1 : (w.alloc (.cells #[.int .i64 P, .bool d, .int .i64 t] 63)).cell? ⟨b, o + P * 2, none⟩ = some (.int .i64 x) := by (repeat (first | (with_reducible refine cell_drew ?_) | (with_reducible refine cell_drewN _ ?_) | ((with_reducible refine cell_alloc ?_ ?_); · first | omega | (simp; done) | (simp; omega) | assumption) | ((with_reducible refine cell_set ?_ ?_); · first | (intro e; injection e; omega) | (intro e; simp at e; done) | (intro e; simp at e; omega)))); assumption
      have q2 : (w.alloc (.cells #[.int .i64 P, .bool d, .int .i64 t] 63)).cell? ⟨b, o + P * 2 + 1, none⟩ = some (.int .i64 y) := by (repeat (first | (with_reducible refine cell_drew ?_) | (with_reducible refine cell_drewN _ ?_) | ((with_reducible refine cell_alloc ?_ ?_); · first | omega | (simp; done) | (simp; omega) | assumption) | ((with_reducible refine cell_set ?_ ?_); · first | (intro e; injection e; omega) | (intro e; simp at e; done) | (intro e; simp at e; omega)))); assumption
      have bx0 : (w.alloc (.cells #[.int .i64 P, .bool d, .int .i64 t] 63)).cell? ⟨w.heap.size, 0, none⟩ = some (.int .i64 P) := by simp [go_sem]
      have bx1 : (w.alloc (.cells #[.int .i64 P, .bool d, .int .i64 t] 63)).cell? ⟨w.heap.size, 1, none⟩ = some (.bool d) := by simp [go_sem]
      have bx2 : (w.alloc (.cells #[.int .i64 P, .bool d, .int .i64 t] 63)).cell? ⟨w.heap.size, 2, none⟩ = some (.int .i64 t) := by simp [go_sem]
      have hBb : Below w.heap.size w (w.alloc (.cells #[.int .i64 P, .bool d, .int .i64 t] 63)) := by (repeat (first | (with_reducible exact Below.refl _ _) | (with_reducible assumption) | (with_reducible refine Below.drew ?_) | ((with_reducible refine balloc ?_ _ ?_); · (first | (simp; done) | (simp; omega) | omega)) | ((with_reducible refine bset ?_ _ ?_); · (first | (simp; done) | (simp; omega) | omega)) | (with_reducible refine bdrewN _ ?_) | ((with_reducible refine bcall ?_ (by assumption) ?_); · (first | (simp; done) | (simp; omega) | omega))))
      have HP := Lib.hid (show P < n from h1)
      go_enter Try.func89, Try.ntmps89
      go_wp2
      generalize (w.alloc (.cells #[.int .i64 P, .bool d, .int .i64 t] 63)) = wb at bx0 bx1 bx2 q1 q2 hBb ⊢
      go_still_tail 9, (by kernel_rfl)
      change wpList _ _ _ _ _ wb.drew
      have hB2 := hBb.drew
      have sB2 := hB2.size
      generalize wb.drew = w2 at hB2 sB2 ⊢
      clear q1 q2 p1 p2 bx0 bx1 bx2 hBb
      go_wp2_with fail
      refine (hasLine_any _ _ _ _ _ hB).mono ?_; rintro e w3 ⟨rfl, hb3⟩
      go_wp2
      go_ret
      exact ⟨rfl, hB2.trans (hb3.mono (by omega))⟩
    · have hc : cmB l P d t = false := by unfold cmB; rw [dif_neg]; simp; omega
      rw [hc]; clear hc
      go_enter Try.func89, Try.ntmps89
      go_wp2
      go_ret
      exact ⟨rfl, by (repeat (first | (with_reducible exact Below.refl _ _) | (with_reducible assumption) | (with_reducible refine Below.drew ?_) | ((with_reducible refine balloc ?_ _ ?_); · (first | (simp; done) | (simp; omega) | omega)) | ((with_reducible refine bset ?_ _ ?_); · (first | (simp; done) | (simp; omega) | omega)) | (with_reducible refine bdrewN _ ?_) | ((with_reducible refine bcall ?_ (by assumption) ?_); · (first | (simp; done) | (simp; omega) | omega))))⟩

end Go.Proofs.Ytjaddijhijnlnaa
