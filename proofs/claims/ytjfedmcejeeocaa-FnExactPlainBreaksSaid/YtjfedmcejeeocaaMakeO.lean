/-
  Contract: the program's makeBreak, with what it leaves alone: all old blocks but that of the pieces.
-/
import Derived.Test.YtjfedmcejeeocaaWords
import Derived.Test.YtjfedmcejeeocaaLines
import Derived.Test.YtjfedmcejeeocaaPlainW
import Derived.Deep.RegionHeld3
import Derived.Deep.DeepCutAuto
import Derived.StillTailTactics
import Derived.Maps.AppendAt
namespace Go.Proofs.Ytjfedmcejeeocaa
open Go.RowKit

abbrev brkO (p : Int) (d : Bool) (t : Int) : Value := .agg #[.int .i64 p, .bool d, .int .i64 t]
theorem gb_of {B : Nat} {a w : World} (h : Below B a w) (hB : a.heap.size ≤ B) (row : Option Nat) : a.grownBy w row := ⟨h.os, h.tape, h.output, h.size, fun i hi _ => h.block i (Nat.lt_of_lt_of_le hi hB)⟩
theorem gbt {w w' w'' : World} {row : Option Nat} (h : w.grownBy w' row) (k : w'.grownBy w'' row) : w.grownBy w'' row :=
  ⟨k.os.trans h.os, k.tape.trans h.tape, k.output.trans h.output, Nat.le_trans h.size k.size, fun i hi hr => (k.block i (Nat.lt_of_lt_of_le hi h.size) hr).trans (h.block i hi hr)⟩

set_option maxRecDepth 100000 in
set_option maxHeartbeats 2000000 in
theorem makeBreak_own (A : Option Addr) (n c B p : Nat) (d : Bool) (t : Int) (l : List (Int × Int)) (w : World) (ho : w.ownsRow B 27 2 (.slice A n c) n (pairCells l)) (hp : p < l.length) (hn : n ≤ 4000000000)
    (hB : barB (l[p]).1 (l[p]).2 = true) (hC : canB (l[p]).1 (l[p]).2 d t = true) :
    Calls Try.prog 28 #[.slice A n c, brkO p d t] w fun e w' => ∃ A' c', e = .returned (.slice A' (n + 1) c') ∧ w'.ownsRow B 27 2 (.slice A' (n + 1) c') (n + 1) (pairCells (l.set p (part1 (l[p]).1 (l[p]).2 d t) ++ [part2 (l[p]).1 (l[p]).2 d t])) ∧ Below B w w' ∧ w.grownBy w' (Value.slice A n c).ownBlock ∧ ((Value.slice A' (n + 1) c').ownBlock = (Value.slice A n c).ownBlock ∨ ∃ g', (Value.slice A' (n + 1) c').ownBlock = some g' ∧ w.heap.size ≤ g') := by
  obtain ⟨i0, hi, hz0, hz1, hz2⟩ := info_parts bar_info
  have hnl : l.length = n := by have := ho.1; rw [length_pairCells] at this; omega
  have hpn : p < n := by omega
  obtain ⟨g, rfl, hg1, hg2⟩ := own_at ho (by omega)
  obtain ⟨b1, o1, e1, _, hx, p1, p2⟩ := (Rd.of_own ho).pair hpn
  simp only [Option.some.injEq, Addr.mk.injEq, and_true] at e1
  obtain ⟨rfl, rfl⟩ := e1
  simp only [Nat.zero_add] at p1 p2
  generalize hq : l[p] = q at *
  obtain ⟨x, y⟩ := q
  simp only at hB hC p1 p2 ⊢
  have HNL := Lib.hid hnl
  have HQ := Lib.hid hq
  clear hnl hq
  have g0 : g ≤ w.heap.size := by omega
  have g1 : g ≤ w.heap.size + 1 := by omega
  have g2 : g ≤ w.heap.size + 2 := by omega
  have g3 : g ≤ w.heap.size + 1 + 1 := by omega
  have bx0 : (w.alloc (.cells #[.int .i64 p, .bool d, .int .i64 t] 43)).cell? ⟨w.heap.size, 0, none⟩ = some (.int .i64 p) := by simp [go_sem]
  have bx1 : (w.alloc (.cells #[.int .i64 p, .bool d, .int .i64 t] 43)).cell? ⟨w.heap.size, 1, none⟩ = some (.bool d) := by simp [go_sem]
  have bx2 : (w.alloc (.cells #[.int .i64 p, .bool d, .int .i64 t] 43)).cell? ⟨w.heap.size, 2, none⟩ = some (.int .i64 t) := by simp [go_sem]
  have nn1 := World.new_ne w _ p1
  have a2 : w.heap.size + 1 ≠ g := by omega
  have a3 : w.heap.size + 1 + 1 ≠ g := by omega
  have nn2 := World.new_ne w _ p2
  go_enter Try.func28, Try.ntmps28
  go_wp2
  go_cut [5, 6] (fun s5 s6 wc => ∃ b5 b6 : Nat, s5 = .pointer (some ⟨b5, 0, none⟩) ∧ s6 = .pointer (some ⟨b6, 0, none⟩) ∧ w.heap.size < b5 ∧ w.heap.size < b6 ∧
      wc.cell? ⟨b5, 0, none⟩ = some (.int .i64 (part1 x y d t).1) ∧ wc.cell? ⟨b5, 1, none⟩ = some (.int .i64 (part1 x y d t).2) ∧ wc.cell? ⟨b6, 0, none⟩ = some (.int .i64 (part2 x y d t).1) ∧ wc.cell? ⟨b6, 1, none⟩ = some (.int .i64 (part2 x y d t).2) ∧
      Below (w.alloc (.cells #[.int .i64 p, .bool d, .int .i64 t] 43)).heap.size (w.alloc (.cells #[.int .i64 p, .bool d, .int .i64 t] 43)) wc)
  case first =>
    go_region_held3 (fun w' => w'.cell? ⟨w.heap.size, 0, none⟩ = some (.int .i64 p) ∧ w'.cell? ⟨w.heap.size, 1, none⟩ = some (.bool d) ∧ w'.cell? ⟨w.heap.size, 2, none⟩ = some (.int .i64 t) ∧ w'.cell? ⟨g, p * 2, none⟩ = some (.int .i64 x) ∧ w'.cell? ⟨g, p * 2 + 1, none⟩ = some (.int .i64 y))
      (((try dsimp only); (repeat' apply And.intro); all_goals ((repeat (first | (with_reducible refine cell_drew ?_) | (with_reducible refine cell_drewN _ ?_) | ((with_reducible refine cell_alloc ?_ ?_); · first | omega | (simp; done) | (simp; omega) | assumption) | ((with_reducible refine cell_set ?_ ?_); · first | (intro e; injection e; omega) | (intro e; simp at e; done) | (intro e; simp at e; omega)))); first | assumption | (simp; done))))
      (first | (go_at_call 41; refine (partsOf_any _ _ _ _ _ hB hC).mono ?_; rintro e w1 ⟨rfl, hb1⟩; obtain ⟨hc1, hf1⟩ := bcell hb1; have s1 := hb1.size; have z0 : w.heap.size < w1.heap.size := (by simp at s1; omega); have z1 : g < w1.heap.size := (by omega); have z2 : w.heap.size ≤ w1.heap.size := (by omega); have z3 : g ≤ w1.heap.size := (by omega); have z4 : w.heap.size ≤ w1.heap.size + 1 := (by omega); have z5 : g ≤ w1.heap.size + 1 := (by omega); (try have z6 : w.heap.size + 1 < w1.heap.size := (by simp at s1; omega)); (try have z7 : w.heap.size + 1 + 1 < w1.heap.size := (by simp at s1; omega)); have k0 : w1.cell? ⟨w.heap.size, 0, none⟩ = some (.int .i64 p) := (hc1 _ _ (by first | (simp; done) | (simp; omega))).trans (by first | assumption | (go_split_ands; assumption)); have k1 : w1.cell? ⟨w.heap.size, 1, none⟩ = some (.bool d) := (hc1 _ _ (by first | (simp; done) | (simp; omega))).trans (by first | assumption | (go_split_ands; assumption)); have k2 : w1.cell? ⟨w.heap.size, 2, none⟩ = some (.int .i64 t) := (hc1 _ _ (by first | (simp; done) | (simp; omega))).trans (by first | assumption | (go_split_ands; assumption)); have k3 : w1.cell? ⟨g, p * 2, none⟩ = some (.int .i64 x) := (hc1 _ _ (by first | (simp; done) | (simp; omega))).trans (by first | assumption | (go_split_ands; assumption)); have k4 : w1.cell? ⟨g, p * 2 + 1, none⟩ = some (.int .i64 y) := (hc1 _ _ (by first | (simp; done) | (simp; omega))).trans (by first | assumption | (go_split_ands; assumption)); have m7 : w.heap.size + 1 ≠ g := (by omega); have m8 : w.heap.size + 1 + 1 ≠ g := (by omega); have m9 : w1.heap.size + 1 ≠ g := (by omega); have m10 : w1.heap.size + 1 ≠ w.heap.size := (by omega); have m0 := World.new_ne w1 _ k0; have m1 := World.new_ne w1 _ k1; have m2 := World.new_ne w1 _ k2; have m3 := World.new_ne w1 _ k3; have m4 := World.new_ne w1 _ k4))
    all_goals
      go_wp2
      go_meet
      case rel =>
        refine ⟨_, _, rfl, rfl, ?_, ?_, ?_, ?_, ?_, ?_, ?_⟩
        · omega
        · omega
        · go_simp
        · go_simp
        · go_simp
        · go_simp
        · (repeat (first | (with_reducible exact Below.refl _ _) | (with_reducible assumption) | (with_reducible refine Below.drew ?_) | ((with_reducible refine balloc ?_ _ ?_); · (first | (simp; done) | (simp; omega) | omega)) | ((with_reducible refine bset ?_ _ ?_); · (first | (simp; done) | (simp; omega) | omega)) | (with_reducible refine bdrewN _ ?_) | ((with_reducible refine bcall ?_ (by assumption) ?_); · (first | (simp; done) | (simp; omega) | omega))))
  case rest =>
    obtain ⟨b5, b6, rfl, rfl, l5, l6, v50, v51, v60, v61, hBel⟩ := hcut
    have sB := hBel.size
    have own0 := own_later (ho.alloc (.cells #[.int .i64 p, .bool d, .int .i64 t] 43)) hBel (Nat.le_refl _)
    have x0 := (hBel.cell (p := ⟨w.heap.size, 0, none⟩) (by simp)).trans bx0
    have x1 := (hBel.cell (p := ⟨w.heap.size, 1, none⟩) (by simp)).trans bx1
    have x2 := (hBel.cell (p := ⟨w.heap.size, 2, none⟩) (by simp)).trans bx2
    have y0 : wc.cell? ⟨g, p * 2, none⟩ = some (.int .i64 x) := (hBel.cell (p := ⟨g, p * 2, none⟩) (by simp; omega)).trans (by (repeat (first | (with_reducible refine cell_drew ?_) | (with_reducible refine cell_drewN _ ?_) | ((with_reducible refine cell_alloc ?_ ?_); · first | omega | (simp; done) | (simp; omega) | assumption) | ((with_reducible refine cell_set ?_ ?_); · first | (intro e; injection e; omega) | (intro e; simp at e; done) | (intro e; simp at e; omega)))); assumption)
    have y1 : wc.cell? ⟨g, p * 2 + 1, none⟩ = some (.int .i64 y) := (hBel.cell (p := ⟨g, p * 2 + 1, none⟩) (by simp; omega)).trans (by (repeat (first | (with_reducible refine cell_drew ?_) | (with_reducible refine cell_drewN _ ?_) | ((with_reducible refine cell_alloc ?_ ?_); · first | omega | (simp; done) | (simp; omega) | assumption) | ((with_reducible refine cell_set ?_ ?_); · first | (intro e; injection e; omega) | (intro e; simp at e; done) | (intro e; simp at e; omega)))); assumption)
    have f1 := own0.frozenAt (p * 2)
    have f2 := own0.frozenAt (p * 2 + 1)
    have st1 := (own0.stored (p * 2) (.int .i64 (part1 x y d t).1)).1
    have st2 := (st1.stored (p * 2 + 1) (.int .i64 (part1 x y d t).2)).1
    rw [set_pairCells _ _ hx] at st2
    have ST := Lib.hid st2
    have e60 : ((wc.setCell ⟨g, p * 2, none⟩ (.int .i64 (part1 x y d t).1)).setCell ⟨g, p * 2 + 1, none⟩ (.int .i64 (part1 x y d t).2)).cell? ⟨b6, 0, none⟩ = some (.int .i64 (part2 x y d t).1) := by (repeat (first | (with_reducible refine cell_drew ?_) | (with_reducible refine cell_drewN _ ?_) | ((with_reducible refine cell_alloc ?_ ?_); · first | omega | (simp; done) | (simp; omega) | assumption) | ((with_reducible refine cell_set ?_ ?_); · first | (intro e; injection e; omega) | (intro e; simp at e; done) | (intro e; simp at e; omega)))); assumption
    have e61 : ((wc.setCell ⟨g, p * 2, none⟩ (.int .i64 (part1 x y d t).1)).setCell ⟨g, p * 2 + 1, none⟩ (.int .i64 (part1 x y d t).2)).cell? ⟨b6, 1, none⟩ = some (.int .i64 (part2 x y d t).2) := by (repeat (first | (with_reducible refine cell_drew ?_) | (with_reducible refine cell_drewN _ ?_) | ((with_reducible refine cell_alloc ?_ ?_); · first | omega | (simp; done) | (simp; omega) | assumption) | ((with_reducible refine cell_set ?_ ?_); · first | (intro e; injection e; omega) | (intro e; simp at e; done) | (intro e; simp at e; omega)))); assumption
    have hb3 : Below B w ((wc.setCell ⟨g, p * 2, none⟩ (.int .i64 (part1 x y d t).1)).setCell ⟨g, p * 2 + 1, none⟩ (.int .i64 (part1 x y d t).2)) := by
      refine bset hg1 _ (bset hg1 _ ?_)
      exact (((Below.refl _ _).alloc (Nat.le_refl _) _).trans (hBel.mono (by simp))).mono (by omega)
    have hg0 : w.grownBy ((wc.setCell ⟨g, p * 2, none⟩ (.int .i64 (part1 x y d t).1)).setCell ⟨g, p * 2 + 1, none⟩ (.int .i64 (part1 x y d t).2)) (Value.slice (some ⟨g, 0, none⟩) n c).ownBlock :=
      gbt (gbt (gbt (World.grownBy_alloc w _ _) (gb_of hBel (Nat.le_refl _) _)) (own0.stored (p * 2) (.int .i64 (part1 x y d t).1)).2) (st1.stored (p * 2 + 1) (.int .i64 (part1 x y d t).2)).2
    have HG0 := Lib.hid hg0
    clear st1 st2 own0 hg0
    go_wp2_with (at_builtin; refine wpList_append_own_at _ rfl (.tmp 25) (.tmp 27) 41 rfl B 27 i0 (bar2 0 0) 2 16 Try.underlying41 hi hz0 hz1 hz2 rfl (by decide) _ _ _ rfl (ST.out.alloc _) ⟨wc.heap.size, 0, none⟩ 1 1 [.int .i64 (part2 x y d t).1, .int .i64 (part2 x y d t).2] rfl rfl ?c1 ?c2 ?c3 ?c4 ?c5 ?_)
    case c1 =>
      intro j u hj
      have h := new2 ((wc.setCell ⟨g, p * 2, none⟩ (.int .i64 (part1 x y d t).1)).setCell ⟨g, p * 2 + 1, none⟩ (.int .i64 (part1 x y d t).2)) 27 _ _ j u hj
      simp only [World.size_setCell] at h
      exact h
    case c2 => exact two_oneCell _ _ _ _
    case c3 => simp only [maxLen]; omega
    case c4 => omega
    case c5 => simp; simp at sB; omega
    · intro v' w2 hown' hgrow _ hat
      have hb4 := bgrow (hb3.alloc (by simp; simp at sB; omega) (.cells #[.int .i64 (part2 x y d t).1, .int .i64 (part2 x y d t).2] 27)) (ST.out.alloc _) hgrow (by simp; simp at sB; omega)
      obtain ⟨A', c', rfl⟩ := own_slice hown'
      go_wp2
      go_ret
      exact ⟨A', c', rfl, by rw [pairCells_append]; exact hown', hb4, gbt (gbt HG0.out (World.grownBy_alloc _ _ _)) hgrow, hat.elim Or.inl (fun h => Or.inr ⟨_, h, by have hz := sB; simp at hz; first | omega | (simp; omega)⟩)⟩

end Go.Proofs.Ytjfedmcejeeocaa
