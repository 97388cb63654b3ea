/-
  Proved: for every bar, list of breaks and next break the law's calls of IsBreak answer as the model does and leave the arguments alone. Conditions: none.
-/
import Derived.Test.YtjaddijhijnlnaaIsBreak
import Derived.Test.YtjaddijhijnlnaaBrk
import Derived.Test.YtjaddijhijnlnaaOpen
import Derived.Deep.RegionHeld3
namespace Go.Proofs.Ytjaddijhijnlnaa.lawIsBreak
open Go.ChangeShapes Go.WideShapes Go.ChangeAt Go.RowKit Go.Joins Go.Deep
set_option linter.unusedVariables false

set_option maxRecDepth 100000 in
set_option maxHeartbeats 2000000 in
theorem walk (x y : Int) (A : Option Addr) (n c : Nat) (xs : List (Int × Bool × Int)) (p : Int) (d : Bool) (t : Int) (w : World) (wx : (Lit.int .i64 x).wf = true) (wy : (Lit.int .i64 y).wf = true) (rd : Rd w 3 A n (tripCells xs)) (hn : n ≤ maxLen) (wp : (Lit.int .i64 p).wf = true) (wt : (Lit.int .i64 t).wf = true) :
    Calls Try.prog 8 #[bar2 x y, .slice A n c, brk3 p d t] w fun e w' => e = .returned (.bool true) ∧ Below w.heap.size w w' := by
  clear wx wy wp wt
  unfold maxLen at hn
  by_cases hs : n ≤ 1048576
  · have r0 := (rd.alloc (.cells #[.int .i64 x, .int .i64 y] 50)).alloc (.cells #[.int .i64 p, .bool d, .int .i64 t] 57)
    have hB0 : Below w.heap.size w ((w.alloc (.cells #[.int .i64 x, .int .i64 y] 50)).alloc (.cells #[.int .i64 p, .bool d, .int .i64 t] 57)) := by (repeat (first | (with_reducible exact Below.refl _ _) | (with_reducible assumption) | (with_reducible refine Below.drew ?_) | ((with_reducible refine balloc ?_ _ ?_); · (first | (simp; done) | (simp; omega) | omega)) | ((with_reducible refine bset ?_ _ ?_); · (first | (simp; done) | (simp; omega) | omega)) | (with_reducible refine bdrewN _ ?_) | ((with_reducible refine bcall ?_ (by assumption) ?_); · (first | (simp; done) | (simp; omega) | omega))))
    go_enter Try.func8, Try.ntmps8
    go_wp2_with fail
    refine (szBreakS_any _ _ _ _ (by omega)).mono ?_; rintro e w0 ⟨rfl, rfl⟩
    rw [if_pos hs]
    have bx0 : ((w.alloc (.cells #[.int .i64 x, .int .i64 y] 50)).alloc (.cells #[.int .i64 p, .bool d, .int .i64 t] 57)).cell? ⟨w.heap.size, 0, none⟩ = some (.int .i64 x) := by simp [go_sem]
    have bx1 : ((w.alloc (.cells #[.int .i64 x, .int .i64 y] 50)).alloc (.cells #[.int .i64 p, .bool d, .int .i64 t] 57)).cell? ⟨w.heap.size, 1, none⟩ = some (.int .i64 y) := by simp [go_sem]
    have bx2 : ((w.alloc (.cells #[.int .i64 x, .int .i64 y] 50)).alloc (.cells #[.int .i64 p, .bool d, .int .i64 t] 57)).cell? ⟨w.heap.size + 1, 0, none⟩ = some (.int .i64 p) := by simp [go_sem]
    have bx3 : ((w.alloc (.cells #[.int .i64 x, .int .i64 y] 50)).alloc (.cells #[.int .i64 p, .bool d, .int .i64 t] 57)).cell? ⟨w.heap.size + 1, 1, none⟩ = some (.bool d) := by simp [go_sem]
    have bx4 : ((w.alloc (.cells #[.int .i64 x, .int .i64 y] 50)).alloc (.cells #[.int .i64 p, .bool d, .int .i64 t] 57)).cell? ⟨w.heap.size + 1, 2, none⟩ = some (.int .i64 t) := by simp [go_sem]
    have r0d : Rd ((w.alloc (.cells #[.int .i64 x, .int .i64 y] 50)).alloc (.cells #[.int .i64 p, .bool d, .int .i64 t] 57)).drew 3 A n (tripCells xs) := r0
    have hB0d : Below w.heap.size w ((w.alloc (.cells #[.int .i64 x, .int .i64 y] 50)).alloc (.cells #[.int .i64 p, .bool d, .int .i64 t] 57)).drew := hB0.drew
    go_wp2_with fail
    go_region_held3 (fun w' => w'.cell? ⟨w.heap.size, 0, none⟩ = some (.int .i64 x) ∧ w'.cell? ⟨w.heap.size, 1, none⟩ = some (.int .i64 y) ∧ w'.cell? ⟨w.heap.size + 1, 0, none⟩ = some (.int .i64 p) ∧ w'.cell? ⟨w.heap.size + 1, 1, none⟩ = some (.bool d) ∧ w'.cell? ⟨w.heap.size + 1, 2, none⟩ = some (.int .i64 t))
      ((((try dsimp only); (repeat' apply And.intro); all_goals ((repeat (first | (with_reducible refine cell_drew ?_) | (with_reducible refine cell_drewN _ ?_) | ((with_reducible refine cell_alloc ?_ ?_); · first | omega | (simp; done) | (simp; omega) | assumption) | ((with_reducible refine cell_set ?_ ?_); · first | (intro e; injection e; omega) | (intro e; simp at e; done) | (intro e; simp at e; omega)))); first | assumption | (simp; done)))))
      (first
        | (go_at_call 37; refine (toBar_any _ _ _).mono ?_; rintro e w1 ⟨rfl, hb1⟩; have s1 := hb1.size; have r1 := r0d.later hb1 (Nat.le_refl _); have zw10 : w.heap.size < w1.heap.size := (by first | omega | (simp at s1; omega)); have zw11 : w.heap.size + 1 < w1.heap.size := (by first | omega | (simp at s1; omega)); have m1_0 : w1.cell? ⟨w.heap.size, 0, none⟩ = some (.int .i64 x) := (hb1.cell (p := ⟨w.heap.size, 0, none⟩) (by first | (simp; done) | (simp; omega) | omega)).trans (by first | assumption | (go_split_ands; assumption)); have m1_1 : w1.cell? ⟨w.heap.size, 1, none⟩ = some (.int .i64 y) := (hb1.cell (p := ⟨w.heap.size, 1, none⟩) (by first | (simp; done) | (simp; omega) | omega)).trans (by first | assumption | (go_split_ands; assumption)); have m1_2 : w1.cell? ⟨w.heap.size + 1, 0, none⟩ = some (.int .i64 p) := (hb1.cell (p := ⟨w.heap.size + 1, 0, none⟩) (by first | (simp; done) | (simp; omega) | omega)).trans (by first | assumption | (go_split_ands; assumption)); have m1_3 : w1.cell? ⟨w.heap.size + 1, 1, none⟩ = some (.bool d) := (hb1.cell (p := ⟨w.heap.size + 1, 1, none⟩) (by first | (simp; done) | (simp; omega) | omega)).trans (by first | assumption | (go_split_ands; assumption)); have m1_4 : w1.cell? ⟨w.heap.size + 1, 2, none⟩ = some (.int .i64 t) := (hb1.cell (p := ⟨w.heap.size + 1, 2, none⟩) (by first | (simp; done) | (simp; omega) | omega)).trans (by first | assumption | (go_split_ands; assumption)))
        | (go_at_call 46; refine (toBreakS_any _ _ _ xs _ r1 hs).mono ?_; rintro e w2 ⟨g2, rfl, own2, hb2⟩; have s2 := hb2.size; have r2 := r1.later hb2 (Nat.le_refl _); have zw20 : w.heap.size < w2.heap.size := (by first | omega | (simp at s2; omega)); have zw21 : w.heap.size + 1 < w2.heap.size := (by first | omega | (simp at s2; omega)); have m2_0 : w2.cell? ⟨w.heap.size, 0, none⟩ = some (.int .i64 x) := (hb2.cell (p := ⟨w.heap.size, 0, none⟩) (by first | (simp; done) | (simp; omega) | omega)).trans (by first | assumption | (go_split_ands; assumption)); have m2_1 : w2.cell? ⟨w.heap.size, 1, none⟩ = some (.int .i64 y) := (hb2.cell (p := ⟨w.heap.size, 1, none⟩) (by first | (simp; done) | (simp; omega) | omega)).trans (by first | assumption | (go_split_ands; assumption)); have m2_2 : w2.cell? ⟨w.heap.size + 1, 0, none⟩ = some (.int .i64 p) := (hb2.cell (p := ⟨w.heap.size + 1, 0, none⟩) (by first | (simp; done) | (simp; omega) | omega)).trans (by first | assumption | (go_split_ands; assumption)); have m2_3 : w2.cell? ⟨w.heap.size + 1, 1, none⟩ = some (.bool d) := (hb2.cell (p := ⟨w.heap.size + 1, 1, none⟩) (by first | (simp; done) | (simp; omega) | omega)).trans (by first | assumption | (go_split_ands; assumption)); have m2_4 : w2.cell? ⟨w.heap.size + 1, 2, none⟩ = some (.int .i64 t) := (hb2.cell (p := ⟨w.heap.size + 1, 2, none⟩) (by first | (simp; done) | (simp; omega) | omega)).trans (by first | assumption | (go_split_ands; assumption)))
        | (go_at_call 47; refine (toBreak_any _ _ _ _).mono ?_; rintro e w3 ⟨rfl, hb3⟩; have s3 := hb3.size; have r3 := r2.later hb3 (Nat.le_refl _); have own3 := own_later own2 hb3 (Nat.le_refl _); have zw30 : w.heap.size < w3.heap.size := (by first | omega | (simp at s3; omega)); have zw31 : w.heap.size + 1 < w3.heap.size := (by first | omega | (simp at s3; omega)); have m3_0 : w3.cell? ⟨w.heap.size, 0, none⟩ = some (.int .i64 x) := (hb3.cell (p := ⟨w.heap.size, 0, none⟩) (by first | (simp; done) | (simp; omega) | omega)).trans (by first | assumption | (go_split_ands; assumption)); have m3_1 : w3.cell? ⟨w.heap.size, 1, none⟩ = some (.int .i64 y) := (hb3.cell (p := ⟨w.heap.size, 1, none⟩) (by first | (simp; done) | (simp; omega) | omega)).trans (by first | assumption | (go_split_ands; assumption)); have m3_2 : w3.cell? ⟨w.heap.size + 1, 0, none⟩ = some (.int .i64 p) := (hb3.cell (p := ⟨w.heap.size + 1, 0, none⟩) (by first | (simp; done) | (simp; omega) | omega)).trans (by first | assumption | (go_split_ands; assumption)); have m3_3 : w3.cell? ⟨w.heap.size + 1, 1, none⟩ = some (.bool d) := (hb3.cell (p := ⟨w.heap.size + 1, 1, none⟩) (by first | (simp; done) | (simp; omega) | omega)).trans (by first | assumption | (go_split_ands; assumption)); have m3_4 : w3.cell? ⟨w.heap.size + 1, 2, none⟩ = some (.int .i64 t) := (hb3.cell (p := ⟨w.heap.size + 1, 2, none⟩) (by first | (simp; done) | (simp; omega) | omega)).trans (by first | assumption | (go_split_ands; assumption)))
        | (go_at_call 45; refine (sIsBreak_any _ _ _ _ _ xs _ _ _ _ (Rd.of_own own3) hs).mono ?_; rintro e w4 ⟨rfl, hb4⟩; have s4 := hb4.size; have r4 := r3.later hb4 (Nat.le_refl _); have zw40 : w.heap.size < w4.heap.size := (by first | omega | (simp at s4; omega)); have zw41 : w.heap.size + 1 < w4.heap.size := (by first | omega | (simp at s4; omega)); have m4_0 : w4.cell? ⟨w.heap.size, 0, none⟩ = some (.int .i64 x) := (hb4.cell (p := ⟨w.heap.size, 0, none⟩) (by first | (simp; done) | (simp; omega) | omega)).trans (by first | assumption | (go_split_ands; assumption)); have m4_1 : w4.cell? ⟨w.heap.size, 1, none⟩ = some (.int .i64 y) := (hb4.cell (p := ⟨w.heap.size, 1, none⟩) (by first | (simp; done) | (simp; omega) | omega)).trans (by first | assumption | (go_split_ands; assumption)); have m4_2 : w4.cell? ⟨w.heap.size + 1, 0, none⟩ = some (.int .i64 p) := (hb4.cell (p := ⟨w.heap.size + 1, 0, none⟩) (by first | (simp; done) | (simp; omega) | omega)).trans (by first | assumption | (go_split_ands; assumption)); have m4_3 : w4.cell? ⟨w.heap.size + 1, 1, none⟩ = some (.bool d) := (hb4.cell (p := ⟨w.heap.size + 1, 1, none⟩) (by first | (simp; done) | (simp; omega) | omega)).trans (by first | assumption | (go_split_ands; assumption)); have m4_4 : w4.cell? ⟨w.heap.size + 1, 2, none⟩ = some (.int .i64 t) := (hb4.cell (p := ⟨w.heap.size + 1, 2, none⟩) (by first | (simp; done) | (simp; omega) | omega)).trans (by first | assumption | (go_split_ands; assumption))))
    have b04 : Below w.heap.size w w4 := bcall (by omega) hb4 (bcall (by omega) hb3 (bcall (by omega) hb2 (bcall (by simp; omega) hb1 hB0d)))
    clear r0d hB0d own3 own2
    go_wp2_with fail
    refine (toBreakS_any _ _ _ xs _ r4 hs).mono ?_; rintro e w5 ⟨g5, rfl, own5, hb5⟩; have s5 := hb5.size; have r5 := r4.later hb5 (Nat.le_refl _); have zw50 : w.heap.size < w5.heap.size := (by first | omega | (simp at s5; omega)); have zw51 : w.heap.size + 1 < w5.heap.size := (by first | omega | (simp at s5; omega)); have m5_0 : w5.cell? ⟨w.heap.size, 0, none⟩ = some (.int .i64 x) := (hb5.cell (p := ⟨w.heap.size, 0, none⟩) (by first | (simp; done) | (simp; omega) | omega)).trans (by first | assumption | (go_split_ands; assumption)); have m5_1 : w5.cell? ⟨w.heap.size, 1, none⟩ = some (.int .i64 y) := (hb5.cell (p := ⟨w.heap.size, 1, none⟩) (by first | (simp; done) | (simp; omega) | omega)).trans (by first | assumption | (go_split_ands; assumption)); have m5_2 : w5.cell? ⟨w.heap.size + 1, 0, none⟩ = some (.int .i64 p) := (hb5.cell (p := ⟨w.heap.size + 1, 0, none⟩) (by first | (simp; done) | (simp; omega) | omega)).trans (by first | assumption | (go_split_ands; assumption)); have m5_3 : w5.cell? ⟨w.heap.size + 1, 1, none⟩ = some (.bool d) := (hb5.cell (p := ⟨w.heap.size + 1, 1, none⟩) (by first | (simp; done) | (simp; omega) | omega)).trans (by first | assumption | (go_split_ands; assumption)); have m5_4 : w5.cell? ⟨w.heap.size + 1, 2, none⟩ = some (.int .i64 t) := (hb5.cell (p := ⟨w.heap.size + 1, 2, none⟩) (by first | (simp; done) | (simp; omega) | omega)).trans (by first | assumption | (go_split_ands; assumption))
    go_wp2_with fail
    go_region_held3 (fun w' => w'.cell? ⟨w.heap.size, 0, none⟩ = some (.int .i64 x) ∧ w'.cell? ⟨w.heap.size, 1, none⟩ = some (.int .i64 y) ∧ w'.cell? ⟨w.heap.size + 1, 0, none⟩ = some (.int .i64 p) ∧ w'.cell? ⟨w.heap.size + 1, 1, none⟩ = some (.bool d) ∧ w'.cell? ⟨w.heap.size + 1, 2, none⟩ = some (.int .i64 t))
      ((((try dsimp only); (repeat' apply And.intro); all_goals ((repeat (first | (with_reducible refine cell_drew ?_) | (with_reducible refine cell_drewN _ ?_) | ((with_reducible refine cell_alloc ?_ ?_); · first | omega | (simp; done) | (simp; omega) | assumption) | ((with_reducible refine cell_set ?_ ?_); · first | (intro e; injection e; omega) | (intro e; simp at e; done) | (intro e; simp at e; omega)))); first | assumption | (simp; done)))))
      (first
        | (go_at_call 37; refine (toBar_any _ _ _).mono ?_; rintro e w6 ⟨rfl, hb6⟩; have s6 := hb6.size; have r6 := (show Rd w5.drew 3 A n (tripCells xs) from r5).later hb6 (Nat.le_refl _); have own6 := own_later own5.drew hb6 (Nat.le_refl _); have zw60 : w.heap.size < w6.heap.size := (by first | omega | (simp at s6; omega)); have zw61 : w.heap.size + 1 < w6.heap.size := (by first | omega | (simp at s6; omega)); have m6_0 : w6.cell? ⟨w.heap.size, 0, none⟩ = some (.int .i64 x) := (hb6.cell (p := ⟨w.heap.size, 0, none⟩) (by first | (simp; done) | (simp; omega) | omega)).trans (by first | assumption | (go_split_ands; assumption)); have m6_1 : w6.cell? ⟨w.heap.size, 1, none⟩ = some (.int .i64 y) := (hb6.cell (p := ⟨w.heap.size, 1, none⟩) (by first | (simp; done) | (simp; omega) | omega)).trans (by first | assumption | (go_split_ands; assumption)); have m6_2 : w6.cell? ⟨w.heap.size + 1, 0, none⟩ = some (.int .i64 p) := (hb6.cell (p := ⟨w.heap.size + 1, 0, none⟩) (by first | (simp; done) | (simp; omega) | omega)).trans (by first | assumption | (go_split_ands; assumption)); have m6_3 : w6.cell? ⟨w.heap.size + 1, 1, none⟩ = some (.bool d) := (hb6.cell (p := ⟨w.heap.size + 1, 1, none⟩) (by first | (simp; done) | (simp; omega) | omega)).trans (by first | assumption | (go_split_ands; assumption)); have m6_4 : w6.cell? ⟨w.heap.size + 1, 2, none⟩ = some (.int .i64 t) := (hb6.cell (p := ⟨w.heap.size + 1, 2, none⟩) (by first | (simp; done) | (simp; omega) | omega)).trans (by first | assumption | (go_split_ands; assumption)))
        | (go_at_call 47; refine (toBreak_any _ _ _ _).mono ?_; rintro e w7 ⟨rfl, hb7⟩; have s7 := hb7.size; have r7 := r6.later hb7 (Nat.le_refl _); have own7 := own_later own6 hb7 (Nat.le_refl _); have zw70 : w.heap.size < w7.heap.size := (by first | omega | (simp at s7; omega)); have zw71 : w.heap.size + 1 < w7.heap.size := (by first | omega | (simp at s7; omega)); have m7_0 : w7.cell? ⟨w.heap.size, 0, none⟩ = some (.int .i64 x) := (hb7.cell (p := ⟨w.heap.size, 0, none⟩) (by first | (simp; done) | (simp; omega) | omega)).trans (by first | assumption | (go_split_ands; assumption)); have m7_1 : w7.cell? ⟨w.heap.size, 1, none⟩ = some (.int .i64 y) := (hb7.cell (p := ⟨w.heap.size, 1, none⟩) (by first | (simp; done) | (simp; omega) | omega)).trans (by first | assumption | (go_split_ands; assumption)); have m7_2 : w7.cell? ⟨w.heap.size + 1, 0, none⟩ = some (.int .i64 p) := (hb7.cell (p := ⟨w.heap.size + 1, 0, none⟩) (by first | (simp; done) | (simp; omega) | omega)).trans (by first | assumption | (go_split_ands; assumption)); have m7_3 : w7.cell? ⟨w.heap.size + 1, 1, none⟩ = some (.bool d) := (hb7.cell (p := ⟨w.heap.size + 1, 1, none⟩) (by first | (simp; done) | (simp; omega) | omega)).trans (by first | assumption | (go_split_ands; assumption)); have m7_4 : w7.cell? ⟨w.heap.size + 1, 2, none⟩ = some (.int .i64 t) := (hb7.cell (p := ⟨w.heap.size + 1, 2, none⟩) (by first | (simp; done) | (simp; omega) | omega)).trans (by first | assumption | (go_split_ands; assumption)))
        | (go_at_call 48; refine (isBreak_any _ _ _ _ _ xs _ _ _ _ (Rd.of_own own7) hs).mono ?_; rintro e w8 ⟨rfl, hb8⟩; have s8 := hb8.size; have r8 := r7.later hb8 (Nat.le_refl _); have own8 := own_later own7 hb8 (Nat.le_refl _); have zw80 : w.heap.size < w8.heap.size := (by first | omega | (simp at s8; omega)); have zw81 : w.heap.size + 1 < w8.heap.size := (by first | omega | (simp at s8; omega)); have m8_0 : w8.cell? ⟨w.heap.size, 0, none⟩ = some (.int .i64 x) := (hb8.cell (p := ⟨w.heap.size, 0, none⟩) (by first | (simp; done) | (simp; omega) | omega)).trans (by first | assumption | (go_split_ands; assumption)); have m8_1 : w8.cell? ⟨w.heap.size, 1, none⟩ = some (.int .i64 y) := (hb8.cell (p := ⟨w.heap.size, 1, none⟩) (by first | (simp; done) | (simp; omega) | omega)).trans (by first | assumption | (go_split_ands; assumption)); have m8_2 : w8.cell? ⟨w.heap.size + 1, 0, none⟩ = some (.int .i64 p) := (hb8.cell (p := ⟨w.heap.size + 1, 0, none⟩) (by first | (simp; done) | (simp; omega) | omega)).trans (by first | assumption | (go_split_ands; assumption)); have m8_3 : w8.cell? ⟨w.heap.size + 1, 1, none⟩ = some (.bool d) := (hb8.cell (p := ⟨w.heap.size + 1, 1, none⟩) (by first | (simp; done) | (simp; omega) | omega)).trans (by first | assumption | (go_split_ands; assumption)); have m8_4 : w8.cell? ⟨w.heap.size + 1, 2, none⟩ = some (.int .i64 t) := (hb8.cell (p := ⟨w.heap.size + 1, 2, none⟩) (by first | (simp; done) | (simp; omega) | omega)).trans (by first | assumption | (go_split_ands; assumption))))
    go_wp2_with fail
    refine (toBreakS_any _ _ _ xs _ r8 hs).mono ?_; rintro e w9 ⟨g9, rfl, own9, hb9⟩; have s9 := hb9.size
    have own10 := own_later own8 hb9 (Nat.le_refl _)
    go_wp2_with fail
    refine (eqBreakS_any _ _ _ _ _ _ xs xs _ (Rd.of_own own10) (Rd.of_own own9) (by omega) (by omega)).mono ?_; rintro e w10 ⟨rfl, hb10⟩
    have t8 : decide (xs = xs) = true := by simp
    have s5d : w.heap.size ≤ w5.drew.heap.size := (by simp; omega)
    have fin : Below w.heap.size w w10 := bcall (by omega) hb10 (bcall (by omega) hb9 (bcall (by omega) hb8 (bcall (by omega) hb7 (bcall s5d hb6 (bcall (by omega) hb5 b04).drew))))
    go_wp2
    go_ret
    exact ⟨rfl, fin⟩
  · go_enter Try.func8, Try.ntmps8
    go_wp2_with fail
    refine (szBreakS_any _ _ _ _ (by omega)).mono ?_; rintro e w0 ⟨rfl, rfl⟩
    rw [if_neg hs]
    go_wp2
    go_ret
    exact ⟨rfl, by (repeat (first | (with_reducible exact Below.refl _ _) | (with_reducible assumption) | (with_reducible refine Below.drew ?_) | ((with_reducible refine balloc ?_ _ ?_); · (first | (simp; done) | (simp; omega) | omega)) | ((with_reducible refine bset ?_ _ ?_); · (first | (simp; done) | (simp; omega) | omega)) | (with_reducible refine bdrewN _ ?_) | ((with_reducible refine bcall ?_ (by assumption) ?_); · (first | (simp; done) | (simp; omega) | omega))))⟩

theorem own : ownKnob Try.prog.godebug = none := by kernel_rfl
theorem laidOut : laidOutB Try.prog = true := by kernel_rfl

set_option maxRecDepth 100000 in
theorem lifted (os : Os) (started : os.Started) (H : Type) (enc : TypeId × Value → H) :
    ReturnsInHanded {} Try.checked os 8 .any (Rows.fnExactIsBreakSpec.pre6 enc Try.prog Try.f8 Rows.fnExactIsBreakRow.domain false) (Rows.fnExactIsBreakSpec.post enc Try.prog Try.f8 false true false false) := by
  refine returnsInHanded_of_change (C := Try.checked) own started (by kernel_rfl) Try.func8
    (ChangeSpec.witness6 (enc := enc) (C := Try.checked) false ⟨#[], #[.agg #[.int .i64 0, .int .i64 0], .slice none 0 0, .agg #[.int .i64 0, .bool false, .int .i64 0]], []⟩ 8 (by kernel_rfl) (by kernel_rfl) (by kernel_rfl) (by kernel_rfl)) ?_
  intro W base args ds gs before hval0 hW hcnd _
  have hval : ∀ (j : Nat) t v, Try.f8.params[j]? = some t → args[j]? = some v → Value.okWide Try.prog W .any base t v := hval0
  have hW' := hW
  obtain ⟨p, q, hA0, hV, rfl, hfz, hnd⟩ := hW
  have hA : DataW.TrodAll enc Try.prog W 0 (fun _ => true) true Try.f8.params.toList args.toList ds p := hA0
  rw [Try.params8] at hA hval
  obtain ⟨v0, vs0, d0, ds0, p0, q0, hargs, rfl, rfl, h0, r0⟩ := trodAll_cons hA
  obtain ⟨v1, vs1, d1, ds1, p1, q1, rfl, rfl, rfl, h1, r1⟩ := trodAll_cons r0
  obtain ⟨v2, vs2, d2, ds2, p2, q2, rfl, rfl, rfl, h2, r2⟩ := trodAll_cons r1
  obtain ⟨rfl, rfl, rfl⟩ := trodAll_nil r2
  obtain rfl : args = #[v0, v1, v2] := by cases args; simp_all
  obtain ⟨rfl, rfl⟩ := trodVars_none hV
  have k0 := h0
  have lt0 : ∀ x ∈ p0, x.block < W.heap.size := by obtain ⟨m, hm⟩ := k0; exact DataW.trod_lt m _ _ _ hm
  obtain ⟨c0_0, c0_1, y0_0, y0_1, m0, rfl, rfl, rfl, e0_0, e0_1⟩ := open_agg2 Try.underlying50 (by kernel_rfl) (show Try.prog.cellsOf 50 = 2 by kernel_rfl) (hval 0 50 v0 rfl rfl) h0
  obtain ⟨a0_0, q0_0, rfl, w0_0⟩ := DataW.trod_int Try.underlying3 e0_0
  obtain ⟨a0_1, q0_1, rfl, w0_1⟩ := DataW.trod_int Try.underlying3 e0_1
  simp at q0_0 q0_1
  subst q0_0 q0_1
  obtain ⟨A1, n1, c1, rfl⟩ := okWide_slice Try.underlying55 (hval 1 55 v1 rfl rfl)
  have k1 := h1
  have lt1 : ∀ x ∈ p1, x.block < W.heap.size := by obtain ⟨m, hm⟩ := k1; exact DataW.trod_lt m _ _ _ hm
  obtain ⟨xs1, rd1⟩ := open_trips Try.underlying55 Try.underlying57 (show Try.prog.cellsOf 57 = 3 by kernel_rfl) rfl rfl rfl rfl rfl rfl Try.underlying3 Try.underlying4 (show Try.prog.cellsOf 3 = 1 by kernel_rfl) (show Try.prog.cellsOf 4 = 1 by kernel_rfl) h1
  have hl1 : n1 ≤ maxLen := by
    obtain ⟨fuel, hf⟩ := h1
    rcases open_slice Try.underlying55 hf with ⟨hcs, _⟩ | ⟨_, _, _, _, _, _, _, hcs, _, q1, q2, _⟩
    · simp [Value.cells] at hcs
      obtain ⟨_, rfl, _⟩ := hcs
      exact Nat.zero_le _
    · simp [Value.cells] at hcs
      obtain ⟨_, rfl, rfl⟩ := hcs
      omega
  have k2 := h2
  have lt2 : ∀ x ∈ p2, x.block < W.heap.size := by obtain ⟨m, hm⟩ := k2; exact DataW.trod_lt m _ _ _ hm
  obtain ⟨c2_0, c2_1, c2_2, y2_0, y2_1, y2_2, m2, rfl, rfl, rfl, e2_0, e2_1, e2_2⟩ := open_agg3 Try.underlying57 (by kernel_rfl) (show Try.prog.cellsOf 57 = 3 by kernel_rfl) (hval 2 57 v2 rfl rfl) h2
  obtain ⟨a2_0, q2_0, rfl, w2_0⟩ := DataW.trod_int Try.underlying3 e2_0
  obtain ⟨a2_1, q2_1, rfl⟩ := DataW.trod_bool Try.underlying4 e2_1
  obtain ⟨a2_2, q2_2, rfl, w2_2⟩ := DataW.trod_int Try.underlying3 e2_2
  simp at q2_0 q2_1 q2_2
  subst q2_0 q2_1 q2_2
  clear hA0 hval0
  refine (walk a0_0 a0_1 A1 n1 c1 xs1 a2_0 a2_1 a2_2 W w0_0 w0_1 rd1 hl1 w2_0 w2_2).mono fun e W' ⟨he, bel⟩ => ?_
  subst he
  exact ⟨_, rfl, _, _, _, [], _, [], hW', trodAll_mk1 (shut_bool Try.underlying4 _), (trodAll_cons_mk (Below.trod laidOut (by kernel_rfl) (of_decide_eq_true (by kernel_rfl)) k0 bel lt0) (trodAll_cons_mk (Below.trod laidOut (by kernel_rfl) (of_decide_eq_true (by kernel_rfl)) k1 bel lt1) (trodAll_cons_mk (Below.trod laidOut (by kernel_rfl) (of_decide_eq_true (by kernel_rfl)) k2 bel lt2) trodAll_mk0))), rfl, bel.frame _, fun h => by cases h⟩

theorem proved : Rows.FnExactIsBreakSaid :=
  OpenClaim.holds_of_wide 8 Try.f8 rfl rfl rfl rfl rfl rfl rfl ⟨rfl, rfl, rfl, rfl, rfl⟩ rfl rfl rfl rfl rfl (by kernel_rfl) Try.func8 (by kernel_rfl)
    (of_decide_eq_true (by kernel_rfl)) (by unfold Func.isWrapper; first | (rw [if_pos (by decide +kernel)]; kernel_rfl) | (rw [if_neg (by decide +kernel)]; exact ⟨rfl, rfl⟩))
    (fun os started H enc _ => lifted os started H enc)

#print axioms proved
end Go.Proofs.Ytjaddijhijnlnaa.lawIsBreak
