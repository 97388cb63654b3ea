/-
  Contracts: KeptMoves, GoodKept of the program and of the model. Conditions: none.
-/
import Derived.Test.YthemmckchmpicaaGoodK
namespace Go.Proofs.Ythemmckchmpicaa
open Go.RowKit
set_option linter.unusedSimpArgs false

def kmR (x y : Int) : List (Int × Int) := if barB x y then kmL x y else []
def gkR (x y : Int) : List (Int × Int) := if barB x y then gkL x y else []
theorem length_kmR (x y : Int) : (kmR x y).length ≤ 22 := by
  unfold kmR
  split
  · rename_i h; exact length_kmL h
  · simp
theorem length_gkR (x y : Int) : (gkR x y).length ≤ 22 := by
  unfold gkR
  split
  · rename_i h; exact length_gkL h
  · simp
theorem kmR_no {x y : Int} (h : barB x y = false) : kmR x y = [] := by simp [kmR, h]
theorem kmR_yes {x y : Int} (h : barB x y = true) : kmR x y = kmL x y := by simp [kmR, h]
theorem gkR_no {x y : Int} (h : barB x y = false) : gkR x y = [] := by simp [gkR, h]
theorem gkR_yes {x y : Int} (h : barB x y = true) : gkR x y = gkL x y := by simp [gkR, h]

set_option maxHeartbeats 1000000 in
theorem keptMovesF_any (x y : Int) (w : World) :
    Calls Try.prog 18 #[bar2 x y] w fun e w' => ∃ A n c, e = .returned (.tuple #[.slice A n c, .bool (barB x y)]) ∧ w'.ownsRow w.heap.size 26 2 (.slice A n c) n (pairCells (kmR x y)) ∧ Below w.heap.size w w' := by
  cases hB : barB x y
  · rw [kmR_no hB]
    go_enter Try.func18, Try.ntmps18
    go_wp2_with fail
    refine (isBar_any _ _ _).mono ?_; rintro e w1 ⟨rfl, hb1⟩; have s1 := hb1.size; obtain ⟨hc1, hf1⟩ := bcell hb1; have z1_w0 : w.heap.size < w1.heap.size := (by have q := s1; first | omega | (simp at q; omega))
    go_wp2
    go_ret2
    exact ⟨none, 0, 0, rfl, World.ownsRow_nil _ _ _ _, by (repeat (first | (with_reducible exact Below.refl _ _) | (with_reducible assumption) | (with_reducible refine Below.drew ?_) | ((with_reducible refine balloc ?_ _ ?_); · (first | (simp; done) | (simp; omega) | omega)) | ((with_reducible refine bset ?_ _ ?_); · (first | (simp; done) | (simp; omega) | omega)) | (with_reducible refine bdrewN _ ?_) | ((with_reducible refine bcall ?_ (by assumption) ?_); · (first | (simp; done) | (simp; omega) | omega))))⟩
  · rw [kmR_yes hB]
    go_enter Try.func18, Try.ntmps18
    go_wp2_with fail
    refine (isBar_any _ _ _).mono ?_; rintro e w1 ⟨rfl, hb1⟩; have s1 := hb1.size; obtain ⟨hc1, hf1⟩ := bcell hb1; have z1_w0 : w.heap.size < w1.heap.size := (by have q := s1; first | omega | (simp at q; omega))
    go_wp2_with fail
    refine (keptMoves_any _ _ _ hB).mono ?_; rintro e w2 ⟨A, n, c, rfl, own2, hb2⟩
    go_wp2
    go_ret2
    exact ⟨A, n, c, rfl, own_base own2 (by omega), by (repeat (first | (with_reducible exact Below.refl _ _) | (with_reducible assumption) | (with_reducible refine Below.drew ?_) | ((with_reducible refine balloc ?_ _ ?_); · (first | (simp; done) | (simp; omega) | omega)) | ((with_reducible refine bset ?_ _ ?_); · (first | (simp; done) | (simp; omega) | omega)) | (with_reducible refine bdrewN _ ?_) | ((with_reducible refine bcall ?_ (by assumption) ?_); · (first | (simp; done) | (simp; omega) | omega))))⟩

set_option maxHeartbeats 1000000 in
theorem sKeptMoves_any (x y : Int) (w : World) :
    Calls Try.prog 17 #[bar2 x y] w fun e w' => ∃ A n c, e = .returned (.tuple #[.slice A n c, .bool (barB x y)]) ∧ w'.ownsRow w.heap.size 26 2 (.slice A n c) n (pairCells (kmR x y)) ∧ Below w.heap.size w w' := by
  cases hB : barB x y
  · rw [kmR_no hB]
    go_enter Try.func17, Try.ntmps17
    go_wp2_with fail
    refine (brGood_any _ _ _).mono ?_; rintro e w1 ⟨rfl, hb1⟩; have s1 := hb1.size; obtain ⟨hc1, hf1⟩ := bcell hb1; have z1_w0 : w.heap.size < w1.heap.size := (by have q := s1; first | omega | (simp at q; omega))
    go_wp2
    go_ret2
    exact ⟨none, 0, 0, rfl, World.ownsRow_nil _ _ _ _, by (repeat (first | (with_reducible exact Below.refl _ _) | (with_reducible assumption) | (with_reducible refine Below.drew ?_) | ((with_reducible refine balloc ?_ _ ?_); · (first | (simp; done) | (simp; omega) | omega)) | ((with_reducible refine bset ?_ _ ?_); · (first | (simp; done) | (simp; omega) | omega)) | (with_reducible refine bdrewN _ ?_) | ((with_reducible refine bcall ?_ (by assumption) ?_); · (first | (simp; done) | (simp; omega) | omega))))⟩
  · rw [kmR_yes hB]
    go_enter Try.func17, Try.ntmps17
    go_wp2_with fail
    refine (brGood_any _ _ _).mono ?_; rintro e w1 ⟨rfl, hb1⟩; have s1 := hb1.size; obtain ⟨hc1, hf1⟩ := bcell hb1; have z1_w0 : w.heap.size < w1.heap.size := (by have q := s1; first | omega | (simp at q; omega))
    go_wp2_with fail
    refine (laKept_any _ _ _ hB).mono ?_; rintro e w2 ⟨A, n, c, rfl, own2, hb2⟩
    go_wp2
    go_ret2
    exact ⟨A, n, c, rfl, own_base own2 (by omega), by (repeat (first | (with_reducible exact Below.refl _ _) | (with_reducible assumption) | (with_reducible refine Below.drew ?_) | ((with_reducible refine balloc ?_ _ ?_); · (first | (simp; done) | (simp; omega) | omega)) | ((with_reducible refine bset ?_ _ ?_); · (first | (simp; done) | (simp; omega) | omega)) | (with_reducible refine bdrewN _ ?_) | ((with_reducible refine bcall ?_ (by assumption) ?_); · (first | (simp; done) | (simp; omega) | omega))))⟩

set_option maxHeartbeats 1000000 in
theorem goodKeptF_any (x y : Int) (w : World) :
    Calls Try.prog 23 #[bar2 x y] w fun e w' => ∃ A n c, e = .returned (.tuple #[.slice A n c, .bool (barB x y)]) ∧ w'.ownsRow w.heap.size 26 2 (.slice A n c) n (pairCells (gkR x y)) ∧ Below w.heap.size w w' := by
  cases hB : barB x y
  · rw [gkR_no hB]
    go_enter Try.func23, Try.ntmps23
    go_wp2_with fail
    refine (isBar_any _ _ _).mono ?_; rintro e w1 ⟨rfl, hb1⟩; have s1 := hb1.size; obtain ⟨hc1, hf1⟩ := bcell hb1; have z1_w0 : w.heap.size < w1.heap.size := (by have q := s1; first | omega | (simp at q; omega))
    go_wp2
    go_ret2
    exact ⟨none, 0, 0, rfl, World.ownsRow_nil _ _ _ _, by (repeat (first | (with_reducible exact Below.refl _ _) | (with_reducible assumption) | (with_reducible refine Below.drew ?_) | ((with_reducible refine balloc ?_ _ ?_); · (first | (simp; done) | (simp; omega) | omega)) | ((with_reducible refine bset ?_ _ ?_); · (first | (simp; done) | (simp; omega) | omega)) | (with_reducible refine bdrewN _ ?_) | ((with_reducible refine bcall ?_ (by assumption) ?_); · (first | (simp; done) | (simp; omega) | omega))))⟩
  · rw [gkR_yes hB]
    have hl := hpN_lt hB
    have HE : Hid ((kmL x y).filter (lkF (hpN x y ^^^ hpN x y)) = gkL x y) := by rw [xself]; rfl
    go_enter Try.func23, Try.ntmps23
    go_wp2_with fail
    refine (isBar_any _ _ _).mono ?_; rintro e w1 ⟨rfl, hb1⟩; have s1 := hb1.size; obtain ⟨hc1, hf1⟩ := bcell hb1; have z1_w0 : w.heap.size < w1.heap.size := (by have q := s1; first | omega | (simp at q; omega))
    go_wp2
    have c0 : w1.cell? ⟨w.heap.size, 0, none⟩ = some (.int .i64 x) := by rw [hc1 _ _ (by simp)]; simp [go_sem]
    have c1 : w1.cell? ⟨w.heap.size, 1, none⟩ = some (.int .i64 y) := by rw [hc1 _ _ (by simp)]; simp [go_sem]
    refine wp_region_held_drew (S := (fun w' => w'.cell? ⟨w.heap.size, 0, none⟩ = some (.int .i64 x) ∧ w'.cell? ⟨w.heap.size, 1, none⟩ = some (.int .i64 y))) (by kernel_rfl) ?_ (fun hHeld => ?_)
    · ((try dsimp only); (repeat' apply And.intro); all_goals ((repeat (first | (with_reducible refine cell_drew ?_) | (with_reducible refine cell_drewN _ ?_) | ((with_reducible refine cell_alloc ?_ ?_); · first | omega | (simp; done) | (simp; omega) | assumption) | ((with_reducible refine cell_set ?_ ?_); · first | (intro e; injection e; omega) | (intro e; simp at e; done) | (intro e; simp at e; omega)))); first | assumption | (simp; done)))
    refine reg_on (i := 0) (d := 7) (v := ?rv1) rfl rfl (by kernel_rfl) (by kernel_rfl) (by kernel_rfl) (fun _ _ _ h => h) (by rfl) ?ry1 (by assumption) ?rr1
    case ry1 => (intro wz hSw; (try dsimp only at hSw); go_simp; try with_reducible rfl)
    (try simp only [Act.put, List.setIfInBounds_toArray, List.set_cons_zero, List.set_cons_succ])
    refine reg_on (i := 1) (d := 8) (v := ?rv2) rfl rfl (by kernel_rfl) (by kernel_rfl) (by kernel_rfl) (fun _ _ _ h => h) (by rfl) ?ry2 (by assumption) ?rr2
    case ry2 => (intro wz hSw; (try dsimp only at hSw); go_simp; try with_reducible rfl)
    (try simp only [Act.put, List.setIfInBounds_toArray, List.set_cons_zero, List.set_cons_succ])
    refine wpAnyH_ready (rs := [2]) (by kernel_rfl) (by simp) ?_
    refine AllReadyH.cons rfl (fun K hK => ?_) AllReadyH.nil
    go_simp
    go_at_call 41; refine (keptHeap_any _ _ _ hB).mono ?_; rintro e w2 ⟨rfl, hb2⟩; have s2 := hb2.size; (try simp at s2); have d2_0 : w2.cell? ⟨w.heap.size, 0, none⟩ = some (.int .i64 x) := (hb2.cell (p := ⟨w.heap.size, 0, none⟩) (by first | (simp; done) | (simp; omega) | omega)).trans (by first | assumption | (go_split_ands; assumption)); have d2_1 : w2.cell? ⟨w.heap.size, 1, none⟩ = some (.int .i64 y) := (hb2.cell (p := ⟨w.heap.size, 1, none⟩) (by first | (simp; done) | (simp; omega) | omega)).trans (by first | assumption | (go_split_ands; assumption))
    refine hK.out _ _ ?_ (fun hHeld => ?_)
    · ((try dsimp only); (repeat' apply And.intro); all_goals ((repeat (first | (with_reducible refine cell_drew ?_) | (with_reducible refine cell_drewN _ ?_) | ((with_reducible refine cell_alloc ?_ ?_); · first | omega | (simp; done) | (simp; omega) | assumption) | ((with_reducible refine cell_set ?_ ?_); · first | (intro e; injection e; omega) | (intro e; simp at e; done) | (intro e; simp at e; omega)))); first | assumption | (simp; done)))
    clear hK K
    (try simp only [Act.put, List.setIfInBounds_toArray, List.set_cons_zero, List.set_cons_succ])
    refine wpAnyH_ready (rs := [3]) (by kernel_rfl) (by simp) ?_
    refine AllReadyH.cons rfl (fun K hK => ?_) AllReadyH.nil
    go_simp
    go_at_call 44; refine (goodKept_any _ _ _ _ hB hl).mono ?_; rintro e w3 ⟨A, n, c, rfl, own3, hb3, hn3⟩; have s3 := hb3.size; (try simp at s3); have d3_0 : w3.cell? ⟨w.heap.size, 0, none⟩ = some (.int .i64 x) := (hb3.cell (p := ⟨w.heap.size, 0, none⟩) (by first | (simp; done) | (simp; omega) | omega)).trans (by first | assumption | (go_split_ands; assumption)); have d3_1 : w3.cell? ⟨w.heap.size, 1, none⟩ = some (.int .i64 y) := (hb3.cell (p := ⟨w.heap.size, 1, none⟩) (by first | (simp; done) | (simp; omega) | omega)).trans (by first | assumption | (go_split_ands; assumption))
    refine hK.out _ _ ?_ (fun hHeld => ?_)
    · ((try dsimp only); (repeat' apply And.intro); all_goals ((repeat (first | (with_reducible refine cell_drew ?_) | (with_reducible refine cell_drewN _ ?_) | ((with_reducible refine cell_alloc ?_ ?_); · first | omega | (simp; done) | (simp; omega) | assumption) | ((with_reducible refine cell_set ?_ ?_); · first | (intro e; injection e; omega) | (intro e; simp at e; done) | (intro e; simp at e; omega)))); first | assumption | (simp; done)))
    clear hK K
    (try simp only [Act.put, List.setIfInBounds_toArray, List.set_cons_zero, List.set_cons_succ])
    refine reg_on (i := 4) (d := 2) (v := ?rv5) rfl rfl (by kernel_rfl) (by kernel_rfl) (by kernel_rfl) (fun _ _ _ h => h) (by rfl) ?ry5 (by assumption) ?rr5
    case ry5 => (intro wz hSw; (try dsimp only at hSw); go_simp; try with_reducible rfl)
    (try simp only [Act.put, List.setIfInBounds_toArray, List.set_cons_zero, List.set_cons_succ])
    refine reg_on (i := 5) (d := 3) (v := ?rv6) rfl rfl (by kernel_rfl) (by kernel_rfl) (by kernel_rfl) (fun _ _ _ h => h) (by rfl) ?ry6 (by assumption) ?rr6
    case ry6 => (intro wz hSw; (try dsimp only at hSw); go_simp; try with_reducible rfl)
    (try simp only [Act.put, List.setIfInBounds_toArray, List.set_cons_zero, List.set_cons_succ])
    refine wpAnyH_done (by kernel_rfl) ?_ _
    rw [HE.out] at own3
    have bb := Below.trans (Below.trans (show Below w.heap.size w w1.drew by (repeat (first | (with_reducible exact Below.refl _ _) | (with_reducible assumption) | (with_reducible refine Below.drew ?_) | ((with_reducible refine balloc ?_ _ ?_); · (first | (simp; done) | (simp; omega) | omega)) | ((with_reducible refine bset ?_ _ ?_); · (first | (simp; done) | (simp; omega) | omega)) | (with_reducible refine bdrewN _ ?_) | ((with_reducible refine bcall ?_ (by assumption) ?_); · (first | (simp; done) | (simp; omega) | omega))))) (hb2.mono (by simp; omega))) (hb3.mono (by omega))
    go_wp2
    go_ret2
    exact ⟨A, n, c, rfl, own_base own3 (by omega), bb⟩

set_option maxHeartbeats 1000000 in
theorem sGoodKept_any (x y : Int) (w : World) :
    Calls Try.prog 22 #[bar2 x y] w fun e w' => ∃ A n c, e = .returned (.tuple #[.slice A n c, .bool (barB x y)]) ∧ w'.ownsRow w.heap.size 26 2 (.slice A n c) n (pairCells (gkR x y)) ∧ Below w.heap.size w w' := by
  cases hB : barB x y
  · rw [gkR_no hB]
    go_enter Try.func22, Try.ntmps22
    go_wp2_with fail
    refine (brGood_any _ _ _).mono ?_; rintro e w1 ⟨rfl, hb1⟩; have s1 := hb1.size; obtain ⟨hc1, hf1⟩ := bcell hb1; have z1_w0 : w.heap.size < w1.heap.size := (by have q := s1; first | omega | (simp at q; omega))
    go_wp2
    go_ret2
    exact ⟨none, 0, 0, rfl, World.ownsRow_nil _ _ _ _, by (repeat (first | (with_reducible exact Below.refl _ _) | (with_reducible assumption) | (with_reducible refine Below.drew ?_) | ((with_reducible refine balloc ?_ _ ?_); · (first | (simp; done) | (simp; omega) | omega)) | ((with_reducible refine bset ?_ _ ?_); · (first | (simp; done) | (simp; omega) | omega)) | (with_reducible refine bdrewN _ ?_) | ((with_reducible refine bcall ?_ (by assumption) ?_); · (first | (simp; done) | (simp; omega) | omega))))⟩
  · rw [gkR_yes hB]
    exact sGoodKept_yes x y w hB

end Go.Proofs.Ythemmckchmpicaa
