/-
  Contracts: what is kept of one of several bars so that these are lost, of the program. Condition: a bar.
-/
import Derived.Test.YthemmckchmpicaaGood4
namespace Go.Proofs.Ythemmckchmpicaa
open Go.RowKit
set_option linter.unusedVariables false
set_option linter.unusedSimpArgs false

set_option maxRecDepth 100000 in
set_option maxHeartbeats 4000000 in
theorem goodKept_any (x y : Int) (a0 : Nat) (w : World) (hB : barB x y = true) (ha : a0 < 16) :
    Calls Try.prog 44 #[bar2 x y, .int .i64 a0] w fun e w' => ∃ A n c, e = .returned (.slice A n c) ∧ w'.ownsRow w.heap.size 26 2 (.slice A n c) n (pairCells ((kmL x y).filter (lkF (a0 ^^^ hpN x y)))) ∧ Below w.heap.size w w' ∧ n ≤ 22 := by
  obtain ⟨i0, hi, hz0, hz1, hz2⟩ := info_parts bar_info
  have HBB := Lib.hid hB
  have HLL := Lib.hid (length_kmL hB)
  have hh := hpN_lt hB
  have X1 : bits .xor .i64 (a0 : Int) ((hpN x y : Nat) : Int) = ((a0 ^^^ hpN x y : Nat) : Int) := bx_i64 _ _ (by omega) (by omega)
  have hg := xor_lt16 ha hh
  clear hB
  have bw0 : Below w.heap.size w (w.alloc (.cells #[.int .i64 x, .int .i64 y] 26)) := by (repeat (first | (with_reducible exact Below.refl _ _) | (with_reducible assumption) | (with_reducible refine Below.drew ?_) | ((with_reducible refine balloc ?_ _ ?_); · (first | (simp; done) | (simp; omega) | omega)) | ((with_reducible refine bset ?_ _ ?_); · (first | (simp; done) | (simp; omega) | omega)) | (with_reducible refine bdrewN _ ?_) | ((with_reducible refine bcall ?_ (by assumption) ?_); · (first | (simp; done) | (simp; omega) | omega))))
  have c0 : (w.alloc (.cells #[.int .i64 x, .int .i64 y] 26)).cell? ⟨w.heap.size, 0, none⟩ = some (.int .i64 x) := by simp [go_sem]
  have c1 : (w.alloc (.cells #[.int .i64 x, .int .i64 y] 26)).cell? ⟨w.heap.size, 1, none⟩ = some (.int .i64 y) := by simp [go_sem]
  have hs1 : (w.alloc (.cells #[.int .i64 x, .int .i64 y] 26)).heap.size = w.heap.size + 1 := by simp
  have C0 := Lib.hid c0
  have C1 := Lib.hid c1
  have SZ0 := Lib.hid hs1
  clear c0 c1 hs1
  go_enter Try.func44, Try.ntmps44
  go_wp2_with fail
  refine (keptMoves_any _ _ _ HBB.out).mono ?_; rintro e w2 ⟨A, n, c, rfl, own2, hb2⟩
  have s2 : w.heap.size + 1 ≤ w2.heap.size := by have := hb2.size; rw [SZ0.out] at this; exact this
  have f0 := (hb2.cell (p := ⟨w.heap.size, 0, none⟩) (by simp)).trans C0.out
  have f1 := (hb2.cell (p := ⟨w.heap.size, 1, none⟩) (by simp)).trans C1.out
  have hb02 : Below w.heap.size w w2 := bw0.trans (hb2.mono (by simp))
  have hn : (kmL x y).length = n := by have := own2.1; rw [length_pairCells] at this; omega
  have hn22 : n ≤ 22 := by have := HLL.out; omega
  have HBS := Lib.hid (kmL_bars HBB.out)
  generalize hM : kmL x y = M at *
  have HM := Lib.hid hM
  have HN := Lib.hid hn
  have hr := Rd.of_own own2
  have HB02 := Lib.hid hb02
  have HXX := Lib.hid X1
  generalize hG : a0 ^^^ hpN x y = G at *
  have HG := Lib.hid hG
  have F0 := Lib.hid f0
  have F1 := Lib.hid f1
  clear hn hM own2 hb2 hb02 f0 f1 bw0 hG
  go_wp2
  go_loopw [5, 11] (fun v i wr => ∃ (k m : Nat) (A' : Option Addr) (c' : Nat), k ≤ n ∧ i = .int .i64 k ∧ v = .slice A' m c' ∧ wr.ownsRow w2.heap.size 26 2 (.slice A' m c') m (pairCells ((M.take k).filter (lkF G))) ∧ Below w2.heap.size w2 wr ∧ m ≤ k) (fun _ i _ => n - (intOf i).toNat)
  case atStart => exact ⟨0, 0, none, 0, by omega, rfl, rfl, World.ownsRow_nil _ _ _ _, Below.refl _ _, by omega⟩
  case round =>
    obtain ⟨k, m, A', c', hk, rfl, rfl, hown, hB, hmk⟩ := hrel
    have hsz := hB.size
    have k0 := (hB.cell (p := ⟨w.heap.size, 0, none⟩) (by simp; omega)).trans F0.out
    have k1 := (hB.cell (p := ⟨w.heap.size, 1, none⟩) (by simp; omega)).trans F1.out
    by_cases hlt : k < n
    · obtain ⟨b, o, rfl, hbl, hx, p0, p1⟩ := (hr.later hB (Nat.le_refl _)).pair hlt
      have hBp := HBS.out _ (List.getElem_mem hx)
      have HBp := Lib.hid hBp
      have HY : Hid (lkF G M[k] = true → (M.take (k + 1)).filter (lkF G) = (M.take k).filter (lkF G) ++ [((M[k]).1, (M[k]).2)]) := fun h => filter_take_yes hx h
      have HZ : Hid (lkF G M[k] = false → (M.take (k + 1)).filter (lkF G) = (M.take k).filter (lkF G)) := fun h => filter_take_no hx h
      have hf : lkF G M[k] = decide (G ^^^ hpN (M[k]).1 (M[k]).2 = 0) := by simp [lkF]
      rw [hf] at HY HZ
      have X2 : bits .xor .i64 (G : Int) ((hpN (M[k]).1 (M[k]).2 : Nat) : Int) = ((G ^^^ hpN (M[k]).1 (M[k]).2 : Nat) : Int) := by have := hpN_lt hBp; exact bx_i64 _ _ (by omega) (by omega)
      clear hBp hf
      generalize (M[k]).1 = a at *
      generalize (M[k]).2 = b2 at *
      have HO := Lib.hid hown
      have HB := Lib.hid hB
      have hbl2 : b < wr.heap.size + 1 := by omega
      have hz0 : w.heap.size < wr.heap.size := by omega
      clear hown hB
      have k2 : (wr.alloc (.cells #[.int .i64 a, .int .i64 b2] 26)).cell? ⟨w.heap.size, 0, none⟩ = some (.int .i64 x) := by (repeat (first | (with_reducible refine cell_drew ?_) | (with_reducible refine cell_drewN _ ?_) | ((with_reducible refine cell_alloc ?_ ?_); · first | omega | (simp; done) | (simp; omega) | assumption) | ((with_reducible refine cell_set ?_ ?_); · first | (intro e; injection e; omega) | (intro e; simp at e; done) | (intro e; simp at e; omega)))); assumption
      have k3 : (wr.alloc (.cells #[.int .i64 a, .int .i64 b2] 26)).cell? ⟨w.heap.size, 1, none⟩ = some (.int .i64 y) := by (repeat (first | (with_reducible refine cell_drew ?_) | (with_reducible refine cell_drewN _ ?_) | ((with_reducible refine cell_alloc ?_ ?_); · first | omega | (simp; done) | (simp; omega) | assumption) | ((with_reducible refine cell_set ?_ ?_); · first | (intro e; injection e; omega) | (intro e; simp at e; done) | (intro e; simp at e; omega)))); assumption
      have k4 : (wr.alloc (.cells #[.int .i64 a, .int .i64 b2] 26)).cell? ⟨wr.heap.size, 0, none⟩ = some (.int .i64 a) := by simp [go_sem]
      have k5 : (wr.alloc (.cells #[.int .i64 a, .int .i64 b2] 26)).cell? ⟨wr.heap.size, 1, none⟩ = some (.int .i64 b2) := by simp [go_sem]
      have X1 := HXX.out
      go_wp2
      refine wp_region_held_drew (S := (fun w' => w'.cell? ⟨w.heap.size, 0, none⟩ = some (.int .i64 x) ∧ w'.cell? ⟨w.heap.size, 1, none⟩ = some (.int .i64 y) ∧ w'.cell? ⟨wr.heap.size, 0, none⟩ = some (.int .i64 a) ∧ w'.cell? ⟨wr.heap.size, 1, none⟩ = some (.int .i64 b2))) (by kernel_rfl) ?_ (fun hHeld => ?_)
      · ((try dsimp only); (repeat' apply And.intro); all_goals ((repeat (first | (with_reducible refine cell_drew ?_) | (with_reducible refine cell_drewN _ ?_) | ((with_reducible refine cell_alloc ?_ ?_); · first | omega | (simp; done) | (simp; omega) | assumption) | ((with_reducible refine cell_set ?_ ?_); · first | (intro e; injection e; omega) | (intro e; simp at e; done) | (intro e; simp at e; omega)))); first | assumption | (simp; done)))
      refine reg_on (i := 0) (d := 15) (v := ?rv1) rfl rfl (by kernel_rfl) (by kernel_rfl) (by kernel_rfl) (fun _ _ _ h => h) (by rfl) ?ry1 (by assumption) ?rr1
      case ry1 => (intro wz hSw; (try dsimp only at hSw); go_simp; try with_reducible rfl)
      (try simp only [Act.put, List.setIfInBounds_toArray, List.set_cons_zero, List.set_cons_succ])
      refine reg_on (i := 1) (d := 16) (v := ?rv2) rfl rfl (by kernel_rfl) (by kernel_rfl) (by kernel_rfl) (fun _ _ _ h => h) (by rfl) ?ry2 (by assumption) ?rr2
      case ry2 => (intro wz hSw; (try dsimp only at hSw); go_simp; try with_reducible rfl)
      (try simp only [Act.put, List.setIfInBounds_toArray, List.set_cons_zero, List.set_cons_succ])
      refine reg_on (i := 4) (d := 19) (v := ?rv3) rfl rfl (by kernel_rfl) (by kernel_rfl) (by kernel_rfl) (fun _ _ _ h => h) (by rfl) ?ry3 (by assumption) ?rr3
      case ry3 => (intro wz hSw; (try dsimp only at hSw); go_simp; try with_reducible rfl)
      (try simp only [Act.put, List.setIfInBounds_toArray, List.set_cons_zero, List.set_cons_succ])
      refine wpAnyH_ready (rs := [2]) (by kernel_rfl) (by simp) ?_
      refine AllReadyH.cons rfl (fun K hK => ?_) AllReadyH.nil
      go_simp
      go_at_call 41; refine (keptHeap_any _ _ _ HBB.out).mono ?_; rintro e w6 ⟨rfl, hb6⟩; have s6 := hb6.size; (try simp at s6); have d6_0 : w6.cell? ⟨w.heap.size, 0, none⟩ = some (.int .i64 x) := (hb6.cell (p := ⟨w.heap.size, 0, none⟩) (by first | (simp; done) | (simp; omega) | omega)).trans (by first | assumption | (go_split_ands; assumption)); have d6_1 : w6.cell? ⟨w.heap.size, 1, none⟩ = some (.int .i64 y) := (hb6.cell (p := ⟨w.heap.size, 1, none⟩) (by first | (simp; done) | (simp; omega) | omega)).trans (by first | assumption | (go_split_ands; assumption)); have d6_2 : w6.cell? ⟨wr.heap.size, 0, none⟩ = some (.int .i64 a) := (hb6.cell (p := ⟨wr.heap.size, 0, none⟩) (by first | (simp; done) | (simp; omega) | omega)).trans (by first | assumption | (go_split_ands; assumption)); have d6_3 : w6.cell? ⟨wr.heap.size, 1, none⟩ = some (.int .i64 b2) := (hb6.cell (p := ⟨wr.heap.size, 1, none⟩) (by first | (simp; done) | (simp; omega) | omega)).trans (by first | assumption | (go_split_ands; assumption))
      refine hK.out _ _ ?_ (fun hHeld => ?_)
      · ((try dsimp only); (repeat' apply And.intro); all_goals ((repeat (first | (with_reducible refine cell_drew ?_) | (with_reducible refine cell_drewN _ ?_) | ((with_reducible refine cell_alloc ?_ ?_); · first | omega | (simp; done) | (simp; omega) | assumption) | ((with_reducible refine cell_set ?_ ?_); · first | (intro e; injection e; omega) | (intro e; simp at e; done) | (intro e; simp at e; omega)))); first | assumption | (simp; done)))
      clear hK K
      (try simp only [Act.put, List.setIfInBounds_toArray, List.set_cons_zero, List.set_cons_succ])
      refine reg_on (i := 3) (d := 18) (v := ?rv5) rfl rfl (by kernel_rfl) (by kernel_rfl) (by kernel_rfl) (fun _ _ _ h => h) (by rfl) ?ry5 (by assumption) ?rr5
      case ry5 => (intro wz hSw; (try dsimp only at hSw); go_simp; try with_reducible rfl)
      (try simp only [Act.put, List.setIfInBounds_toArray, List.set_cons_zero, List.set_cons_succ])
      refine wpAnyH_ready (rs := [5]) (by kernel_rfl) (by simp) ?_
      refine AllReadyH.cons rfl (fun K hK => ?_) AllReadyH.nil
      go_simp
      go_at_call 41; refine (keptHeap_any _ _ _ HBp.out).mono ?_; rintro e w7 ⟨rfl, hb7⟩; have s7 := hb7.size; (try simp at s7); have d7_0 : w7.cell? ⟨w.heap.size, 0, none⟩ = some (.int .i64 x) := (hb7.cell (p := ⟨w.heap.size, 0, none⟩) (by first | (simp; done) | (simp; omega) | omega)).trans (by first | assumption | (go_split_ands; assumption)); have d7_1 : w7.cell? ⟨w.heap.size, 1, none⟩ = some (.int .i64 y) := (hb7.cell (p := ⟨w.heap.size, 1, none⟩) (by first | (simp; done) | (simp; omega) | omega)).trans (by first | assumption | (go_split_ands; assumption)); have d7_2 : w7.cell? ⟨wr.heap.size, 0, none⟩ = some (.int .i64 a) := (hb7.cell (p := ⟨wr.heap.size, 0, none⟩) (by first | (simp; done) | (simp; omega) | omega)).trans (by first | assumption | (go_split_ands; assumption)); have d7_3 : w7.cell? ⟨wr.heap.size, 1, none⟩ = some (.int .i64 b2) := (hb7.cell (p := ⟨wr.heap.size, 1, none⟩) (by first | (simp; done) | (simp; omega) | omega)).trans (by first | assumption | (go_split_ands; assumption))
      refine hK.out _ _ ?_ (fun hHeld => ?_)
      · ((try dsimp only); (repeat' apply And.intro); all_goals ((repeat (first | (with_reducible refine cell_drew ?_) | (with_reducible refine cell_drewN _ ?_) | ((with_reducible refine cell_alloc ?_ ?_); · first | omega | (simp; done) | (simp; omega) | assumption) | ((with_reducible refine cell_set ?_ ?_); · first | (intro e; injection e; omega) | (intro e; simp at e; done) | (intro e; simp at e; omega)))); first | assumption | (simp; done)))
      clear hK K
      (try simp only [Act.put, List.setIfInBounds_toArray, List.set_cons_zero, List.set_cons_succ])
      refine reg_on (i := 6) (d := 21) (v := ?rv7) rfl rfl (by kernel_rfl) (by kernel_rfl) (by kernel_rfl) (fun _ _ _ h => h) (by rfl) ?ry7 (by assumption) ?rr7
      case ry7 => (intro wz hSw; (try dsimp only at hSw); go_simp; try with_reducible rfl)
      (try simp only [Act.put, List.setIfInBounds_toArray, List.set_cons_zero, List.set_cons_succ])
      refine reg_on (i := 7) (d := 22) (v := ?rv8) rfl rfl (by kernel_rfl) (by kernel_rfl) (by kernel_rfl) (fun _ _ _ h => h) (by rfl) ?ry8 (by assumption) ?rr8
      case ry8 => (intro wz hSw; (try dsimp only at hSw); go_simp; try with_reducible rfl)
      (try simp only [Act.put, List.setIfInBounds_toArray, List.set_cons_zero, List.set_cons_succ])
      refine wpAnyH_done (by kernel_rfl) ?_ _
      have hO3 := own_later (own_later (HO.out.alloc (.cells #[.int .i64 a, .int .i64 b2] 26)).drew hb6 (Nat.le_refl _)) hb7 (Nat.le_refl _)
      have hB3 := Below.trans (Below.trans (HB.out.alloc (by omega) (.cells #[.int .i64 a, .int .i64 b2] 26)).drew (hb6.mono (by simp; omega))) (hb7.mono (by omega))
      clear X1 X2 d6_0 d6_1 d6_2 d6_3 d7_0 d7_1 k2 k3 k4 k5
      have z3 : wr.heap.size < w7.heap.size := by omega
      by_cases h0 : G ^^^ hpN a b2 = 0
      · have t0 : (((G ^^^ hpN a b2 : Nat) : Int) == 0) = true := by simp [h0]
        have HYY := HY.out (by simp [h0])
        have HYY := Lib.hid HYY
        have HO3 := Lib.hid hO3
        have HB3 := Lib.hid hB3
        have hcm : m + 1 ≤ maxLen := by simp only [maxLen]; omega
        clear h0 hO3 hB3 p0 p1 hb6 hb7
        go_wp2_with (at_builtin; refine wpList_append_own _ rfl (.tmp 23) (.tmp 25) 29 rfl w2.heap.size 26 i0 (bar2 0 0) 2 16 Try.underlying29 hi (by assumption) hz1 hz2 rfl (by decide) _ _ _ rfl (HO3.out.alloc _) ⟨w7.heap.size, 0, none⟩ 1 1 [.int .i64 a, .int .i64 b2] rfl rfl (new2 _ _ _ _) (two_oneCell _ _ _ _) hcm (by omega) (by simp; omega) ?_)
        intro v' w4 hown' hgrow _
        have hb4 := bgrow (HB3.out.alloc (by omega) (.cells #[.int .i64 a, .int .i64 b2] 26)) (HO3.out.alloc _) hgrow (by simp; omega)
        obtain ⟨A2, c2, rfl⟩ := own_slice hown'
        have HO4 := Lib.hid hown'
        have HB4 := Lib.hid hb4
        clear hown' hb4 hgrow d7_2 d7_3
        go_wp2
        go_roundw
        case rel => exact ⟨k + 1, m + 1, A2, c2, by omega, by go_num, rfl, by rw [HYY.out, pairCells_append]; exact HO4.out, HB4.out, by omega⟩
        case measure => simp [intOf]; omega
      · have t0 : (((G ^^^ hpN a b2 : Nat) : Int) == 0) = false := by simp; omega
        have HYY := HZ.out (by simp [h0])
        have HYY := Lib.hid HYY
        have HO3 := Lib.hid hO3
        have HB3 := Lib.hid hB3
        clear h0 hO3 hB3 p0 p1 hb6 hb7
        go_wp2
        go_roundw
        case rel => exact ⟨k + 1, m, A', c', by omega, by go_num, rfl, by rw [HYY.out]; exact HO3.out, HB3.out, by omega⟩
        case measure => simp [intOf]; omega
    · go_wp2
      go_ret
      have : k = n := by omega
      subst this
      have hM := HM.out
      rw [List.take_of_length_le (by rw [HN.out]; exact Nat.le_refl _), ← hM, ← HG.out] at hown
      exact ⟨A', m, c', rfl, own_base hown (by have := HB02.out.size; omega), HB02.out.trans (hB.mono (by have := HB02.out.size; omega)), by omega⟩

end Go.Proofs.Ythemmckchmpicaa
