/-
  Contracts: LostKept of the program and of the model. Conditions: none.
-/
import Derived.Test.YthemmckchmpicaaWithin4
namespace Go.Proofs.Ythemmckchmpicaa
open Go.RowKit
set_option linter.unusedVariables false
set_option linter.unusedSimpArgs false

def ltL (X Y : Nat) : List (Int × Int) := (gridL Y X).filter (lkF 0)
def ltR (x y : Int) : List (Int × Int) := if barB x y then ltL x.toNat y.toNat else []
theorem ltR_no {x y : Int} (h : barB x y = false) : ltR x y = [] := by simp [ltR, h]
theorem ltR_yes {X Y : Nat} (h : barB X Y = true) : ltR X Y = ltL X Y := by simp [ltR, h]
theorem length_ltL {X Y : Nat} (h : barB X Y = true) : (ltL X Y).length ≤ 144 := by
  obtain ⟨h1, h2, h3, h4⟩ := barB_true h
  refine Nat.le_trans (List.length_filter_le _ _) ?_
  rw [length_gridL]
  exact grid_le (by omega) (by omega)
theorem length_ltR (x y : Int) : (ltR x y).length ≤ 144 := by
  unfold ltR
  split
  · rename_i h
    obtain ⟨h1, h2, h3, h4⟩ := barB_true h
    refine length_ltL ?_
    have a := Int.toNat_of_nonneg (show 0 ≤ x by omega)
    have b := Int.toNat_of_nonneg (show 0 ≤ y by omega)
    rw [a, b]; exact h
  · simp

set_option maxRecDepth 100000 in
set_option maxHeartbeats 4000000 in
theorem lostKept_yes (X Y : Nat) (w : World) (hB : barB X Y = true) :
    Calls Try.prog 36 #[.int .i64 X, .int .i64 Y] w fun e w' => ∃ A n c, e = .returned (.tuple #[.slice A n c, .bool true]) ∧ w'.ownsRow w.heap.size 26 2 (.slice A n c) n (pairCells (ltL X Y)) ∧ Below w.heap.size w w' := by
  obtain ⟨i0, hi, hz0, hz1, hz2⟩ := info_parts bar_info
  have HBB := Lib.hid hB
  have HLL : Hid ((gridL Y X).length ≤ 144) := by
    obtain ⟨h1, h2, h3, h4⟩ := barB_true hB
    rw [length_gridL]
    exact grid_le (by omega) (by omega)
  have hb0 : Below w.heap.size w (w.alloc (.cells #[.int .i64 X, .int .i64 Y] 26)) := by (repeat (first | (with_reducible exact Below.refl _ _) | (with_reducible assumption) | (with_reducible refine Below.drew ?_) | ((with_reducible refine balloc ?_ _ ?_); · (first | (simp; done) | (simp; omega) | omega)) | ((with_reducible refine bset ?_ _ ?_); · (first | (simp; done) | (simp; omega) | omega)) | (with_reducible refine bdrewN _ ?_) | ((with_reducible refine bcall ?_ (by assumption) ?_); · (first | (simp; done) | (simp; omega) | omega))))
  go_enter Try.func36, Try.ntmps36
  go_wp2_with fail
  refine (isBar_any _ _ _).mono ?_; rintro e w1 ⟨rfl, hb1⟩; have s1 := hb1.size; obtain ⟨hc1, hf1⟩ := bcell hb1; have z1_w0 : w.heap.size < w1.heap.size := (by have q := s1; first | omega | (simp at q; omega))
  have hb01 : Below w.heap.size w w1 := hb0.trans (hb1.mono (by simp))
  go_wp2_with fail
  clear hB
  refine (barsWithin_any _ _ _ HBB.out).mono ?_; rintro e w2 ⟨A, n, c, rfl, own2, hb2⟩
  have s2 := hb2.size
  have hb02 : Below w.heap.size w w2 := hb01.trans (hb2.mono (by omega))
  have hn : (gridL Y X).length = n := by have := own2.1; rw [length_pairCells] at this; omega
  have hn22 : n ≤ 144 := by have := HLL.out; omega
  have HBS := Lib.hid (gridL_bars HBB.out)
  generalize hM : gridL Y X = M at *
  have HM := Lib.hid hM
  have HN := Lib.hid hn
  have hr := Rd.of_own own2
  have HB02 := Lib.hid hb02
  clear hn hM own2 hc1 hf1 hb1 hb2 hb02 hb01 hb0
  go_wp2
  go_loopw [7, 19] (fun v i wr => ∃ (k m : Nat) (A' : Option Addr) (c' : Nat), k ≤ n ∧ i = .int .i64 k ∧ v = .slice A' m c' ∧ wr.ownsRow w2.heap.size 26 2 (.slice A' m c') m (pairCells ((M.take k).filter (lkF 0))) ∧ Below w2.heap.size w2 wr ∧ m ≤ k) (fun _ i _ => n - (intOf i).toNat)
  case atStart => exact ⟨0, 0, none, 0, by omega, rfl, rfl, World.ownsRow_nil _ _ _ _, Below.refl _ _, by omega⟩
  case round =>
    obtain ⟨k, m, A', c', hk, rfl, rfl, hown, hB, hmk⟩ := hrel
    have hsz := hB.size
    by_cases hlt : k < n
    · obtain ⟨b, o, rfl, hbl, hx, p0, p1⟩ := (hr.later hB (Nat.le_refl _)).pair hlt
      have hBp := HBS.out _ (List.getElem_mem hx)
      have HBp := Lib.hid hBp
      have HY : Hid (lkF 0 M[k] = true → (M.take (k + 1)).filter (lkF 0) = (M.take k).filter (lkF 0) ++ [((M[k]).1, (M[k]).2)]) := fun h => filter_take_yes hx h
      have HZ : Hid (lkF 0 M[k] = false → (M.take (k + 1)).filter (lkF 0) = (M.take k).filter (lkF 0)) := fun h => filter_take_no hx h
      have hf : lkF 0 M[k] = decide (hpN (M[k]).1 (M[k]).2 = 0) := by simp [lkF]
      rw [hf] at HY HZ
      clear hBp hf
      generalize (M[k]).1 = a at *
      generalize (M[k]).2 = b2 at *
      have HO := Lib.hid hown
      have HB := Lib.hid hB
      have hbl2 : b < wr.heap.size + 1 := by omega
      clear hown hB
      go_wp2_with fail
      refine (keptHeap_any _ _ _ HBp.out).mono ?_; rintro e w3 ⟨rfl, hb3⟩; have s3 := hb3.size; obtain ⟨hc3, hf3⟩ := bcell hb3
      have z3 : wr.heap.size < w3.heap.size := by simp at s3; omega
      have hO3 := own_later (HO.out.alloc (.cells #[.int .i64 a, .int .i64 b2] 26)) hb3 (Nat.le_refl _)
      have hB3 := (HB.out.alloc (by omega) (.cells #[.int .i64 a, .int .i64 b2] 26)).trans (hb3.mono (by simp; omega))
      have d0 : w3.cell? ⟨wr.heap.size, 0, none⟩ = some (.int .i64 a) := by rw [hc3 _ _ (by simp)]; simp [go_sem]
      have d1 : w3.cell? ⟨wr.heap.size, 1, none⟩ = some (.int .i64 b2) := by rw [hc3 _ _ (by simp)]; simp [go_sem]
      clear hc3 hf3 hb3 s3
      by_cases h0 : hpN a b2 = 0
      · have t0 : (((hpN a b2 : Nat) : Int) == 0) = true := by simp [h0]
        have HYY := HY.out (by simp [h0])
        have HYY := Lib.hid HYY
        have HO3 := Lib.hid hO3
        have HB3 := Lib.hid hB3
        have hcm : m + 1 ≤ maxLen := by simp only [maxLen]; omega
        clear h0 hO3 hB3 p0 p1
        go_wp2_with (at_builtin; refine wpList_append_own _ rfl (.tmp 26) (.tmp 28) 29 rfl w2.heap.size 26 i0 (bar2 0 0) 2 16 Try.underlying29 hi hz0 hz1 hz2 rfl (by decide) _ _ _ rfl (HO3.out.alloc _) ⟨w3.heap.size, 0, none⟩ 1 1 [.int .i64 a, .int .i64 b2] rfl rfl (new2 _ _ _ _) (two_oneCell _ _ _ _) hcm (by omega) (by simp; omega) ?_)
        intro v' w4 hown' hgrow _
        have hb4 := bgrow (HB3.out.alloc (by omega) (.cells #[.int .i64 a, .int .i64 b2] 26)) (HO3.out.alloc _) hgrow (by simp; omega)
        obtain ⟨A2, c2, rfl⟩ := own_slice hown'
        have HO4 := Lib.hid hown'
        have HB4 := Lib.hid hb4
        clear hown' hb4 hgrow d0 d1
        go_wp2
        go_roundw
        case rel => exact ⟨k + 1, m + 1, A2, c2, by omega, by go_num, rfl, by rw [HYY.out, pairCells_append]; exact HO4.out, HB4.out, by omega⟩
        case measure => simp [intOf]; omega
      · have t0 : (((hpN a b2 : Nat) : Int) == 0) = false := by simp; omega
        have HYY := HZ.out (by simp [h0])
        have HYY := Lib.hid HYY
        have HO3 := Lib.hid hO3
        have HB3 := Lib.hid hB3
        clear h0 hO3 hB3 p0 p1
        go_wp2
        go_roundw
        case rel => exact ⟨k + 1, m, A', c', by omega, by go_num, rfl, by rw [HYY.out]; exact HO3.out, HB3.out, by omega⟩
        case measure => simp [intOf]; omega
    · go_wp2
      go_ret2
      have : k = n := by omega
      subst this
      have hM := HM.out
      rw [List.take_of_length_le (by rw [HN.out]; exact Nat.le_refl _), ← hM] at hown
      exact ⟨A', m, c', rfl, own_base hown (by have := HB02.out.size; omega), HB02.out.trans (hB.mono (by have := HB02.out.size; omega))⟩


set_option maxRecDepth 100000 in
set_option maxHeartbeats 4000000 in
theorem sLostKept_yes (X Y : Nat) (w : World) (hB : barB X Y = true) :
    Calls Try.prog 35 #[.int .i64 X, .int .i64 Y] w fun e w' => ∃ A n c, e = .returned (.tuple #[.slice A n c, .bool true]) ∧ w'.ownsRow w.heap.size 26 2 (.slice A n c) n (pairCells (ltL X Y)) ∧ Below w.heap.size w w' := by
  obtain ⟨i0, hi, hz0, hz1, hz2⟩ := info_parts bar_info
  obtain ⟨x1, x2, y1, y2⟩ := barB_true hB
  have xx : X ≤ 12 := by omega
  have yy : Y ≤ 12 := by omega
  clear x1 x2 y1 y2
  go_enter Try.func35, Try.ntmps35
  go_wp2_with fail
  refine (brGood_any _ _ _).mono ?_; rintro e w1 ⟨rfl, hb1⟩; have s1 := hb1.size; obtain ⟨hc1, hf1⟩ := bcell hb1
  go_wp2_with fail
  have HBB := Lib.hid hB
  have bw1 : Below w.heap.size w w1 := by (repeat (first | (with_reducible exact Below.refl _ _) | (with_reducible assumption) | (with_reducible refine Below.drew ?_) | ((with_reducible refine balloc ?_ _ ?_); · (first | (simp; done) | (simp; omega) | omega)) | ((with_reducible refine bset ?_ _ ?_); · (first | (simp; done) | (simp; omega) | omega)) | (with_reducible refine bdrewN _ ?_) | ((with_reducible refine bcall ?_ (by assumption) ?_); · (first | (simp; done) | (simp; omega) | omega))))
  have q1 := bw1.size
  clear hB hc1 hf1 hb1 s1
  go_wp2
  go_loopw [6, 7] (fun v i wr => ∃ (t n : Nat) (A : Option Addr) (c : Nat), t ≤ X ∧ i = .int .i64 ((t : Int) + 1) ∧ v = .slice A n c ∧ wr.ownsRow w1.heap.size 26 2 (.slice A n c) n (pairCells ((gridL Y t).filter (lkF 0))) ∧ Below w1.heap.size w1 wr ∧ n ≤ 12 * t) (fun _ i _ => X + 1 - (intOf i).toNat)
  case atStart => exact ⟨0, 0, none, 0, by omega, rfl, rfl, World.ownsRow_nil _ _ _ _, Below.refl _ _, by omega⟩
  case round =>
    obtain ⟨t, n, A1, c1, hk, rfl, rfl, hown, hB, hn⟩ := hrel
    have hsz := hB.size
    by_cases hlt : t < X
    · have hle : (t : Int) + 1 ≤ X := by omega
      have HO := Lib.hid hown
      have HB := Lib.hid hB
      clear hown hB
      go_wp2
      obtain ⟨wo, rfl⟩ : ∃ wo, wo = wr := ⟨_, rfl⟩
      go_loopw [6, 8] (fun v i wr => ∃ (k m : Nat) (A : Option Addr) (c : Nat), k ≤ Y ∧ i = .int .i64 ((k : Int) + 1) ∧ v = .slice A m c ∧ wr.ownsRow w1.heap.size 26 2 (.slice A m c) m (pairCells ((gridL Y t ++ colL ((t : Int) + 1) k).filter (lkF 0))) ∧ Below w1.heap.size w1 wr ∧ m ≤ n + k) (fun _ i _ => Y + 1 - (intOf i).toNat)
      case atStart => exact ⟨0, n, A1, c1, by omega, rfl, rfl, by simpa [colL] using HO.out, HB.out, by omega⟩
      case round =>
        obtain ⟨k, m, A2, c2, hj, rfl, rfl, hown, hB, hm⟩ := hrel
        have hsz := hB.size
        by_cases hlt2 : k < Y
        · have hle2 : (k : Int) + 1 ≤ Y := by omega
          have HBp : Hid (barB ((t : Int) + 1) ((k : Int) + 1) = true) := by simp [Hid, barB]; omega
          have HY : Hid (hpN ((t : Int) + 1) ((k : Int) + 1) = 0 → (gridL Y t ++ colL ((t : Int) + 1) (k + 1)).filter (lkF 0) = (gridL Y t ++ colL ((t : Int) + 1) k).filter (lkF 0) ++ [((t : Int) + 1, (k : Int) + 1)]) := fun h => by
            simp only [colL, ← List.append_assoc]; rw [List.filter_append (l₂ := [_])]; simp [lkF, h]
          have HZ : Hid (¬ hpN ((t : Int) + 1) ((k : Int) + 1) = 0 → (gridL Y t ++ colL ((t : Int) + 1) (k + 1)).filter (lkF 0) = (gridL Y t ++ colL ((t : Int) + 1) k).filter (lkF 0)) := fun h => by
            simp only [colL, ← List.append_assoc]; rw [List.filter_append (l₂ := [_])]; simp [lkF, h]
          have HO := Lib.hid hown
          have HB := Lib.hid hB
          clear hown hB
          go_wp2_with fail
          refine (laHeap_any _ _ _ HBp.out).mono ?_; rintro e w3 ⟨rfl, hb3⟩; have s3 := hb3.size; obtain ⟨hc3, hf3⟩ := bcell hb3
          have z3 : wr.heap.size < w3.heap.size := by simp at s3; omega
          have hO3 := own_later (HO.out.alloc (.cells #[.int .i64 ((t : Int) + 1), .int .i64 ((k : Int) + 1)] 26)) hb3 (Nat.le_refl _)
          have hB3 := (HB.out.alloc (by omega) (.cells #[.int .i64 ((t : Int) + 1), .int .i64 ((k : Int) + 1)] 26)).trans (hb3.mono (by simp; omega))
          have d0 : w3.cell? ⟨wr.heap.size, 0, none⟩ = some (.int .i64 ((t : Int) + 1)) := by rw [hc3 _ _ (by simp)]; simp [go_sem]
          have d1 : w3.cell? ⟨wr.heap.size, 1, none⟩ = some (.int .i64 ((k : Int) + 1)) := by rw [hc3 _ _ (by simp)]; simp [go_sem]
          clear hc3 hf3 hb3 s3
          by_cases h0 : hpN ((t : Int) + 1) ((k : Int) + 1) = 0
          · have t0 : (((hpN ((t : Int) + 1) ((k : Int) + 1) : Nat) : Int) == 0) = true := by simp [h0]
            have HYY := HY.out h0
            have HYY := Lib.hid HYY
            have HO3 := Lib.hid hO3
            have HB3 := Lib.hid hB3
            have hcm : m + 1 ≤ maxLen := by simp only [maxLen]; omega
            clear h0 hO3 hB3
            go_wp2_with (at_builtin; refine wpList_append_own _ rfl (.tmp 31) (.tmp 33) 29 rfl w1.heap.size 26 i0 (bar2 0 0) 2 16 Try.underlying29 hi hz0 hz1 hz2 rfl (by decide) _ _ _ rfl (HO3.out.alloc _) ⟨w3.heap.size, 0, none⟩ 1 1 [.int .i64 ((t : Int) + 1), .int .i64 ((k : Int) + 1)] rfl rfl (new2 _ _ _ _) (two_oneCell _ _ _ _) hcm (by omega) (by simp; omega) ?_)
            intro v' w4 hown' hgrow _
            have hb4 := bgrow (HB3.out.alloc (by omega) (.cells #[.int .i64 ((t : Int) + 1), .int .i64 ((k : Int) + 1)] 26)) (HO3.out.alloc _) hgrow (by simp; omega)
            obtain ⟨A2, c2, rfl⟩ := own_slice hown'
            have HO4 := Lib.hid hown'
            have HB4 := Lib.hid hb4
            clear hown' hb4 hgrow d0 d1
            go_wp2
            go_roundw
            case rel => exact ⟨k + 1, m + 1, A2, c2, by omega, by go_num, rfl, by rw [HYY.out, pairCells_append, List.filter_append]; exact HO4.out, HB4.out, by omega⟩
            case measure => simp [intOf]; omega
          · have t0 : (((hpN ((t : Int) + 1) ((k : Int) + 1) : Nat) : Int) == 0) = false := by simp; omega
            have HYY := HZ.out h0
            have HYY := Lib.hid HYY
            have HO3 := Lib.hid hO3
            have HB3 := Lib.hid hB3
            clear h0 hO3 hB3
            go_wp2
            go_roundw
            case rel => exact ⟨k + 1, m, A2, c2, by omega, by go_num, rfl, by rw [HYY.out]; exact HO3.out, HB3.out, by omega⟩
            case measure => simp [intOf]; omega
        · have hle2 : ¬ (k : Int) + 1 ≤ Y := by omega
          obtain rfl : k = Y := by omega
          have HO := Lib.hid hown
          have HB := Lib.hid hB
          clear hown hB
          go_wp2
          go_roundw
          case rel => exact ⟨t + 1, m, A2, c2, by omega, by go_num, rfl, HO.out, HB.out, by omega⟩
          case measure => simp [intOf]; omega
    · have hle : ¬ (t : Int) + 1 ≤ X := by omega
      obtain rfl : t = X := by omega
      go_wp2
      go_ret2
      exact ⟨A1, n, c1, rfl, own_base hown (by omega), bw1.trans (hB.mono (by omega))⟩

set_option maxHeartbeats 1000000 in
theorem lostKeptF_any (x y : Int) (w : World) :
    Calls Try.prog 36 #[.int .i64 x, .int .i64 y] w fun e w' => ∃ A n c, e = .returned (.tuple #[.slice A n c, .bool (barB x y)]) ∧ w'.ownsRow w.heap.size 26 2 (.slice A n c) n (pairCells (ltR x y)) ∧ Below w.heap.size w w' := by
  cases hB : barB x y
  · rw [ltR_no hB]
    go_enter Try.func36, Try.ntmps36
    go_wp2_with fail
    refine (isBar_any _ _ _).mono ?_; rintro e w1 ⟨rfl, hb1⟩; have s1 := hb1.size; obtain ⟨hc1, hf1⟩ := bcell hb1; have z1_w0 : w.heap.size < w1.heap.size := (by have q := s1; first | omega | (simp at q; omega))
    go_wp2
    go_ret2
    exact ⟨none, 0, 0, rfl, World.ownsRow_nil _ _ _ _, by (repeat (first | (with_reducible exact Below.refl _ _) | (with_reducible assumption) | (with_reducible refine Below.drew ?_) | ((with_reducible refine balloc ?_ _ ?_); · (first | (simp; done) | (simp; omega) | omega)) | ((with_reducible refine bset ?_ _ ?_); · (first | (simp; done) | (simp; omega) | omega)) | (with_reducible refine bdrewN _ ?_) | ((with_reducible refine bcall ?_ (by assumption) ?_); · (first | (simp; done) | (simp; omega) | omega))))⟩
  · obtain ⟨h1, h2, h3, h4⟩ := barB_true hB
    obtain ⟨X, rfl⟩ : ∃ X : Nat, x = X := ⟨x.toNat, by omega⟩
    obtain ⟨Y, rfl⟩ : ∃ Y : Nat, y = Y := ⟨y.toNat, by omega⟩
    rw [ltR_yes hB]
    exact lostKept_yes X Y w hB

set_option maxHeartbeats 1000000 in
theorem sLostKept_any (x y : Int) (w : World) :
    Calls Try.prog 35 #[.int .i64 x, .int .i64 y] w fun e w' => ∃ A n c, e = .returned (.tuple #[.slice A n c, .bool (barB x y)]) ∧ w'.ownsRow w.heap.size 26 2 (.slice A n c) n (pairCells (ltR x y)) ∧ Below w.heap.size w w' := by
  cases hB : barB x y
  · rw [ltR_no hB]
    go_enter Try.func35, Try.ntmps35
    go_wp2_with fail
    refine (brGood_any _ _ _).mono ?_; rintro e w1 ⟨rfl, hb1⟩; have s1 := hb1.size
    go_wp2
    go_ret2
    exact ⟨none, 0, 0, rfl, World.ownsRow_nil _ _ _ _, by (repeat (first | (with_reducible exact Below.refl _ _) | (with_reducible assumption) | (with_reducible refine Below.drew ?_) | ((with_reducible refine balloc ?_ _ ?_); · (first | (simp; done) | (simp; omega) | omega)) | ((with_reducible refine bset ?_ _ ?_); · (first | (simp; done) | (simp; omega) | omega)) | (with_reducible refine bdrewN _ ?_) | ((with_reducible refine bcall ?_ (by assumption) ?_); · (first | (simp; done) | (simp; omega) | omega))))⟩
  · obtain ⟨h1, h2, h3, h4⟩ := barB_true hB
    obtain ⟨X, rfl⟩ : ∃ X : Nat, x = X := ⟨x.toNat, by omega⟩
    obtain ⟨Y, rfl⟩ : ∃ Y : Nat, y = Y := ⟨y.toNat, by omega⟩
    rw [ltR_yes hB]
    exact sLostKept_yes X Y w hB

end Go.Proofs.Ythemmckchmpicaa
