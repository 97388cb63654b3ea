/-
  Contract: the bars that can be kept, of the model. Condition: a bar.
-/
import Derived.Test.YthemmckchmpicaaKept
namespace Go.Proofs.Ythemmckchmpicaa
open Go.RowKit
set_option linter.unusedVariables false

set_option maxRecDepth 100000 in
set_option maxHeartbeats 4000000 in
theorem laKept_any (x y : Int) (w : World) (hB : barB x y = true) :
    Calls Try.prog 42 #[bar2 x y] w fun e w' => ∃ A n c, e = .returned (.slice A n c) ∧ w'.ownsRow w.heap.size 26 2 (.slice A n c) n (pairCells (kmL x y)) ∧ Below w.heap.size w w' := by
  obtain ⟨i0, hi, hz0, hz1, hz2⟩ := info_parts bar_info
  obtain ⟨x1, x2, y1, y2⟩ := barB_true hB
  have N1 : (lnN true x y : Int) = x - 1 := by simp [lnN]; omega
  have N0 : (lnN false x y : Int) = y - 1 := by simp [lnN]; omega
  have N1 := Lib.hid N1
  have N0 := Lib.hid N0
  clear hB
  have bw0 : Below w.heap.size w (w.alloc (.cells #[.int .i64 x, .int .i64 y] 26)) := by (repeat (first | (with_reducible exact Below.refl _ _) | (with_reducible assumption) | (with_reducible refine Below.drew ?_) | ((with_reducible refine balloc ?_ _ ?_); · (first | (simp; done) | (simp; omega) | omega)) | ((with_reducible refine bset ?_ _ ?_); · (first | (simp; done) | (simp; omega) | omega)) | (with_reducible refine bdrewN _ ?_) | ((with_reducible refine bcall ?_ (by assumption) ?_); · (first | (simp; done) | (simp; omega) | omega))))
  have c0 : (w.alloc (.cells #[.int .i64 x, .int .i64 y] 26)).cell? ⟨w.heap.size, 0, none⟩ = some (.int .i64 x) := by simp [go_sem]
  have c1 : (w.alloc (.cells #[.int .i64 x, .int .i64 y] 26)).cell? ⟨w.heap.size, 1, none⟩ = some (.int .i64 y) := by simp [go_sem]
  have sz0 : (w.alloc (.cells #[.int .i64 x, .int .i64 y] 26)).heap.size = w.heap.size + 1 := by simp
  have C0 := Lib.hid c0
  have C1 := Lib.hid c1
  have SZ0 := Lib.hid sz0
  clear c0 c1 sz0
  go_enter Try.func42, Try.ntmps42
  go_wp2
  generalize w.alloc (.cells #[.int .i64 x, .int .i64 y] 26) = W1 at *
  have sz := SZ0.out
  go_loopw [3, 4] (fun v i wr => ∃ (k : Nat) (A : Option Addr) (c : Nat), k ≤ lnN true x y ∧ i = .int .i64 ((k : Int) + 1) ∧ v = .slice A k c ∧ wr.ownsRow (w.heap.size + 1) 26 2 (.slice A k c) k (pairCells (lnL true x y k)) ∧ Below (w.heap.size + 1) W1 wr) (fun _ i _ => lnN true x y + 1 - (intOf i).toNat)
  case atStart => exact ⟨0, none, 0, by omega, rfl, rfl, World.ownsRow_nil _ _ _ _, Below.refl _ _⟩
  case round =>
    obtain ⟨k, A1, c1, hk, rfl, rfl, hown, hB⟩ := hrel
    have e0 := (hB.cell (p := ⟨w.heap.size, 0, none⟩) (by simp)).trans C0.out
    have e1 := (hB.cell (p := ⟨w.heap.size, 1, none⟩) (by simp)).trans C1.out
    have hsz := hB.size
    have hz : w.heap.size < wr.heap.size := by omega
    have n1 := N1.out
    by_cases hlt : k < lnN true x y
    · have hle : (k : Int) + 1 < x := by omega
      have hc3 : k + 1 ≤ maxLen := by simp only [maxLen]; omega
      have hc4 : (k + 1) * 16 ≤ 140737488355328 := by omega
      have HY : Hid (lnL true x y (k + 1) = lnL true x y k ++ [((k : Int) + 1, y)]) := rfl
      clear n1
      go_wp2_with (at_builtin; refine wpList_append_own _ rfl (.tmp 12) (.tmp 17) 29 rfl (w.heap.size + 1) 26 i0 (bar2 0 0) 2 16 Try.underlying29 hi hz0 hz1 hz2 rfl (by decide) _ _ _ rfl (hown.alloc _) ⟨wr.heap.size, 0, none⟩ 1 1 [.int .i64 ((k : Int) + 1), .int .i64 y] rfl rfl (new2 _ _ _ _) (two_oneCell _ _ _ _) hc3 hc4 (by simp; omega) ?_)
      intro v' w4 hown' hgrow _
      have hb4 := bgrow (hB.alloc (by omega) (.cells #[.int .i64 ((k : Int) + 1), .int .i64 y] 26)) (hown.alloc _) hgrow (by simp; omega)
      obtain ⟨A', c', rfl⟩ := own_slice hown'
      have HO4 := Lib.hid hown'
      have HB4 := Lib.hid hb4
      clear hown' hb4 hgrow hown hB
      go_wp2
      go_roundw
      case rel => exact ⟨k + 1, A', c', by omega, by go_num, rfl, by rw [HY.out, pairCells_append]; exact HO4.out, HB4.out⟩
      case measure => simp [intOf]; omega
    · have hle : ¬ (k : Int) + 1 < x := by omega
      have hkk : k = lnN true x y := by omega
      have HK := Lib.hid hkk
      clear n1 hkk
      have HO := Lib.hid hown
      have HB := Lib.hid hB
      clear hown hB
      go_wp2
      obtain ⟨wo, rfl⟩ : ∃ wo, wo = wr := ⟨_, rfl⟩
      go_loopw [3, 5] (fun v i wr => ∃ (j : Nat) (A : Option Addr) (c : Nat), j ≤ lnN false x y ∧ i = .int .i64 ((j : Int) + 1) ∧ v = .slice A (k + j) c ∧ wr.ownsRow (w.heap.size + 1) 26 2 (.slice A (k + j) c) (k + j) (pairCells (lnL true x y k ++ lnL false x y j)) ∧ Below (w.heap.size + 1) W1 wr) (fun _ i _ => lnN false x y + 1 - (intOf i).toNat)
      case atStart => exact ⟨0, A1, c1, by omega, rfl, rfl, by simpa [lnL] using HO.out, HB.out⟩
      case round =>
        obtain ⟨j, A2, c2, hj, rfl, rfl, hown, hB⟩ := hrel
        have e0 := (hB.cell (p := ⟨w.heap.size, 0, none⟩) (by simp)).trans C0.out
        have e1 := (hB.cell (p := ⟨w.heap.size, 1, none⟩) (by simp)).trans C1.out
        have hsz := hB.size
        have hz : w.heap.size < wr.heap.size := by omega
        have n0 := N0.out
        have n1 := N1.out
        by_cases hlt2 : j < lnN false x y
        · have hle : (j : Int) + 1 < y := by omega
          have hc3 : k + j + 1 ≤ maxLen := by simp only [maxLen]; omega
          have hc4 : (k + j + 1) * 16 ≤ 140737488355328 := by omega
          have HY : Hid (lnL false x y (j + 1) = lnL false x y j ++ [(x, (j : Int) + 1)]) := rfl
          clear n1 n0
          go_wp2_with (at_builtin; refine wpList_append_own _ rfl (.tmp 25) (.tmp 30) 29 rfl (w.heap.size + 1) 26 i0 (bar2 0 0) 2 16 Try.underlying29 hi hz0 hz1 hz2 rfl (by decide) _ _ _ rfl (hown.alloc _) ⟨wr.heap.size, 0, none⟩ 1 1 [.int .i64 x, .int .i64 ((j : Int) + 1)] rfl rfl (new2 _ _ _ _) (two_oneCell _ _ _ _) hc3 hc4 (by simp; omega) ?_)
          intro v' w4 hown' hgrow _
          have hb4 := bgrow (hB.alloc (by omega) (.cells #[.int .i64 x, .int .i64 ((j : Int) + 1)] 26)) (hown.alloc _) hgrow (by simp; omega)
          obtain ⟨A', c', rfl⟩ := own_slice hown'
          have HO4 := Lib.hid hown'
          have HB4 := Lib.hid hb4
          clear hown' hb4 hgrow hown hB
          go_wp2
          go_roundw
          case rel => exact ⟨j + 1, A', c', by omega, by go_num, rfl, by rw [HY.out, ← List.append_assoc, pairCells_append]; exact HO4.out, HB4.out⟩
          case measure => simp [intOf]; omega
        · have hle : ¬ (j : Int) + 1 < y := by omega
          have hjj : j = lnN false x y := by omega
          have HJ := Lib.hid hjj
          clear n1 n0 hjj
          go_wp2
          go_ret
          have h1 := HK.out
          have h2 := HJ.out
          subst h1
          subst h2
          exact ⟨A2, _, c2, rfl, own_base hown (by omega), bw0.trans (hB.mono (by omega))⟩
end Go.Proofs.Ythemmckchmpicaa
