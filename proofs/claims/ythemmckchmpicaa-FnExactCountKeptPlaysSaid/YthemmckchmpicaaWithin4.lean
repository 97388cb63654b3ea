/-
  Contract: all bars within one, of the program. Condition: a bar.
-/
import Derived.Test.YthemmckchmpicaaGood4
namespace Go.Proofs.Ythemmckchmpicaa
open Go.RowKit
set_option linter.unusedVariables false
set_option linter.unusedSimpArgs false

def colL (x : Int) : Nat → List (Int × Int)
  | 0 => []
  | k + 1 => colL x k ++ [(x, (k : Int) + 1)]
def gridL (Y : Nat) : Nat → List (Int × Int)
  | 0 => []
  | t + 1 => gridL Y t ++ colL ((t : Int) + 1) Y
theorem length_colL (x : Int) (k : Nat) : (colL x k).length = k := by
  induction k with
  | zero => rfl
  | succ k ih => simp [colL, ih]
theorem length_gridL (Y t : Nat) : (gridL Y t).length = t * Y := by
  induction t with
  | zero => simp [gridL]
  | succ t ih => simp [gridL, ih, length_colL, Nat.succ_mul]
theorem mem_colL {x : Int} {p : Int × Int} : ∀ {k : Nat}, p ∈ colL x k → p.1 = x ∧ 1 ≤ p.2 ∧ p.2 ≤ k
  | 0, h => by simp [colL] at h
  | k + 1, h => by
    simp only [colL, List.mem_append, List.mem_singleton] at h
    rcases h with h | rfl
    · obtain ⟨a, b, c⟩ := mem_colL h
      exact ⟨a, b, by omega⟩
    · exact ⟨rfl, by simp; omega, by simp⟩
theorem mem_gridL {Y : Nat} {p : Int × Int} : ∀ {t : Nat}, p ∈ gridL Y t → 1 ≤ p.1 ∧ p.1 ≤ t ∧ 1 ≤ p.2 ∧ p.2 ≤ Y
  | 0, h => by simp [gridL] at h
  | t + 1, h => by
    simp only [gridL, List.mem_append] at h
    rcases h with h | h
    · obtain ⟨a, b, c, d⟩ := mem_gridL h
      exact ⟨a, by omega, c, d⟩
    · obtain ⟨a, c, d⟩ := mem_colL h
      exact ⟨by omega, by omega, c, d⟩
theorem gridL_bars {X Y : Nat} (h : barB X Y = true) : ∀ p ∈ gridL Y X, barB p.1 p.2 = true := by
  intro p hp
  obtain ⟨a, b, c, d⟩ := mem_gridL hp
  obtain ⟨h1, h2, h3, h4⟩ := barB_true h
  simp [barB]; omega
theorem grid_le {t Y : Nat} (h1 : t ≤ 12) (h2 : Y ≤ 12) : t * Y ≤ 144 := Nat.mul_le_mul h1 h2

set_option maxRecDepth 100000 in
set_option maxHeartbeats 4000000 in
theorem barsWithin_any (X Y : Nat) (w : World) (hB : barB X Y = true) :
    Calls Try.prog 50 #[bar2 X Y] w fun e w' => ∃ A n c, e = .returned (.slice A n c) ∧ w'.ownsRow w.heap.size 26 2 (.slice A n c) n (pairCells (gridL Y X)) ∧ Below w.heap.size w w' := by
  obtain ⟨i0, hi, hz0, hz1, hz2⟩ := info_parts bar_info
  obtain ⟨x1, x2, y1, y2⟩ := barB_true hB
  have xx : X ≤ 12 := by omega
  have yy : Y ≤ 12 := by omega
  clear hB x1 x2 y1 y2
  have bw0 : Below w.heap.size w (w.alloc (.cells #[.int .i64 X, .int .i64 Y] 26)) := by (repeat (first | (with_reducible exact Below.refl _ _) | (with_reducible assumption) | (with_reducible refine Below.drew ?_) | ((with_reducible refine balloc ?_ _ ?_); · (first | (simp; done) | (simp; omega) | omega)) | ((with_reducible refine bset ?_ _ ?_); · (first | (simp; done) | (simp; omega) | omega)) | (with_reducible refine bdrewN _ ?_) | ((with_reducible refine bcall ?_ (by assumption) ?_); · (first | (simp; done) | (simp; omega) | omega))))
  have c0 : (w.alloc (.cells #[.int .i64 X, .int .i64 Y] 26)).cell? ⟨w.heap.size, 0, none⟩ = some (.int .i64 X) := by simp [go_sem]
  have c1 : (w.alloc (.cells #[.int .i64 X, .int .i64 Y] 26)).cell? ⟨w.heap.size, 1, none⟩ = some (.int .i64 Y) := by simp [go_sem]
  have sz0 : (w.alloc (.cells #[.int .i64 X, .int .i64 Y] 26)).heap.size = w.heap.size + 1 := by simp
  have C0 := Lib.hid c0
  have C1 := Lib.hid c1
  have SZ0 := Lib.hid sz0
  clear c0 c1 sz0
  go_enter Try.func50, Try.ntmps50
  go_wp2
  generalize w.alloc (.cells #[.int .i64 X, .int .i64 Y] 26) = W1 at *
  have sz := SZ0.out
  go_loopw [3, 4] (fun v i wr => ∃ (t n : Nat) (A : Option Addr) (c : Nat), t ≤ X ∧ i = .int .i64 ((t : Int) + 1) ∧ v = .slice A n c ∧ wr.ownsRow (w.heap.size + 1) 26 2 (.slice A n c) n (pairCells (gridL Y t)) ∧ Below (w.heap.size + 1) W1 wr ∧ n ≤ 12 * t) (fun _ i _ => X + 1 - (intOf i).toNat)
  case atStart => exact ⟨0, 0, none, 0, by omega, rfl, rfl, World.ownsRow_nil _ _ _ _, Below.refl _ _, by omega⟩
  case round =>
    obtain ⟨t, n, A1, c1, hk, rfl, rfl, hown, hB, hn⟩ := hrel
    have e0 := (hB.cell (p := ⟨w.heap.size, 0, none⟩) (by simp)).trans C0.out
    have e1 := (hB.cell (p := ⟨w.heap.size, 1, none⟩) (by simp)).trans C1.out
    have hsz := hB.size
    by_cases hlt : t < X
    · have hle : (t : Int) + 1 ≤ X := by omega
      have HO := Lib.hid hown
      have HB := Lib.hid hB
      clear hown hB
      go_wp2
      obtain ⟨wo, rfl⟩ : ∃ wo, wo = wr := ⟨_, rfl⟩
      go_loopw [3, 5] (fun v i wr => ∃ (k : Nat) (A : Option Addr) (c : Nat), k ≤ Y ∧ i = .int .i64 ((k : Int) + 1) ∧ v = .slice A (n + k) c ∧ wr.ownsRow (w.heap.size + 1) 26 2 (.slice A (n + k) c) (n + k) (pairCells (gridL Y t ++ colL ((t : Int) + 1) k)) ∧ Below (w.heap.size + 1) W1 wr) (fun _ i _ => Y + 1 - (intOf i).toNat)
      case atStart => exact ⟨0, A1, c1, by omega, rfl, rfl, by simpa [colL] using HO.out, HB.out⟩
      case round =>
        obtain ⟨k, A2, c2, hj, rfl, rfl, hown, hB⟩ := hrel
        have e0 := (hB.cell (p := ⟨w.heap.size, 0, none⟩) (by simp)).trans C0.out
        have e1 := (hB.cell (p := ⟨w.heap.size, 1, none⟩) (by simp)).trans C1.out
        have hsz := hB.size
        have hz : w.heap.size < wr.heap.size := by omega
        by_cases hlt2 : k < Y
        · have hle2 : (k : Int) + 1 ≤ Y := by omega
          have hc3 : n + k + 1 ≤ maxLen := by simp only [maxLen]; omega
          have hc4 : (n + k + 1) * 16 ≤ 140737488355328 := by omega
          have HY : Hid (colL ((t : Int) + 1) (k + 1) = colL ((t : Int) + 1) k ++ [((t : Int) + 1, (k : Int) + 1)]) := rfl
          go_wp2_with (at_builtin; refine wpList_append_own _ rfl (.tmp 18) (.tmp 22) 29 rfl (w.heap.size + 1) 26 i0 (bar2 0 0) 2 16 Try.underlying29 hi hz0 hz1 hz2 rfl (by decide) _ _ _ rfl (hown.alloc _) ⟨wr.heap.size, 0, none⟩ 1 1 [.int .i64 ((t : Int) + 1), .int .i64 ((k : Int) + 1)] rfl rfl (new2 _ _ _ _) (two_oneCell _ _ _ _) hc3 hc4 (by simp; omega) ?_)
          intro v' w4 hown' hgrow _
          have hb4 := bgrow (hB.alloc (by omega) (.cells #[.int .i64 ((t : Int) + 1), .int .i64 ((k : Int) + 1)] 26)) (hown.alloc _) hgrow (by simp; omega)
          obtain ⟨A', c', rfl⟩ := own_slice hown'
          have HO4 := Lib.hid hown'
          have HB4 := Lib.hid hb4
          clear hown' hb4 hgrow hown hB
          go_wp2
          go_roundw
          case rel => exact ⟨k + 1, A', c', by omega, by go_num, rfl, by rw [HY.out, ← List.append_assoc, pairCells_append]; exact HO4.out, HB4.out⟩
          case measure => simp [intOf]; omega
        · have hle2 : ¬ (k : Int) + 1 ≤ Y := by omega
          obtain rfl : k = Y := by omega
          have HO := Lib.hid hown
          have HB := Lib.hid hB
          clear hown hB
          go_wp2
          go_roundw
          case rel => exact ⟨t + 1, n + k, A2, c2, by omega, by go_num, rfl, HO.out, HB.out, by omega⟩
          case measure => simp [intOf]; omega
    · have hle : ¬ (t : Int) + 1 ≤ X := by omega
      obtain rfl : t = X := by omega
      go_wp2
      go_ret
      exact ⟨A1, n, c1, rfl, own_base hown (by omega), bw0.trans (hB.mono (by omega))⟩

end Go.Proofs.Ythemmckchmpicaa
