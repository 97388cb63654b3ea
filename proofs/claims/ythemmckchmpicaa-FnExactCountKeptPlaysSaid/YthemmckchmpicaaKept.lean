/-
  Contracts: the bars that can be kept, of the model and of the program. Condition: a bar.
-/
import Derived.Test.YthemmckchmpicaaHp
import Derived.LoopTactic
namespace Go.Proofs.Ythemmckchmpicaa
open Go.RowKit
set_option linter.unusedVariables false

/-- what is kept at the places up to k of one way -/
def lnL (d : Bool) (x y : Int) : Nat → List (Int × Int)
  | 0 => []
  | k + 1 => lnL d x y k ++ [part1 x y d ((k : Int) + 1)]
def lnN (d : Bool) (x y : Int) : Nat := if d then (x - 1).toNat else (y - 1).toNat
def kmL (x y : Int) : List (Int × Int) := lnL true x y (lnN true x y) ++ lnL false x y (lnN false x y)
theorem length_lnL (d : Bool) (x y : Int) (k : Nat) : (lnL d x y k).length = k := by
  induction k with
  | zero => rfl
  | succ k ih => simp [lnL, ih]
theorem lnN_le {d : Bool} {x y : Int} (h : barB x y = true) : lnN d x y ≤ 11 := by
  obtain ⟨h1, h2, h3, h4⟩ := barB_true h
  unfold lnN; split <;> omega
theorem length_kmL {x y : Int} (h : barB x y = true) : (kmL x y).length ≤ 22 := by
  have a := lnN_le (d := true) h
  have b := lnN_le (d := false) h
  simp [kmL, length_lnL]; omega
theorem can_lnN {d : Bool} {x y : Int} {k : Nat} (h : barB x y = true) (hk : k < lnN d x y) : canB x y d ((k : Int) + 1) = true := by
  obtain ⟨h1, h2, h3, h4⟩ := barB_true h
  unfold lnN at hk
  cases d <;> simp [canB, inB] at hk ⊢ <;> omega
theorem part1_bar {d : Bool} {x y : Int} {k : Nat} (h : barB x y = true) (hk : k < lnN d x y) : barB (part1 x y d ((k : Int) + 1)).1 (part1 x y d ((k : Int) + 1)).2 = true := by
  obtain ⟨h1, h2, h3, h4⟩ := barB_true h
  unfold lnN at hk
  cases d <;> simp [part1, barB] at hk ⊢ <;> omega
theorem lnL_bars {d : Bool} {x y : Int} (h : barB x y = true) : ∀ k, k ≤ lnN d x y → ∀ p ∈ lnL d x y k, barB p.1 p.2 = true
  | 0, _, p, hp => by simp [lnL] at hp
  | k + 1, hk, p, hp => by
    simp only [lnL, List.mem_append, List.mem_singleton] at hp
    rcases hp with hp | rfl
    · exact lnL_bars h k (by omega) p hp
    · exact part1_bar h (by omega)
theorem kmL_bars {x y : Int} (h : barB x y = true) : ∀ p ∈ kmL x y, barB p.1 p.2 = true := by
  intro p hp
  simp only [kmL, List.mem_append] at hp
  rcases hp with hp | hp
  · exact lnL_bars h _ (Nat.le_refl _) p hp
  · exact lnL_bars h _ (Nat.le_refl _) p hp

theorem linesOf_n (x y : Int) (d : Bool) (w : World) (hB : barB x y = true) :
    Calls Try.prog 53 #[bar2 x y, .bool d] w fun e w' => e = .returned (.int .i64 (lnN d x y : Nat)) ∧ Below w.heap.size w w' :=
  (linesOf_any x y d w hB).mono fun e w' ⟨he, hb⟩ => ⟨by
    obtain ⟨h1, h2, h3, h4⟩ := barB_true hB
    rw [he]; exact ret_int (by unfold lnN; cases d <;> simp <;> omega), hb⟩

/-- the list behind t ways -/
def ttL (x y : Int) : Nat → List (Int × Int)
  | 0 => []
  | t + 1 => ttL x y t ++ lnL (decide (t = 0)) x y (lnN (decide (t = 0)) x y)
theorem ttL_2 (x y : Int) : ttL x y 2 = kmL x y := by simp [ttL, kmL]

set_option maxRecDepth 100000 in
set_option maxHeartbeats 4000000 in
theorem keptMoves_any (x y : Int) (w : World) (hB : barB x y = true) :
    Calls Try.prog 43 #[bar2 x y] w fun e w' => ∃ A n c, e = .returned (.slice A n c) ∧ w'.ownsRow w.heap.size 26 2 (.slice A n c) n (pairCells (kmL x y)) ∧ Below w.heap.size w w' := by
  obtain ⟨i0, hi, hz0, hz1, hz2⟩ := info_parts bar_info
  have HBB := Lib.hid hB
  have N1 := lnN_le (d := true) hB
  have N0 := lnN_le (d := false) hB
  clear hB
  have bw0 : Below w.heap.size w (w.alloc (.cells #[.int .i64 x, .int .i64 y] 26)) := by (repeat (first | (with_reducible exact Below.refl _ _) | (with_reducible assumption) | (with_reducible refine Below.drew ?_) | ((with_reducible refine balloc ?_ _ ?_); · (first | (simp; done) | (simp; omega) | omega)) | ((with_reducible refine bset ?_ _ ?_); · (first | (simp; done) | (simp; omega) | omega)) | (with_reducible refine bdrewN _ ?_) | ((with_reducible refine bcall ?_ (by assumption) ?_); · (first | (simp; done) | (simp; omega) | omega))))
  have c0 : (w.alloc (.cells #[.int .i64 x, .int .i64 y] 26)).cell? ⟨w.heap.size, 0, none⟩ = some (.int .i64 x) := by simp [go_sem]
  have c1 : (w.alloc (.cells #[.int .i64 x, .int .i64 y] 26)).cell? ⟨w.heap.size, 1, none⟩ = some (.int .i64 y) := by simp [go_sem]
  have sz0 : (w.alloc (.cells #[.int .i64 x, .int .i64 y] 26)).heap.size = w.heap.size + 1 := by simp
  have C0 := Lib.hid c0
  have C1 := Lib.hid c1
  have SZ0 := Lib.hid sz0
  clear c0 c1 sz0
  go_enter Try.func43, Try.ntmps43
  go_wp2
  generalize w.alloc (.cells #[.int .i64 x, .int .i64 y] 26) = W1 at *
  have sz := SZ0.out
  have hBW : Below w.heap.size W1 W1 := Below.refl _ _
  go_loopw [3, 10] (fun v i wr => ∃ (t : Nat) (A : Option Addr) (n c : Nat), t ≤ 2 ∧ i = .int .i64 t ∧ v = .slice A n c ∧ wr.ownsRow (w.heap.size + 1) 26 2 (.slice A n c) n (pairCells (ttL x y t)) ∧ Below (w.heap.size + 1) W1 wr ∧ n ≤ 11 * t) (fun _ i _ => 2 - (intOf i).toNat)
  case atStart => exact ⟨0, none, 0, 0, by omega, rfl, rfl, World.ownsRow_nil _ _ _ _, Below.refl _ _, by omega⟩
  case round =>
    obtain ⟨t, A0, n0, c0, ht, rfl, rfl, hown, hB, hn0⟩ := hrel
    by_cases hlt : t < 2
    · have hti : (t : Int) < 2 := by omega
      have hidx : ∀ wx, (Instr.index 58 (.agg #[.bool true, .bool false]) (.int .i64 t)).run Try.prog wx = .ok (.bool (decide (t = 0))) wx := by
        intro wx
        rcases (show t = 0 ∨ t = 1 by omega) with rfl | rfl
        · kernel_rfl
        · kernel_rfl
      have HTT : Hid (ttL x y (t + 1) = ttL x y t ++ lnL (decide (t = 0)) x y (lnN (decide (t = 0)) x y)) := rfl
      have hnd : lnN (decide (t = 0)) x y ≤ 11 := by cases h : decide (t = 0) <;> assumption
      generalize decide (t = 0) = d at *
      generalize hL0 : ttL x y t = L0 at *
      have HO := Lib.hid hown
      have HB := Lib.hid hB
      have szr := hB.size
      clear hown hB hL0
      go_wp2
      obtain ⟨wo, rfl⟩ : ∃ wo, wo = wr := ⟨_, rfl⟩
      have HN0 := Lib.hid (show n0 ≤ 11 * t from hn0)
      clear hn0
      go_loopw [3, 6] (fun v i wq => ∃ (k : Nat) (A : Option Addr) (n c : Nat), k ≤ lnN d x y ∧ i = .int .i64 ((k : Int) + 1) ∧ v = .slice A n c ∧ wq.ownsRow (w.heap.size + 1) 26 2 (.slice A n c) n (pairCells (L0 ++ lnL d x y k)) ∧ Below (w.heap.size + 1) W1 wq ∧ n = n0 + k) (fun _ i _ => lnN d x y + 1 - (intOf i).toNat)
      case atStart => exact ⟨0, A0, n0, c0, by omega, rfl, rfl, by simpa [lnL] using HO.out, HB.out, rfl⟩
      case round =>
        obtain ⟨k, A1, n1, c1, hk, rfl, rfl, hown, hB, rfl⟩ := hrel
        have e0 := (hB.cell (p := ⟨w.heap.size, 0, none⟩) (by simp)).trans C0.out
        have e1 := (hB.cell (p := ⟨w.heap.size, 1, none⟩) (by simp)).trans C1.out
        have hsz := hB.size
        have HO1 := Lib.hid hown
        have HB1 := Lib.hid hB
        clear hown hB
        have hz : w.heap.size < wr.heap.size := by omega
        by_cases hlt2 : k < lnN d x y
        · have hle : (k : Int) + 1 ≤ (lnN d x y : Nat) := by omega
          go_wp2_with fail
          refine (linesOf_n _ _ _ _ HBB.out).mono ?_; rintro e w2 ⟨rfl, hb2⟩; have s2 := hb2.size; obtain ⟨hc2, hf2⟩ := bcell hb2
          have h2 : w.heap.size < w2.heap.size := by omega
          go_wp2_with fail
          refine (partsOf_any _ _ _ _ _ HBB.out (can_lnN HBB.out hlt2)).mono ?_; rintro e w3 ⟨rfl, hb3⟩; have s3 := hb3.size; obtain ⟨hc3, hf3⟩ := bcell hb3
          have h3 : w.heap.size < w3.heap.size := by omega
          have HY : Hid (lnL d x y (k + 1) = lnL d x y k ++ [((part1 x y d ((k : Int) + 1)).1, (part1 x y d ((k : Int) + 1)).2)]) := rfl
          generalize (part1 x y d ((k : Int) + 1)).1 = p1 at *
          generalize (part1 x y d ((k : Int) + 1)).2 = p2 at *
          generalize (part2 x y d ((k : Int) + 1)).1 = q1 at *
          generalize (part2 x y d ((k : Int) + 1)).2 = q2 at *
          have b3 : Below wr.heap.size wr w3 := bcall s2 hb3 hb2
          have HO3 := Lib.hid (((own_later HO1.out b3 (Nat.le_refl _)).alloc (.cells #[.int .i64 p1, .int .i64 p2] 26)).alloc (.cells #[.int .i64 q1, .int .i64 q2] 26))
          have HB3 := Lib.hid (((HB1.out.trans (b3.mono (by omega))).alloc (by omega) (.cells #[.int .i64 p1, .int .i64 p2] 26)).alloc (by simp; omega) (.cells #[.int .i64 q1, .int .i64 q2] 26))
          have hc3 : n0 + k + 1 ≤ maxLen := by have := HN0.out; simp only [maxLen]; omega
          have hc4 : (n0 + k + 1) * 16 ≤ 140737488355328 := by have := HN0.out; omega
          have hc5 : w.heap.size + 1 ≤ w3.heap.size := by omega
          have hnw := new2 ((w3.alloc (.cells #[.int .i64 p1, .int .i64 p2] 26)).alloc (.cells #[.int .i64 q1, .int .i64 q2] 26)) 26 (.int .i64 p1) (.int .i64 p2)
          rw [show ((w3.alloc (.cells #[.int .i64 p1, .int .i64 p2] 26)).alloc (.cells #[.int .i64 q1, .int .i64 q2] 26)).heap.size = w3.heap.size + 1 + 1 by simp] at hnw
          go_wp2_with (at_builtin; refine wpList_append_own _ rfl (.tmp 27) (.tmp 29) 29 rfl (w.heap.size + 1) 26 i0 (bar2 0 0) 2 16 Try.underlying29 hi hz0 hz1 hz2 rfl (by decide) _ _ _ rfl (HO3.out.alloc _) ⟨w3.heap.size + 1 + 1, 0, none⟩ 1 1 [.int .i64 p1, .int .i64 p2] rfl rfl hnw (two_oneCell _ _ _ _) hc3 hc4 (by simp; omega) ?_)
          intro v' w4 hown' hgrow _
          have hb4 := bgrow (HB3.out.alloc (by simp; omega) (.cells #[.int .i64 p1, .int .i64 p2] 26)) (HO3.out.alloc _) hgrow (by simp; omega)
          obtain ⟨A', c', rfl⟩ := own_slice hown'
          have HO4 := Lib.hid hown'
          have HB4 := Lib.hid hb4
          clear hown' hb4 hgrow hnw
          go_wp2
          go_roundw
          case rel => exact ⟨k + 1, A', n0 + k + 1, c', by omega, by go_num, rfl, by rw [HY.out, ← List.append_assoc, pairCells_append]; exact HO4.out, HB4.out, by omega⟩
          case measure => simp [intOf]; omega
        · go_wp2_with fail
          refine (linesOf_n _ _ _ _ HBB.out).mono ?_; rintro e w2 ⟨rfl, hb2⟩; have s2 := hb2.size
          have hkn : ¬ ((k : Int) + 1 ≤ (lnN d x y : Nat)) := by omega
          go_wp2
          go_roundw
          case rel => 
            have hkk : k = lnN d x y := by omega
            subst hkk
            exact ⟨t + 1, A1, n0 + _, c1, by omega, by go_num, rfl, by rw [HTT.out]; exact own_later HO1.out hb2 (Nat.le_refl _), HB1.out.trans (hb2.mono (by omega)), by have := HN0.out; omega⟩
          case measure => simp [intOf]; omega
    · go_wp2
      go_ret
      have : t = 2 := by omega
      subst this
      rw [ttL_2] at hown
      exact ⟨A0, n0, c0, rfl, own_base hown (by omega), bw0.trans (hB.mono (by omega))⟩
end Go.Proofs.Ythemmckchmpicaa
