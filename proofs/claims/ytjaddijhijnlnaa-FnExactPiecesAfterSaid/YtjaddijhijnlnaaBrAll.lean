/-
  Contract: the model's brAll: the pieces behind a list of breaks, and how long these are together.
-/
import Derived.Test.YtjaddijhijnlnaaMakeAll
import Derived.Deep.DeepCutAuto
import Derived.Deep.QuietTactic
import Derived.BigQuiet
namespace Go.Proofs.Ytjaddijhijnlnaa
open Go.RowKit

set_option maxHeartbeats 400000 in
theorem brLong_any (x y : Int) (d : Bool) (w : World) :
    Calls Try.prog 102 #[bar2 x y, .bool d] w fun e w' => e = .returned (.int .i64 (lenB (x, y) d)) ∧ Below w.heap.size w w' := by
  cases d
  all_goals
    go_enter Try.func102, Try.ntmps102
    go_wp2
    go_ret
    exact ⟨rfl, by (repeat (first | (with_reducible exact Below.refl _ _) | (with_reducible assumption) | (with_reducible refine Below.drew ?_) | ((with_reducible refine balloc ?_ _ ?_); · (first | (simp; done) | (simp; omega) | omega)) | ((with_reducible refine bset ?_ _ ?_); · (first | (simp; done) | (simp; omega) | omega)) | (with_reducible refine bdrewN _ ?_) | ((with_reducible refine bcall ?_ (by assumption) ?_); · (first | (simp; done) | (simp; omega) | omega))))⟩

theorem cell_same {w : World} {a : Addr} {u v : Value} (h : w.cell? a = some u) : (w.setCell a v).cell? a = some v := World.cell?_setCell_same _ _ _ h
theorem l1In_yes (n a b : Int) (w : World) (h : a ≤ n ∧ n ≤ b) : Calls Try.prog 87 #[.int .i64 n, .int .i64 a, .int .i64 b] w fun e w' => e = .returned (.bool true) ∧ w = w' :=
  (l1In_any n a b w).mono fun e w' ⟨he, hw⟩ => ⟨by rw [he]; simp [inB, h], hw⟩
theorem l1In_no (n a b : Int) (w : World) (h : ¬ (a ≤ n ∧ n ≤ b)) : Calls Try.prog 87 #[.int .i64 n, .int .i64 a, .int .i64 b] w fun e w' => e = .returned (.bool false) ∧ w = w' :=
  (l1In_any n a b w).mono fun e w' ⟨he, hw⟩ => ⟨by rw [he]; simp [inB]; omega, hw⟩

theorem l1In_noQ (n a b : Int) (w : World) (h : ¬ (a ≤ n ∧ n ≤ b)) : Calls Try.prog 87 #[.int .i64 n, .int .i64 a, .int .i64 b] w fun e w' => e = .returned (.bool false) ∧ w' = w :=
  (l1In_any n a b w).mono fun e w' ⟨he, hw⟩ => ⟨by rw [he]; simp [inB]; omega, hw.symm⟩

set_option maxRecDepth 100000 in
set_option maxHeartbeats 2000000 in
theorem brAll_yes (x y : Int) (A : Option Addr) (n c : Nat) (bs : List (Int × Bool × Int)) (w : World) (hB : barB x y = true) (hr : Rd w 3 A n (tripCells bs)) (hn : n ≤ 144) :
    Calls Try.prog 86 #[bar2 x y, .slice A n c] w fun e w' => ∃ A' n' c', e = .returned (.tuple #[.slice A' n' c', .int .i64 ((runB bs [(x, y)] 0).getD ([], 0)).2, .bool (runB bs [(x, y)] 0).isSome]) ∧ w'.ownsRow w.heap.size 25 2 (.slice A' n' c') n' (pairCells ((runB bs [(x, y)] 0).getD ([], 0)).1) ∧ Below w.heap.size w w' := by
  have hnl : bs.length = n := by have := hr.1; rw [length_tripCells] at this; omega
  have HNL := Lib.hid hnl
  clear hnl
  generalize hR : runB bs [(x, y)] 0 = R
  have HR := Lib.hid hR
  clear hR
  have t1 : decide ((144 : Int) < (n : Int)) = false := by simp; omega
  go_enter Try.func86, Try.ntmps86
  go_wp2_with fail
  refine (brGood_any _ _ _).mono ?_; rintro e w1 ⟨rfl, hb1⟩; have s1 := hb1.size; obtain ⟨hc1, hf1⟩ := bcell hb1; have z1_w0 : w.heap.size < w1.heap.size := (by have q := s1; first | omega | (simp at q; omega))
  go_wp2
  have s1b : w.heap.size ≤ w1.heap.size := by omega
  obtain ⟨i0, hi, hz0, hz1, hz2⟩ := info_parts bar_info
  clear hc1 hf1
  go_loopw [7, 8, 25] (fun v sm i wr => ∃ (k : Nat) (l : List (Int × Int)) (s : Int) (A' : Option Addr) (c' : Nat), k ≤ n ∧ i = .int .i64 k ∧ v = .slice A' (k + 1) c' ∧ sm = .int .i64 s ∧ 0 ≤ s ∧ s ≤ 12 * (k : Int) ∧ Hid (runB (bs.drop k) l s = R) ∧ Hid (∀ q ∈ l, barB q.1 q.2 = true) ∧ wr.ownsRow w1.heap.size 25 2 (.slice A' (k + 1) c') (k + 1) (pairCells l) ∧ Below w1.heap.size w1 wr) (fun _ _ i _ => n - (intOf i).toNat)
  case atStart =>
    refine ⟨0, [(x, y)], 0, _, 1, Nat.zero_le _, rfl, rfl, rfl, by omega, by simp, by simpa [Hid] using HR.out, by simpa [Hid] using hB, ?_, by (repeat (first | (with_reducible exact Below.refl _ _) | (with_reducible assumption) | (with_reducible refine Below.drew ?_) | ((with_reducible refine balloc ?_ _ ?_); · (first | (simp; done) | (simp; omega) | omega)) | ((with_reducible refine bset ?_ _ ?_); · (first | (simp; done) | (simp; omega) | omega)) | (with_reducible refine bdrewN _ ?_) | ((with_reducible refine bcall ?_ (by assumption) ?_); · (first | (simp; done) | (simp; omega) | omega))))⟩
    exact World.ownsRow_lit w1 #[.int .i64 x, .int .i64 y] 1 (Nat.le_refl _) (by simp [maxLen]) rfl
  case round =>
    obtain ⟨k, l, s, A', c', hk, rfl, rfl, rfl, hs0, hs1, hrun, hbars, hown, hBel⟩ := hrel
    have sB := hBel.size
    by_cases hlt : k < n
    · obtain ⟨b, o, rfl, hb, hx, e0, e1, e2⟩ := (hr.later (B := w.heap.size) (Below.trans (by (repeat (first | (with_reducible exact Below.refl _ _) | (with_reducible assumption) | (with_reducible refine Below.drew ?_) | ((with_reducible refine balloc ?_ _ ?_); · (first | (simp; done) | (simp; omega) | omega)) | ((with_reducible refine bset ?_ _ ?_); · (first | (simp; done) | (simp; omega) | omega)) | (with_reducible refine bdrewN _ ?_) | ((with_reducible refine bcall ?_ (by assumption) ?_); · (first | (simp; done) | (simp; omega) | omega))))) (hBel.mono s1b)) (Nat.le_refl _)).trip hlt
      have hrun2 := hrun.out
      rw [List.drop_eq_getElem_cons hx] at hrun2
      generalize bs[k] = q at *
      obtain ⟨p, d, t⟩ := q
      simp only at e0 e1 e2
      simp only [runB] at hrun2
      cases hcm : cmB l p d t
      · rw [dif_neg (by rw [hcm]; simp)] at hrun2
        subst hrun2
        clear hrun HR
        have hll : l.length = k + 1 := by have := hown.1; rw [length_pairCells] at this; omega
        have bel0 : Below w.heap.size w wr := Below.trans (by (repeat (first | (with_reducible exact Below.refl _ _) | (with_reducible assumption) | (with_reducible refine Below.drew ?_) | ((with_reducible refine balloc ?_ _ ?_); · (first | (simp; done) | (simp; omega) | omega)) | ((with_reducible refine bset ?_ _ ?_); · (first | (simp; done) | (simp; omega) | omega)) | (with_reducible refine bdrewN _ ?_) | ((with_reducible refine bcall ?_ (by assumption) ?_); · (first | (simp; done) | (simp; omega) | omega))))) (hBel.mono s1b)
        by_cases hin : 0 ≤ p ∧ p ≤ (k : Int)
        · obtain ⟨P, rfl⟩ := Int.eq_ofNat_of_zero_le hin.1
          have hpl : P < l.length := by omega
          have hCC : canB (l[P]).1 (l[P]).2 d t = false := by rw [← cmB_at l P d t hpl]; exact hcm
          have HB1 := Lib.hid (hbars.out _ (List.getElem_mem hpl))
          obtain ⟨g, rfl, hg1, hg2⟩ := own_at hown (by omega)
          obtain ⟨g', o', eg, _, _, py0, py1⟩ := (Rd.of_own hown).pair (show P < k + 1 by omega)
          simp only [Option.some.injEq, Addr.mk.injEq, and_true] at eg
          obtain ⟨rfl, rfl⟩ := eg
          simp only [Nat.zero_add] at py0 py1
          have hPi : (P : Int) < (k : Int) + 1 := by omega
          have hPi0 : (0 : Int) ≤ (P : Int) := by omega
          have q0 : (wr.alloc (.cells #[.int .i64 (P : Int), .bool d, .int .i64 t] 63)).cell? ⟨wr.heap.size, 0, none⟩ = some (.int .i64 (P : Int)) := by simp [go_sem]
          have q1 : (wr.alloc (.cells #[.int .i64 (P : Int), .bool d, .int .i64 t] 63)).cell? ⟨wr.heap.size, 1, none⟩ = some (.bool d) := by simp [go_sem]
          have q2 : (wr.alloc (.cells #[.int .i64 (P : Int), .bool d, .int .i64 t] 63)).cell? ⟨wr.heap.size, 2, none⟩ = some (.int .i64 t) := by simp [go_sem]
          have q3 : (wr.alloc (.cells #[.int .i64 (P : Int), .bool d, .int .i64 t] 63)).cell? ⟨g, P * 2, none⟩ = some (.int .i64 (l[P]).1) := by (repeat (first | (with_reducible refine cell_drew ?_) | (with_reducible refine cell_drewN _ ?_) | ((with_reducible refine cell_alloc ?_ ?_); · first | omega | (simp; done) | (simp; omega) | assumption) | ((with_reducible refine cell_set ?_ ?_); · first | (intro e; injection e; omega) | (intro e; simp at e; done) | (intro e; simp at e; omega)))); assumption
          have q4 : (wr.alloc (.cells #[.int .i64 (P : Int), .bool d, .int .i64 t] 63)).cell? ⟨g, P * 2 + 1, none⟩ = some (.int .i64 (l[P]).2) := by (repeat (first | (with_reducible refine cell_drew ?_) | (with_reducible refine cell_drewN _ ?_) | ((with_reducible refine cell_alloc ?_ ?_); · first | omega | (simp; done) | (simp; omega) | assumption) | ((with_reducible refine cell_set ?_ ?_); · first | (intro e; injection e; omega) | (intro e; simp at e; done) | (intro e; simp at e; omega)))); assumption
          have hPk : P < k + 1 := by omega
          have hw1 : IntKind.i64.wrap ((k : Int) + 1 - 1) = (k : Int) := by rw [IntWalk.i64_in _ (by omega)]; omega
          have hw2 : (k : Int) + 1 - 1 = (k : Int) := by omega
          clear hll hcm hown hin
          go_wp2
          go_region_held3 (fun w' => w'.cell? ⟨wr.heap.size, 0, none⟩ = some (.int .i64 (P : Int)) ∧ w'.cell? ⟨wr.heap.size, 1, none⟩ = some (.bool d) ∧ w'.cell? ⟨wr.heap.size, 2, none⟩ = some (.int .i64 t) ∧ w'.cell? ⟨g, P * 2, none⟩ = some (.int .i64 (l[P]).1) ∧ w'.cell? ⟨g, P * 2 + 1, none⟩ = some (.int .i64 (l[P]).2))
            ((((try dsimp only); (repeat' apply And.intro); all_goals ((repeat (first | (with_reducible refine cell_drew ?_) | (with_reducible refine cell_drewN _ ?_) | ((with_reducible refine cell_alloc ?_ ?_); · first | omega | (simp; done) | (simp; omega) | assumption) | ((with_reducible refine cell_set ?_ ?_); · first | (intro e; injection e; omega) | (intro e; simp at e; done) | (intro e; simp at e; omega)))); first | assumption | (simp; done)))))
            (first | (go_at_call 87; refine (l1In_yes _ _ _ _ ?_).mono ?_; (· exact ⟨(by omega), (by first | omega | (rw [IntWalk.i64_in _ ⟨by omega, by omega⟩]; omega))⟩); rintro e w5 ⟨rfl, rfl⟩) | (go_at_call 84; refine (brCan_any _ _ _ _ _ HB1.out).mono ?_; rintro e w5 ⟨rfl, hb5⟩; have s5 := hb5.size; have m0 : w5.cell? ⟨wr.heap.size, 0, none⟩ = some (.int .i64 (P : Int)) := (hb5.cell (p := ⟨wr.heap.size, 0, none⟩) (by first | (simp; done) | (simp; omega) | omega)).trans (by first | assumption | (go_split_ands; assumption)); have m1 : w5.cell? ⟨wr.heap.size, 1, none⟩ = some (.bool d) := (hb5.cell (p := ⟨wr.heap.size, 1, none⟩) (by first | (simp; done) | (simp; omega) | omega)).trans (by first | assumption | (go_split_ands; assumption)); have m2 : w5.cell? ⟨wr.heap.size, 2, none⟩ = some (.int .i64 t) := (hb5.cell (p := ⟨wr.heap.size, 2, none⟩) (by first | (simp; done) | (simp; omega) | omega)).trans (by first | assumption | (go_split_ands; assumption)); have m3 : w5.cell? ⟨g, P * 2, none⟩ = some (.int .i64 (l[P]).1) := (hb5.cell (p := ⟨g, P * 2, none⟩) (by first | (simp; done) | (simp; omega) | omega)).trans (by first | assumption | (go_split_ands; assumption)); have m4 : w5.cell? ⟨g, P * 2 + 1, none⟩ = some (.int .i64 (l[P]).2) := (hb5.cell (p := ⟨g, P * 2 + 1, none⟩) (by first | (simp; done) | (simp; omega) | omega)).trans (by first | assumption | (go_split_ands; assumption))))
          have hfin : Below w.heap.size w w5 := Below.trans (bel0.alloc (by have := bel0.size; omega) (.cells #[.int .i64 (P : Int), .bool d, .int .i64 t] 63)).drew (hb5.mono (by have := bel0.size; simp; omega))
          go_wp2
          go_ret3
          exact ⟨none, 0, 0, rfl, by simpa [pairCells] using World.ownsRow_nil _ _ _ _, hfin⟩
        · have q0 : (wr.alloc (.cells #[.int .i64 p, .bool d, .int .i64 t] 63)).cell? ⟨wr.heap.size, 0, none⟩ = some (.int .i64 p) := by simp [go_sem]
          have q1 : (wr.alloc (.cells #[.int .i64 p, .bool d, .int .i64 t] 63)).cell? ⟨wr.heap.size, 1, none⟩ = some (.bool d) := by simp [go_sem]
          have q2 : (wr.alloc (.cells #[.int .i64 p, .bool d, .int .i64 t] 63)).cell? ⟨wr.heap.size, 2, none⟩ = some (.int .i64 t) := by simp [go_sem]
          clear hcm
          go_wp2
          go_quiet ((go_at_call 87; refine Calls.quiet_of_same (l1In_noQ _ _ _ _ ?_); first | omega | (rw [IntWalk.i64_in _ ⟨by omega, by omega⟩]; omega)))
          have hfin : Below w.heap.size w ((wr.alloc (.cells #[.int .i64 p, .bool d, .int .i64 t] 63)).drewN nq) := bdrewN _ (bel0.alloc (by have := bel0.size; omega) (.cells #[.int .i64 p, .bool d, .int .i64 t] 63))
          go_wp2
          go_ret3
          exact ⟨none, 0, 0, rfl, by simpa [pairCells] using World.ownsRow_nil _ _ _ _, hfin⟩
      · obtain ⟨hp0, hpl⟩ := cmB_lt hcm
        rw [dif_pos ⟨hcm, hpl⟩] at hrun2
        obtain ⟨P, rfl⟩ := Int.eq_ofNat_of_zero_le hp0
        simp only [Int.toNat_natCast] at hrun2 hpl
        have hC : canB (l[P]).1 (l[P]).2 d t = true := by rw [← cmB_at l P d t hpl]; exact hcm
        have hB1 := hbars.out _ (List.getElem_mem hpl)
        have hll : l.length = k + 1 := by have := hown.1; rw [length_pairCells] at this; omega
        obtain ⟨g, rfl, hg1, hg2⟩ := own_at hown (by omega)
        obtain ⟨g', o', eg, _, _, py0, py1⟩ := (Rd.of_own hown).pair (show P < k + 1 by omega)
        simp only [Option.some.injEq, Addr.mk.injEq, and_true] at eg
        obtain ⟨rfl, rfl⟩ := eg
        simp only [Nat.zero_add] at py0 py1
        have hPi : (P : Int) < (k : Int) + 1 := by omega
        have hPi0 : (0 : Int) ≤ (P : Int) := by omega
        have HPL := Lib.hid (show P < l.length ∧ l.length = k + 1 from ⟨hpl, hll⟩)
        have hPk : P < k + 1 := by omega
        have HC := Lib.hid hC
        have HB1 := Lib.hid hB1
        have HR2 := Lib.hid hrun2
        have hlen := lenB_le (d := d) hB1
        have hbars2 : ∀ q ∈ l.set P (part1 (l[P]).1 (l[P]).2 d t) ++ [part2 (l[P]).1 (l[P]).2 d t], barB q.1 q.2 = true := by
          intro q hq
          rcases List.mem_append.1 hq with h | h
          · rcases List.mem_or_eq_of_mem_set h with h | h
            · exact hbars.out q h
            · subst h; exact (part_bars hB1 hC).1
          · rw [List.mem_singleton.1 h]; exact (part_bars hB1 hC).2
        have HB2 := Lib.hid hbars2
        have h0 := hp0
        clear hbars2 hC hB1 hrun2 hll hrun HR h0
        have bel0 : Below w.heap.size w wr := Below.trans (by (repeat (first | (with_reducible exact Below.refl _ _) | (with_reducible assumption) | (with_reducible refine Below.drew ?_) | ((with_reducible refine balloc ?_ _ ?_); · (first | (simp; done) | (simp; omega) | omega)) | ((with_reducible refine bset ?_ _ ?_); · (first | (simp; done) | (simp; omega) | omega)) | (with_reducible refine bdrewN _ ?_) | ((with_reducible refine bcall ?_ (by assumption) ?_); · (first | (simp; done) | (simp; omega) | omega))))) (hBel.mono s1b)
        have hin : inB (P : Int) 0 (k : Int) = true := by simp [inB]; omega
        have hw1 : IntKind.i64.wrap ((k : Int) + 1 - 1) = (k : Int) := by rw [IntWalk.i64_in _ (by omega)]; omega
        have hw2 : (k : Int) + 1 - 1 = (k : Int) := by omega
        have hCC := HC.out
        have q0 : (wr.alloc (.cells #[.int .i64 (P : Int), .bool d, .int .i64 t] 63)).cell? ⟨wr.heap.size, 0, none⟩ = some (.int .i64 (P : Int)) := by simp [go_sem]
        have q1 : (wr.alloc (.cells #[.int .i64 (P : Int), .bool d, .int .i64 t] 63)).cell? ⟨wr.heap.size, 1, none⟩ = some (.bool d) := by simp [go_sem]
        have q2 : (wr.alloc (.cells #[.int .i64 (P : Int), .bool d, .int .i64 t] 63)).cell? ⟨wr.heap.size, 2, none⟩ = some (.int .i64 t) := by simp [go_sem]
        have q3 : (wr.alloc (.cells #[.int .i64 (P : Int), .bool d, .int .i64 t] 63)).cell? ⟨g, P * 2, none⟩ = some (.int .i64 (l[P]).1) := by (repeat (first | (with_reducible refine cell_drew ?_) | (with_reducible refine cell_drewN _ ?_) | ((with_reducible refine cell_alloc ?_ ?_); · first | omega | (simp; done) | (simp; omega) | assumption) | ((with_reducible refine cell_set ?_ ?_); · first | (intro e; injection e; omega) | (intro e; simp at e; done) | (intro e; simp at e; omega)))); assumption
        have q4 : (wr.alloc (.cells #[.int .i64 (P : Int), .bool d, .int .i64 t] 63)).cell? ⟨g, P * 2 + 1, none⟩ = some (.int .i64 (l[P]).2) := by (repeat (first | (with_reducible refine cell_drew ?_) | (with_reducible refine cell_drewN _ ?_) | ((with_reducible refine cell_alloc ?_ ?_); · first | omega | (simp; done) | (simp; omega) | assumption) | ((with_reducible refine cell_set ?_ ?_); · first | (intro e; injection e; omega) | (intro e; simp at e; done) | (intro e; simp at e; omega)))); assumption
        go_wp2
        go_region_held3 (fun w' => w'.cell? ⟨wr.heap.size, 0, none⟩ = some (.int .i64 (P : Int)) ∧ w'.cell? ⟨wr.heap.size, 1, none⟩ = some (.bool d) ∧ w'.cell? ⟨wr.heap.size, 2, none⟩ = some (.int .i64 t) ∧ w'.cell? ⟨g, P * 2, none⟩ = some (.int .i64 (l[P]).1) ∧ w'.cell? ⟨g, P * 2 + 1, none⟩ = some (.int .i64 (l[P]).2))
          ((((try dsimp only); (repeat' apply And.intro); all_goals ((repeat (first | (with_reducible refine cell_drew ?_) | (with_reducible refine cell_drewN _ ?_) | ((with_reducible refine cell_alloc ?_ ?_); · first | omega | (simp; done) | (simp; omega) | assumption) | ((with_reducible refine cell_set ?_ ?_); · first | (intro e; injection e; omega) | (intro e; simp at e; done) | (intro e; simp at e; omega)))); first | assumption | (simp; done)))))
          (first | (go_at_call 87; refine (l1In_yes _ _ _ _ ?_).mono ?_; (· exact ⟨(by omega), (by first | omega | (rw [IntWalk.i64_in _ ⟨by omega, by omega⟩]; omega))⟩); rintro e w5 ⟨rfl, rfl⟩) | (go_at_call 84; refine (brCan_any _ _ _ _ _ HB1.out).mono ?_; rintro e w5 ⟨rfl, hb5⟩; have s5 := hb5.size; have m0 : w5.cell? ⟨wr.heap.size, 0, none⟩ = some (.int .i64 (P : Int)) := (hb5.cell (p := ⟨wr.heap.size, 0, none⟩) (by first | (simp; done) | (simp; omega) | omega)).trans (by first | assumption | (go_split_ands; assumption)); have m1 : w5.cell? ⟨wr.heap.size, 1, none⟩ = some (.bool d) := (hb5.cell (p := ⟨wr.heap.size, 1, none⟩) (by first | (simp; done) | (simp; omega) | omega)).trans (by first | assumption | (go_split_ands; assumption)); have m2 : w5.cell? ⟨wr.heap.size, 2, none⟩ = some (.int .i64 t) := (hb5.cell (p := ⟨wr.heap.size, 2, none⟩) (by first | (simp; done) | (simp; omega) | omega)).trans (by first | assumption | (go_split_ands; assumption)); have m3 : w5.cell? ⟨g, P * 2, none⟩ = some (.int .i64 (l[P]).1) := (hb5.cell (p := ⟨g, P * 2, none⟩) (by first | (simp; done) | (simp; omega) | omega)).trans (by first | assumption | (go_split_ands; assumption)); have m4 : w5.cell? ⟨g, P * 2 + 1, none⟩ = some (.int .i64 (l[P]).2) := (hb5.cell (p := ⟨g, P * 2 + 1, none⟩) (by first | (simp; done) | (simp; omega) | omega)).trans (by first | assumption | (go_split_ands; assumption))))
        have own5 := own_later ((hown.alloc (.cells #[.int .i64 (P : Int), .bool d, .int .i64 t] 63)).drew) hb5 (Nat.le_refl _)
        have bel5 : Below w1.heap.size w1 w5 := Below.trans (hBel.alloc (by omega) (.cells #[.int .i64 (P : Int), .bool d, .int .i64 t] 63)).drew (hb5.mono (by simp; omega))
        have s5b : wr.heap.size < w5.heap.size := by simp at s5; omega
        have s5g : g < w5.heap.size := by omega
        clear hown q0 q1 q2 q3 q4 py0 py1 hb5 s5
        have M0 := Lib.hid m0
        go_wp2
        go_region_held3 (fun w' => w'.cell? ⟨wr.heap.size, 0, none⟩ = some (.int .i64 (P : Int)) ∧ w'.cell? ⟨wr.heap.size, 1, none⟩ = some (.bool d) ∧ w'.cell? ⟨wr.heap.size, 2, none⟩ = some (.int .i64 t) ∧ w'.cell? ⟨g, P * 2, none⟩ = some (.int .i64 (l[P]).1) ∧ w'.cell? ⟨g, P * 2 + 1, none⟩ = some (.int .i64 (l[P]).2))
          ((((try dsimp only); (repeat' apply And.intro); all_goals ((repeat (first | (with_reducible refine cell_drew ?_) | (with_reducible refine cell_drewN _ ?_) | ((with_reducible refine cell_alloc ?_ ?_); · first | omega | (simp; done) | (simp; omega) | assumption) | ((with_reducible refine cell_set ?_ ?_); · first | (intro e; injection e; omega) | (intro e; simp at e; done) | (intro e; simp at e; omega)))); first | assumption | (simp; done)))))
          (first | (go_at_call 102; refine (brLong_any _ _ _ _).mono ?_; rintro e w6 ⟨rfl, hb6⟩; have s6 := hb6.size; have k0 : w6.cell? ⟨wr.heap.size, 0, none⟩ = some (.int .i64 (P : Int)) := (hb6.cell (p := ⟨wr.heap.size, 0, none⟩) (by first | (simp; done) | (simp; omega) | omega)).trans (by first | assumption | (go_split_ands; assumption)); have k1 : w6.cell? ⟨wr.heap.size, 1, none⟩ = some (.bool d) := (hb6.cell (p := ⟨wr.heap.size, 1, none⟩) (by first | (simp; done) | (simp; omega) | omega)).trans (by first | assumption | (go_split_ands; assumption)); have k2 : w6.cell? ⟨wr.heap.size, 2, none⟩ = some (.int .i64 t) := (hb6.cell (p := ⟨wr.heap.size, 2, none⟩) (by first | (simp; done) | (simp; omega) | omega)).trans (by first | assumption | (go_split_ands; assumption)); have k3 : w6.cell? ⟨g, P * 2, none⟩ = some (.int .i64 (l[P]).1) := (hb6.cell (p := ⟨g, P * 2, none⟩) (by first | (simp; done) | (simp; omega) | omega)).trans (by first | assumption | (go_split_ands; assumption)); have k4 : w6.cell? ⟨g, P * 2 + 1, none⟩ = some (.int .i64 (l[P]).2) := (hb6.cell (p := ⟨g, P * 2 + 1, none⟩) (by first | (simp; done) | (simp; omega) | omega)).trans (by first | assumption | (go_split_ands; assumption))))
        have own6 := own_later (own5.drew) hb6 (Nat.le_refl _)
        have bel6 : Below w1.heap.size w1 w6 := Below.trans bel5.drew (hb6.mono bel5.size)
        have s6b : wr.heap.size < w6.heap.size := by simp at s6; omega
        have s6g : g < w6.heap.size := by omega
        clear own5 bel5 m0 m1 m2 m3 m4 hb6 s6
        go_wp2
        go_cut [11, 12] (fun s5 s6 wc => ∃ b5 b6 : Nat, s5 = .pointer (some ⟨b5, 0, none⟩) ∧ s6 = .pointer (some ⟨b6, 0, none⟩) ∧ w6.heap.size ≤ b5 ∧ w6.heap.size ≤ b6 ∧
            wc.cell? ⟨b5, 0, none⟩ = some (.int .i64 (part1 (l[P]).1 (l[P]).2 d t).1) ∧ wc.cell? ⟨b5, 1, none⟩ = some (.int .i64 (part1 (l[P]).1 (l[P]).2 d t).2) ∧ wc.cell? ⟨b6, 0, none⟩ = some (.int .i64 (part2 (l[P]).1 (l[P]).2 d t).1) ∧ wc.cell? ⟨b6, 1, none⟩ = some (.int .i64 (part2 (l[P]).1 (l[P]).2 d t).2) ∧
            Below w6.heap.size w6 wc)
        case first =>
          go_region_held3 (fun w' => w'.cell? ⟨wr.heap.size, 0, none⟩ = some (.int .i64 (P : Int)) ∧ w'.cell? ⟨wr.heap.size, 1, none⟩ = some (.bool d) ∧ w'.cell? ⟨wr.heap.size, 2, none⟩ = some (.int .i64 t) ∧ w'.cell? ⟨g, P * 2, none⟩ = some (.int .i64 (l[P]).1) ∧ w'.cell? ⟨g, P * 2 + 1, none⟩ = some (.int .i64 (l[P]).2))
            ((((try dsimp only); (repeat' apply And.intro); all_goals ((repeat (first | (with_reducible refine cell_drew ?_) | (with_reducible refine cell_drewN _ ?_) | ((with_reducible refine cell_alloc ?_ ?_); · first | omega | (simp; done) | (simp; omega) | assumption) | ((with_reducible refine cell_set ?_ ?_); · first | (intro e; injection e; omega) | (intro e; simp at e; done) | (intro e; simp at e; omega)))); first | assumption | (simp; done)))))
            (first | (go_at_call 85; refine (brParts_any _ _ _ _ _ HB1.out HC.out).mono ?_; rintro e w7 ⟨rfl, hb7⟩; obtain ⟨hc7, hf7⟩ := bcell hb7; have s7 := hb7.size; have z2 : w6.heap.size ≤ w7.heap.size := (by simp at s7; omega); have z0 : wr.heap.size < w7.heap.size := (by omega); have z1 : g < w7.heap.size := (by omega); (try have z6 : w6.heap.size < w7.heap.size := (by simp at s7; omega)); (try have z7 : w6.heap.size + 1 < w7.heap.size := (by simp at s7; omega)); (try have n0 : w7.cell? ⟨w6.heap.size, 0, none⟩ = some (.int .i64 0) := (hb7.cell (p := ⟨w6.heap.size, 0, none⟩) (by first | (simp; done) | (simp; omega))).trans (by simp [go_sem])); (try have n1 : w7.cell? ⟨w6.heap.size, 1, none⟩ = some (.int .i64 0) := (hb7.cell (p := ⟨w6.heap.size, 1, none⟩) (by first | (simp; done) | (simp; omega))).trans (by simp [go_sem])); (try have n2 : w7.cell? ⟨w6.heap.size + 1, 0, none⟩ = some (.int .i64 0) := (hb7.cell (p := ⟨w6.heap.size + 1, 0, none⟩) (by first | (simp; done) | (simp; omega))).trans (by simp [go_sem])); (try have n3 : w7.cell? ⟨w6.heap.size + 1, 1, none⟩ = some (.int .i64 0) := (hb7.cell (p := ⟨w6.heap.size + 1, 1, none⟩) (by first | (simp; done) | (simp; omega))).trans (by simp [go_sem])); have m0 : w7.cell? ⟨wr.heap.size, 0, none⟩ = some (.int .i64 (P : Int)) := (hb7.cell (p := ⟨wr.heap.size, 0, none⟩) (by first | (simp; done) | (simp; omega) | omega)).trans (by first | assumption | (go_split_ands; assumption)); have m1 : w7.cell? ⟨wr.heap.size, 1, none⟩ = some (.bool d) := (hb7.cell (p := ⟨wr.heap.size, 1, none⟩) (by first | (simp; done) | (simp; omega) | omega)).trans (by first | assumption | (go_split_ands; assumption)); have m2 : w7.cell? ⟨wr.heap.size, 2, none⟩ = some (.int .i64 t) := (hb7.cell (p := ⟨wr.heap.size, 2, none⟩) (by first | (simp; done) | (simp; omega) | omega)).trans (by first | assumption | (go_split_ands; assumption)); have m3 : w7.cell? ⟨g, P * 2, none⟩ = some (.int .i64 (l[P]).1) := (hb7.cell (p := ⟨g, P * 2, none⟩) (by first | (simp; done) | (simp; omega) | omega)).trans (by first | assumption | (go_split_ands; assumption)); have m4 : w7.cell? ⟨g, P * 2 + 1, none⟩ = some (.int .i64 (l[P]).2) := (hb7.cell (p := ⟨g, P * 2 + 1, none⟩) (by first | (simp; done) | (simp; omega) | omega)).trans (by first | assumption | (go_split_ands; assumption))))
          all_goals
            go_wp2
            go_meet
            case rel =>
              refine ⟨_, _, rfl, rfl, ?_, ?_, ?_, ?_, ?_, ?_, ?_⟩
              · omega
              · omega
              · first | (go_simp; done) | ((repeat (first | (with_reducible refine cell_drew ?_) | (with_reducible refine cell_drewN _ ?_) | ((with_reducible refine cell_alloc ?_ ?_); · first | omega | (simp; done) | (simp; omega) | assumption) | ((with_reducible refine cell_set ?_ ?_); · first | (intro e; injection e; omega) | (intro e; simp at e; done) | (intro e; simp at e; omega)))); exact cell_same (by (repeat (first | (with_reducible refine cell_drew ?_) | (with_reducible refine cell_drewN _ ?_) | ((with_reducible refine cell_alloc ?_ ?_); · first | omega | (simp; done) | (simp; omega) | assumption) | ((with_reducible refine cell_set ?_ ?_); · first | (intro e; injection e; omega) | (intro e; simp at e; done) | (intro e; simp at e; omega)))); assumption))
              · first | (go_simp; done) | ((repeat (first | (with_reducible refine cell_drew ?_) | (with_reducible refine cell_drewN _ ?_) | ((with_reducible refine cell_alloc ?_ ?_); · first | omega | (simp; done) | (simp; omega) | assumption) | ((with_reducible refine cell_set ?_ ?_); · first | (intro e; injection e; omega) | (intro e; simp at e; done) | (intro e; simp at e; omega)))); exact cell_same (by (repeat (first | (with_reducible refine cell_drew ?_) | (with_reducible refine cell_drewN _ ?_) | ((with_reducible refine cell_alloc ?_ ?_); · first | omega | (simp; done) | (simp; omega) | assumption) | ((with_reducible refine cell_set ?_ ?_); · first | (intro e; injection e; omega) | (intro e; simp at e; done) | (intro e; simp at e; omega)))); assumption))
              · first | (go_simp; done) | ((repeat (first | (with_reducible refine cell_drew ?_) | (with_reducible refine cell_drewN _ ?_) | ((with_reducible refine cell_alloc ?_ ?_); · first | omega | (simp; done) | (simp; omega) | assumption) | ((with_reducible refine cell_set ?_ ?_); · first | (intro e; injection e; omega) | (intro e; simp at e; done) | (intro e; simp at e; omega)))); exact cell_same (by (repeat (first | (with_reducible refine cell_drew ?_) | (with_reducible refine cell_drewN _ ?_) | ((with_reducible refine cell_alloc ?_ ?_); · first | omega | (simp; done) | (simp; omega) | assumption) | ((with_reducible refine cell_set ?_ ?_); · first | (intro e; injection e; omega) | (intro e; simp at e; done) | (intro e; simp at e; omega)))); assumption))
              · first | (go_simp; done) | ((repeat (first | (with_reducible refine cell_drew ?_) | (with_reducible refine cell_drewN _ ?_) | ((with_reducible refine cell_alloc ?_ ?_); · first | omega | (simp; done) | (simp; omega) | assumption) | ((with_reducible refine cell_set ?_ ?_); · first | (intro e; injection e; omega) | (intro e; simp at e; done) | (intro e; simp at e; omega)))); exact cell_same (by (repeat (first | (with_reducible refine cell_drew ?_) | (with_reducible refine cell_drewN _ ?_) | ((with_reducible refine cell_alloc ?_ ?_); · first | omega | (simp; done) | (simp; omega) | assumption) | ((with_reducible refine cell_set ?_ ?_); · first | (intro e; injection e; omega) | (intro e; simp at e; done) | (intro e; simp at e; omega)))); assumption))
              · (repeat (first | (with_reducible exact Below.refl _ _) | (with_reducible assumption) | (with_reducible refine Below.drew ?_) | ((with_reducible refine balloc ?_ _ ?_); · (first | (simp; done) | (simp; omega) | omega)) | ((with_reducible refine bset ?_ _ ?_); · (first | (simp; done) | (simp; omega) | omega)) | (with_reducible refine bdrewN _ ?_) | ((with_reducible refine bcall ?_ (by assumption) ?_); · (first | (simp; done) | (simp; omega) | omega))))
        case rest =>
          obtain ⟨b5, b6, rfl, rfl, l5, l6, v50, v51, v60, v61, hBc⟩ := hcut
          have sc := hBc.size
          have x0 := (hBc.cell (p := ⟨wr.heap.size, 0, none⟩) s6b).trans k0
          have x1 := (hBc.cell (p := ⟨wr.heap.size, 1, none⟩) s6b).trans k1
          have x2 := (hBc.cell (p := ⟨wr.heap.size, 2, none⟩) s6b).trans k2
          have y0 := (hBc.cell (p := ⟨g, P * 2, none⟩) s6g).trans k3
          have y1 := (hBc.cell (p := ⟨g, P * 2 + 1, none⟩) s6g).trans k4
          have ownc := own_later own6 hBc (Nat.le_refl _)
          have f1 := ownc.frozenAt (P * 2)
          have f2 := ownc.frozenAt (P * 2 + 1)
          have st1 := (ownc.stored (P * 2) (.int .i64 (part1 (l[P]).1 (l[P]).2 d t).1)).1
          have st2 := (st1.stored (P * 2 + 1) (.int .i64 (part1 (l[P]).1 (l[P]).2 d t).2)).1
          rw [set_pairCells _ _ hpl] at st2
          have ST := Lib.hid st2
          have e60 : ((wc.setCell ⟨g, P * 2, none⟩ (.int .i64 (part1 (l[P]).1 (l[P]).2 d t).1)).setCell ⟨g, P * 2 + 1, none⟩ (.int .i64 (part1 (l[P]).1 (l[P]).2 d t).2)).cell? ⟨b6, 0, none⟩ = some (.int .i64 (part2 (l[P]).1 (l[P]).2 d t).1) := by (repeat (first | (with_reducible refine cell_drew ?_) | (with_reducible refine cell_drewN _ ?_) | ((with_reducible refine cell_alloc ?_ ?_); · first | omega | (simp; done) | (simp; omega) | assumption) | ((with_reducible refine cell_set ?_ ?_); · first | (intro e; injection e; omega) | (intro e; simp at e; done) | (intro e; simp at e; omega)))); assumption
          have e61 : ((wc.setCell ⟨g, P * 2, none⟩ (.int .i64 (part1 (l[P]).1 (l[P]).2 d t).1)).setCell ⟨g, P * 2 + 1, none⟩ (.int .i64 (part1 (l[P]).1 (l[P]).2 d t).2)).cell? ⟨b6, 1, none⟩ = some (.int .i64 (part2 (l[P]).1 (l[P]).2 d t).2) := by (repeat (first | (with_reducible refine cell_drew ?_) | (with_reducible refine cell_drewN _ ?_) | ((with_reducible refine cell_alloc ?_ ?_); · first | omega | (simp; done) | (simp; omega) | assumption) | ((with_reducible refine cell_set ?_ ?_); · first | (intro e; injection e; omega) | (intro e; simp at e; done) | (intro e; simp at e; omega)))); assumption
          have hb3 : Below w1.heap.size w1 ((wc.setCell ⟨g, P * 2, none⟩ (.int .i64 (part1 (l[P]).1 (l[P]).2 d t).1)).setCell ⟨g, P * 2 + 1, none⟩ (.int .i64 (part1 (l[P]).1 (l[P]).2 d t).2)) := bset hg1 _ (bset hg1 _ (bel6.trans (hBc.mono bel6.size)))
          have sb3 : w1.heap.size ≤ wc.heap.size := Nat.le_trans bel6.size sc
          clear st1 st2 ownc own6 bel6 hBc
          go_wp2_with (at_builtin; refine wpList_append_own _ rfl (.tmp 77) (.tmp 79) 67 rfl w1.heap.size 25 i0 (bar2 0 0) 2 16 Try.underlying67 hi hz0 hz1 hz2 rfl (by decide) _ _ _ rfl (ST.out.alloc _) ⟨wc.heap.size, 0, none⟩ 1 1 [.int .i64 (part2 (l[P]).1 (l[P]).2 d t).1, .int .i64 (part2 (l[P]).1 (l[P]).2 d t).2] rfl rfl ?c1 ?c2 ?c3 ?c4 ?c5 ?_)
          case c1 =>
            intro j u hj
            have h := new2 ((wc.setCell ⟨g, P * 2, none⟩ (.int .i64 (part1 (l[P]).1 (l[P]).2 d t).1)).setCell ⟨g, P * 2 + 1, none⟩ (.int .i64 (part1 (l[P]).1 (l[P]).2 d t).2)) 25 _ _ j u hj
            simp only [World.size_setCell] at h
            exact h
          case c2 => exact two_oneCell _ _ _ _
          case c3 => simp only [maxLen]; omega
          case c4 => omega
          case c5 => simp; omega
          · intro v' w8 hown' hgrow _
            have hb4 := bgrow (hb3.alloc (by simp; omega) (.cells #[.int .i64 (part2 (l[P]).1 (l[P]).2 d t).1, .int .i64 (part2 (l[P]).1 (l[P]).2 d t).2] 25)) (ST.out.alloc _) hgrow (by simp; omega)
            obtain ⟨A2, c2, rfl⟩ := own_slice hown'
            clear hgrow x0 x1 x2 y0 y1 e60 e61 f1 f2
            go_wp2
            go_roundw
            case rel => exact ⟨k + 1, _, s + lenB (l[P]) d, A2, c2, by omega, by go_num, rfl, congrArg (Value.int .i64) (IntWalk.i64_in (s + lenB (l[P]) d) (by omega)), by omega, by omega, HR2, HB2, by rw [pairCells_append]; exact hown', hb4⟩
            case measure => simp [intOf]; omega
    · go_wp2
      go_ret3
      have hkn : k = n := by omega
      subst hkn
      have h1 := hrun.out
      rw [List.drop_of_length_le (by rw [HNL.out]; exact Nat.le_refl _)] at h1
      simp only [runB] at h1
      subst h1
      exact ⟨A', _, c', rfl, own_base hown (by omega), Below.trans (by (repeat (first | (with_reducible exact Below.refl _ _) | (with_reducible assumption) | (with_reducible refine Below.drew ?_) | ((with_reducible refine balloc ?_ _ ?_); · (first | (simp; done) | (simp; omega) | omega)) | ((with_reducible refine bset ?_ _ ?_); · (first | (simp; done) | (simp; omega) | omega)) | (with_reducible refine bdrewN _ ?_) | ((with_reducible refine bcall ?_ (by assumption) ?_); · (first | (simp; done) | (simp; omega) | omega))))) (hBel.mono s1b)⟩

end Go.Proofs.Ytjaddijhijnlnaa
