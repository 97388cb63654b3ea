/-
  Contract: the program's makeBreaks: the pieces behind a list of breaks, and how long these are together.
-/
import Derived.Test.YtjaddijhijnlnaaCan
namespace Go.Proofs.Ytjaddijhijnlnaa
open Go.RowKit

def lenB (q : Int × Int) (d : Bool) : Int := if d then q.2 else q.1
/-- the pieces behind breaks, made one after the other, and their lengths' sum -/
def runB : List (Int × Bool × Int) → List (Int × Int) → Int → Option (List (Int × Int) × Int)
  | [], l, s => some (l, s)
  | (p, d, t) :: r, l, s => if h : cmB l p d t = true ∧ p.toNat < l.length then
      runB r (l.set p.toNat (part1 (l[p.toNat]'h.2).1 (l[p.toNat]'h.2).2 d t) ++ [part2 (l[p.toNat]'h.2).1 (l[p.toNat]'h.2).2 d t]) (s + lenB (l[p.toNat]'h.2) d) else none

theorem cmB_lt {l : List (Int × Int)} {p : Int} {d : Bool} {t : Int} (h : cmB l p d t = true) : 0 ≤ p ∧ p.toNat < l.length := by
  unfold cmB at h; split at h
  · rename_i h1; exact h1
  · cases h

set_option maxHeartbeats 400000 in
theorem lengthOfLine_any (x y : Int) (d : Bool) (w : World) :
    Calls Try.prog 100 #[bar2 x y, .bool d] w fun e w' => e = .returned (.int .i64 (lenB (x, y) d)) ∧ Below w.heap.size w w' := by
  cases d
  all_goals
    go_enter Try.func100, Try.ntmps100
    go_wp2
    go_ret
    exact ⟨rfl, by (repeat (first | (with_reducible exact Below.refl _ _) | (with_reducible assumption) | (with_reducible refine Below.drew ?_) | ((with_reducible refine balloc ?_ _ ?_); · (first | (simp; done) | (simp; omega) | omega)) | ((with_reducible refine bset ?_ _ ?_); · (first | (simp; done) | (simp; omega) | omega)) | (with_reducible refine bdrewN _ ?_) | ((with_reducible refine bcall ?_ (by assumption) ?_); · (first | (simp; done) | (simp; omega) | omega))))⟩

theorem part_bars {x y t : Int} {d : Bool} (hB : barB x y = true) (hC : canB x y d t = true) : barB (part1 x y d t).1 (part1 x y d t).2 = true ∧ barB (part2 x y d t).1 (part2 x y d t).2 = true := by
  obtain ⟨x1, x2, y1, y2⟩ := barB_true hB
  cases d <;> simp [canB, inB] at hC <;> simp [part1, part2, barB] <;> omega
theorem lenB_le {q : Int × Int} {d : Bool} (hB : barB q.1 q.2 = true) : 1 ≤ lenB q d ∧ lenB q d ≤ 12 := by
  obtain ⟨x1, x2, y1, y2⟩ := barB_true hB
  cases d <;> simp [lenB] <;> omega

set_option maxRecDepth 100000 in
set_option maxHeartbeats 2000000 in
theorem makeBreaks_yes (x y : Int) (A : Option Addr) (n c : Nat) (bs : List (Int × Bool × Int)) (w : World) (hB : barB x y = true) (hr : Rd w 3 A n (tripCells bs)) (hn : n ≤ 144) :
    Calls Try.prog 88 #[bar2 x y, .slice A n c] w fun e w' => ∃ A' n' c', e = .returned (.tuple #[.slice A' n' c', .int .i64 ((runB bs [(x, y)] 0).getD ([], 0)).2, .bool (runB bs [(x, y)] 0).isSome]) ∧ w'.ownsRow w.heap.size 25 2 (.slice A' n' c') n' (pairCells ((runB bs [(x, y)] 0).getD ([], 0)).1) ∧ Below w.heap.size w w' := by
  have hnl : bs.length = n := by have := hr.1; rw [length_tripCells] at this; omega
  have HNL := Lib.hid hnl
  clear hnl
  generalize hR : runB bs [(x, y)] 0 = R
  have HR := Lib.hid hR
  clear hR
  have t1 : decide ((144 : Int) < (n : Int)) = false := by simp; omega
  go_enter Try.func88, Try.ntmps88
  go_wp2_with fail
  refine (isBar_any _ _ _).mono ?_; rintro e w1 ⟨rfl, hb1⟩; have s1 := hb1.size; obtain ⟨hc1, hf1⟩ := bcell hb1; have z1_w0 : w.heap.size < w1.heap.size := (by have q := s1; first | omega | (simp at q; omega))
  go_wp2
  have s1b : w.heap.size ≤ w1.heap.size := by omega
  clear hc1 hf1
  go_loopw [7, 8, 23] (fun v sm i wr => ∃ (k : Nat) (l : List (Int × Int)) (s : Int) (A' : Option Addr) (c' : Nat), k ≤ n ∧ i = .int .i64 k ∧ v = .slice A' (k + 1) c' ∧ sm = .int .i64 s ∧ 0 ≤ s ∧ s ≤ 12 * (k : Int) ∧ Hid (runB (bs.drop k) l s = R) ∧ Hid (∀ q ∈ l, barB q.1 q.2 = true) ∧ wr.ownsRow w1.heap.size 25 2 (.slice A' (k + 1) c') (k + 1) (pairCells l) ∧ Below w1.heap.size w1 wr) (fun _ _ i _ => n - (intOf i).toNat)
  case atStart =>
    refine ⟨0, [(x, y)], 0, _, 1, Nat.zero_le _, rfl, rfl, rfl, by omega, by simp, by simpa [Hid] using HR.out, by simpa [Hid] using hB, ?_, by (repeat (first | (with_reducible exact Below.refl _ _) | (with_reducible assumption) | (with_reducible refine Below.drew ?_) | ((with_reducible refine balloc ?_ _ ?_); · (first | (simp; done) | (simp; omega) | omega)) | ((with_reducible refine bset ?_ _ ?_); · (first | (simp; done) | (simp; omega) | omega)) | (with_reducible refine bdrewN _ ?_) | ((with_reducible refine bcall ?_ (by assumption) ?_); · (first | (simp; done) | (simp; omega) | omega))))⟩
    exact World.ownsRow_lit w1 #[.int .i64 x, .int .i64 y] 1 (Nat.le_refl _) (by simp [maxLen]) rfl
  case round =>
    obtain ⟨k, l, s, A', c', hk, rfl, rfl, rfl, hs0, hs1, hrun, hbars, hown, hBel⟩ := hrel
    have sB := hBel.size
    by_cases hlt : k < n
    · obtain ⟨b, o, rfl, hb, hx, e0, e1, e2⟩ := (hr.later (B := w.heap.size) (Below.trans (by (repeat (first | (with_reducible exact Below.refl _ _) | (with_reducible assumption) | (with_reducible refine Below.drew ?_) | ((with_reducible refine balloc ?_ _ ?_); · (first | (simp; done) | (simp; omega) | omega)) | ((with_reducible refine bset ?_ _ ?_); · (first | (simp; done) | (simp; omega) | omega)) | (with_reducible refine bdrewN _ ?_) | ((with_reducible refine bcall ?_ (by assumption) ?_); · (first | (simp; done) | (simp; omega) | omega))))) (hBel.mono s1b)) (Nat.le_refl _)).trip hlt
      have hrun2 := hrun.out
      rw [List.drop_eq_getElem_cons hx] at hrun2
      generalize bs[k] = q at *
      obtain ⟨p, d, t⟩ := q
      simp only at e0 e1 e2
      simp only [runB] at hrun2
      cases hcm : cmB l p d t
      · rw [dif_neg (by rw [hcm]; simp)] at hrun2
        subst hrun2
        clear hrun HR
        go_wp2_with fail
        refine (canMake_any _ _ _ _ _ _ _ _ (Rd.of_own (hown.alloc _)) hbars.out).mono ?_; rintro e w3 ⟨rfl, hb3⟩
        go_wp2
        go_ret3
        have hfin : Below w.heap.size w w3 := Below.trans (Below.trans (by (repeat (first | (with_reducible exact Below.refl _ _) | (with_reducible assumption) | (with_reducible refine Below.drew ?_) | ((with_reducible refine balloc ?_ _ ?_); · (first | (simp; done) | (simp; omega) | omega)) | ((with_reducible refine bset ?_ _ ?_); · (first | (simp; done) | (simp; omega) | omega)) | (with_reducible refine bdrewN _ ?_) | ((with_reducible refine bcall ?_ (by assumption) ?_); · (first | (simp; done) | (simp; omega) | omega))))) (hBel.mono s1b)) (Below.trans ((Below.refl _ _).alloc (by omega) _) (hb3.mono (by simp; omega)))
        exact ⟨none, 0, 0, rfl, by simpa [pairCells] using World.ownsRow_nil _ _ _ _, hfin⟩
      · obtain ⟨hp0, hpl⟩ := cmB_lt hcm
        rw [dif_pos ⟨hcm, hpl⟩] at hrun2
        obtain ⟨P, rfl⟩ := Int.eq_ofNat_of_zero_le hp0
        simp only [Int.toNat_natCast] at hrun2 hpl
        have hC : canB (l[P]).1 (l[P]).2 d t = true := by rw [← cmB_at l P d t hpl]; exact hcm
        have hB1 := hbars.out _ (List.getElem_mem hpl)
        have hll : l.length = k + 1 := by have := hown.1; rw [length_pairCells] at this; omega
        obtain ⟨g, rfl, hg1, hg2⟩ := own_at hown (by omega)
        obtain ⟨g', o', eg, _, _, py0, py1⟩ := (Rd.of_own hown).pair (show P < k + 1 by omega)
        simp only [Option.some.injEq, Addr.mk.injEq, and_true] at eg
        obtain ⟨rfl, rfl⟩ := eg
        simp only [Nat.zero_add] at py0 py1
        have hPi : (P : Int) < (k : Int) + 1 := by omega
        have hPi0 : (0 : Int) ≤ (P : Int) := by omega
        have HPL := Lib.hid (show P < l.length ∧ l.length = k + 1 from ⟨hpl, hll⟩)
        have hPk : P < k + 1 := by omega
        have HC := Lib.hid hC
        have HB1 := Lib.hid hB1
        have HR2 := Lib.hid hrun2
        have hlen := lenB_le (d := d) hB1
        have hbars2 : ∀ q ∈ l.set P (part1 (l[P]).1 (l[P]).2 d t) ++ [part2 (l[P]).1 (l[P]).2 d t], barB q.1 q.2 = true := by
          intro q hq
          rcases List.mem_append.1 hq with h | h
          · rcases List.mem_or_eq_of_mem_set h with h | h
            · exact hbars.out q h
            · subst h; exact (part_bars hB1 hC).1
          · rw [List.mem_singleton.1 h]; exact (part_bars hB1 hC).2
        have HB2 := Lib.hid hbars2
        have h0 := hp0
        clear hbars2 hC hB1 hrun2 hll hrun HR h0
        have bel0 : Below w.heap.size w wr := Below.trans (by (repeat (first | (with_reducible exact Below.refl _ _) | (with_reducible assumption) | (with_reducible refine Below.drew ?_) | ((with_reducible refine balloc ?_ _ ?_); · (first | (simp; done) | (simp; omega) | omega)) | ((with_reducible refine bset ?_ _ ?_); · (first | (simp; done) | (simp; omega) | omega)) | (with_reducible refine bdrewN _ ?_) | ((with_reducible refine bcall ?_ (by assumption) ?_); · (first | (simp; done) | (simp; omega) | omega))))) (hBel.mono s1b)
        go_wp2_with fail
        refine (canMake_any _ _ _ _ _ _ _ _ (Rd.of_own (hown.alloc _)) hbars.out).mono ?_; rintro e w3 ⟨rfl, hb3⟩
        have s3 := hb3.size
        have bx0 : w3.cell? ⟨wr.heap.size, 0, none⟩ = some (.int .i64 (P : Int)) := (hb3.cell (p := ⟨wr.heap.size, 0, none⟩) (by simp)).trans (by simp [go_sem])
        have bx1 : w3.cell? ⟨wr.heap.size, 1, none⟩ = some (.bool d) := (hb3.cell (p := ⟨wr.heap.size, 1, none⟩) (by simp)).trans (by simp [go_sem])
        have bx2 : w3.cell? ⟨wr.heap.size, 2, none⟩ = some (.int .i64 t) := (hb3.cell (p := ⟨wr.heap.size, 2, none⟩) (by simp)).trans (by simp [go_sem])
        have pz0 : w3.cell? ⟨g, P * 2, none⟩ = some (.int .i64 (l[P]).1) := (hb3.cell (p := ⟨g, P * 2, none⟩) (by simp; omega)).trans (by (repeat (first | (with_reducible refine cell_drew ?_) | (with_reducible refine cell_drewN _ ?_) | ((with_reducible refine cell_alloc ?_ ?_); · first | omega | (simp; done) | (simp; omega) | assumption) | ((with_reducible refine cell_set ?_ ?_); · first | (intro e; injection e; omega) | (intro e; simp at e; done) | (intro e; simp at e; omega)))); assumption)
        have pz1 : w3.cell? ⟨g, P * 2 + 1, none⟩ = some (.int .i64 (l[P]).2) := (hb3.cell (p := ⟨g, P * 2 + 1, none⟩) (by simp; omega)).trans (by (repeat (first | (with_reducible refine cell_drew ?_) | (with_reducible refine cell_drewN _ ?_) | ((with_reducible refine cell_alloc ?_ ?_); · first | omega | (simp; done) | (simp; omega) | assumption) | ((with_reducible refine cell_set ?_ ?_); · first | (intro e; injection e; omega) | (intro e; simp at e; done) | (intro e; simp at e; omega)))); assumption)
        have own3 := own_later (hown.alloc (.cells #[.int .i64 (P : Int), .bool d, .int .i64 t] 63)) hb3 (Nat.le_refl _)
        have bel3 : Below w1.heap.size w1 w3 := Below.trans (hBel.alloc (by omega) (.cells #[.int .i64 (P : Int), .bool d, .int .i64 t] 63)) (hb3.mono (by simp; omega))
        have s3b : wr.heap.size < w3.heap.size := by simp at s3; omega
        clear py0 py1 hown e0 e1 e2 hb3 s3
        go_wp2
        have s3g : g < w3.heap.size := by omega
        go_region_held3 (fun w' => w'.cell? ⟨wr.heap.size, 0, none⟩ = some (.int .i64 (P : Int)) ∧ w'.cell? ⟨wr.heap.size, 1, none⟩ = some (.bool d) ∧ w'.cell? ⟨wr.heap.size, 2, none⟩ = some (.int .i64 t) ∧ w'.cell? ⟨g, P * 2, none⟩ = some (.int .i64 (l[P]).1) ∧ w'.cell? ⟨g, P * 2 + 1, none⟩ = some (.int .i64 (l[P]).2))
          ((((try dsimp only); (repeat' apply And.intro); all_goals ((repeat (first | (with_reducible refine cell_drew ?_) | (with_reducible refine cell_drewN _ ?_) | ((with_reducible refine cell_alloc ?_ ?_); · first | omega | (simp; done) | (simp; omega) | assumption) | ((with_reducible refine cell_set ?_ ?_); · first | (intro e; injection e; omega) | (intro e; simp at e; done) | (intro e; simp at e; omega)))); first | assumption | (simp; done)))))
          (first | (go_at_call 100; refine (lengthOfLine_any _ _ _ _).mono ?_; rintro e w5 ⟨rfl, hb5⟩; have s5 := hb5.size; have m0 : w5.cell? ⟨wr.heap.size, 0, none⟩ = some (.int .i64 (P : Int)) := (hb5.cell (p := ⟨wr.heap.size, 0, none⟩) s3b).trans (by first | assumption | (go_split_ands; assumption)); have m1 : w5.cell? ⟨wr.heap.size, 1, none⟩ = some (.bool d) := (hb5.cell (p := ⟨wr.heap.size, 1, none⟩) s3b).trans (by first | assumption | (go_split_ands; assumption)); have m2 : w5.cell? ⟨wr.heap.size, 2, none⟩ = some (.int .i64 t) := (hb5.cell (p := ⟨wr.heap.size, 2, none⟩) s3b).trans (by first | assumption | (go_split_ands; assumption)); have m3 : w5.cell? ⟨g, P * 2, none⟩ = some (.int .i64 (l[P]).1) := (hb5.cell (p := ⟨g, P * 2, none⟩) s3g).trans (by first | assumption | (go_split_ands; assumption)); have m4 : w5.cell? ⟨g, P * 2 + 1, none⟩ = some (.int .i64 (l[P]).2) := (hb5.cell (p := ⟨g, P * 2 + 1, none⟩) s3g).trans (by first | assumption | (go_split_ands; assumption))))
        have own5 := own_later own3.drew hb5 (Nat.le_refl _)
        have bel5 : Below w1.heap.size w1 w5 := bel3.drew.trans (hb5.mono bel3.size)
        clear own3 bel3 hb5 bx0 bx1 bx2 pz0 pz1
        go_wp2_with fail
        refine (makeBreak_any _ _ _ w1.heap.size P d t l _ own5 hpl (by omega) HB1.out HC.out).mono ?_; rintro e w6 ⟨A2, c2, rfl, own6, hb6⟩
        go_wp2
        go_roundw
        case rel => exact ⟨k + 1, _, s + lenB (l[P]) d, A2, c2, by omega, by go_num, rfl, congrArg (Value.int .i64) (IntWalk.i64_in (s + lenB (l[P]) d) (by omega)), by omega, by omega, HR2, HB2, own6, bel5.trans hb6⟩
        case measure => simp [intOf]; omega
    · go_wp2
      go_ret3
      have hkn : k = n := by omega
      subst hkn
      have h1 := hrun.out
      rw [List.drop_of_length_le (by rw [HNL.out]; exact Nat.le_refl _)] at h1
      simp only [runB] at h1
      subst h1
      exact ⟨A', _, c', rfl, own_base hown (by omega), Below.trans (by (repeat (first | (with_reducible exact Below.refl _ _) | (with_reducible assumption) | (with_reducible refine Below.drew ?_) | ((with_reducible refine balloc ?_ _ ?_); · (first | (simp; done) | (simp; omega) | omega)) | ((with_reducible refine bset ?_ _ ?_); · (first | (simp; done) | (simp; omega) | omega)) | (with_reducible refine bdrewN _ ?_) | ((with_reducible refine bcall ?_ (by assumption) ?_); · (first | (simp; done) | (simp; omega) | omega))))) (hBel.mono s1b)⟩

end Go.Proofs.Ytjaddijhijnlnaa
