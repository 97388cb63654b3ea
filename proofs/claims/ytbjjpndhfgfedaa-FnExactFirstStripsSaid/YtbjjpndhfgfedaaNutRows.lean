/-
  Contracts: RowNuts, ColumnNuts, NutsIn of the program and of the model.
-/
import Derived.Test.YtbjjpndhfgfedaaLineNuts
import Derived.Test.YtbjjpndhfgfedaaSum
import Derived.WalkSmall
import Derived.Lib.OthersKept
namespace Go.Proofs.Ytbjjpndhfgfedaa
open Go.RowKit

/-- the nuts of each line, or nothing -/
def linesR (ss : List ByteArray) (d : Bool) : List Int := if nutsB ss then linesL ss (nutW ss) ss.length d else []
theorem linesR_yes {ss : List ByteArray} {W n : Nat} (h : NB ss W n) (d : Bool) : linesR ss d = linesL ss W n d := by
  unfold linesR
  rw [h.good, if_pos rfl, h.len, h.headW]
theorem linesR_no {ss : List ByteArray} (h : nutsB ss = false) (d : Bool) : linesR ss d = [] := by
  unfold linesR
  rw [h]
  rfl
theorem length_linesR (ss : List ByteArray) (d : Bool) : (linesR ss d).length ≤ 8 := by
  unfold linesR
  split
  · rename_i h
    have hb := NB.of h
    have := hb.w8
    have := hb.h8
    rw [length_linesL]
    split <;> omega
  · simp

set_option maxRecDepth 100000 in
set_option maxHeartbeats 1000000 in
theorem rowNuts_any (A : Option Addr) (n c : Nat) (ss : List ByteArray) (w : World) (hr : Rd w 1 A n (strCells ss)) :
    Calls Try.prog 23 #[.slice A n c] w fun e w' => ∃ A' n' c', e = .returned (.tuple #[.slice A' n' c', .bool (nutsB ss)]) ∧ w'.ownsRow w.heap.size 3 1 (.slice A' n' c') n' (intCells (linesR ss false)) ∧ Below w.heap.size w w' := by
  cases hB : nutsB ss
  · rw [linesR_no hB]
    go_enter Try.func23, Try.ntmps23
    go_wp2_with fail
    refine (areNuts_any _ _ _ _ _ hr).mono ?_; rintro e w1 ⟨rfl, rfl⟩
    go_wp2
    go_ret2
    exact ⟨none, 0, 0, rfl, World.ownsRow_nil _ _ _ _, Below.refl _ _⟩
  · have hb := NB.of hB
    rw [hr.slen] at hb
    rw [linesR_yes hb]
    go_enter Try.func23, Try.ntmps23
    go_wp2_with fail
    refine (areNuts_any _ _ _ _ _ hr).mono ?_; rintro e w1 ⟨rfl, rfl⟩
    go_wp2_with fail
    refine (lineNuts_lines _ _ _ _ ss _ _ hr hb).mono ?_; rintro e w1 ⟨A1, n1, c1, rfl, own1, hb1⟩
    go_wp2
    go_ret2
    exact ⟨A1, n1, c1, rfl, own1, hb1⟩

set_option maxRecDepth 100000 in
set_option maxHeartbeats 1000000 in
theorem columnNuts_any (A : Option Addr) (n c : Nat) (ss : List ByteArray) (w : World) (hr : Rd w 1 A n (strCells ss)) :
    Calls Try.prog 29 #[.slice A n c] w fun e w' => ∃ A' n' c', e = .returned (.tuple #[.slice A' n' c', .bool (nutsB ss)]) ∧ w'.ownsRow w.heap.size 3 1 (.slice A' n' c') n' (intCells (linesR ss true)) ∧ Below w.heap.size w w' := by
  cases hB : nutsB ss
  · rw [linesR_no hB]
    go_enter Try.func29, Try.ntmps29
    go_wp2_with fail
    refine (areNuts_any _ _ _ _ _ hr).mono ?_; rintro e w1 ⟨rfl, rfl⟩
    go_wp2
    go_ret2
    exact ⟨none, 0, 0, rfl, World.ownsRow_nil _ _ _ _, Below.refl _ _⟩
  · have hb := NB.of hB
    rw [hr.slen] at hb
    rw [linesR_yes hb]
    go_enter Try.func29, Try.ntmps29
    go_wp2_with fail
    refine (areNuts_any _ _ _ _ _ hr).mono ?_; rintro e w1 ⟨rfl, rfl⟩
    go_wp2_with fail
    refine (lineNuts_lines _ _ _ _ ss _ _ hr hb).mono ?_; rintro e w1 ⟨A1, n1, c1, rfl, own1, hb1⟩
    go_wp2
    go_ret2
    exact ⟨A1, n1, c1, rfl, own1, hb1⟩


set_option maxRecDepth 100000 in
set_option maxHeartbeats 2000000 in
theorem sRowNuts_any (A : Option Addr) (n c : Nat) (ss : List ByteArray) (w : World) (hr : Rd w 1 A n (strCells ss)) :
    Calls Try.prog 22 #[.slice A n c] w fun e w' => ∃ A' n' c', e = .returned (.tuple #[.slice A' n' c', .bool (nutsB ss)]) ∧ w'.ownsRow w.heap.size 3 1 (.slice A' n' c') n' (intCells (linesR ss false)) ∧ Below w.heap.size w w' := by
  cases hB : nutsB ss
  · rw [linesR_no hB]
    go_enter Try.func22, Try.ntmps22
    go_wp2_with fail
    refine (ntGood_any _ _ _ _ _ hr).mono ?_; rintro e w1 ⟨rfl, rfl⟩
    go_wp2
    go_ret2
    exact ⟨none, 0, 0, rfl, World.ownsRow_nil _ _ _ _, Below.refl _ _⟩
  · have hb := NB.of hB
    rw [hr.slen] at hb
    rw [linesR_yes hb]
    generalize nutW ss = W at *
    obtain ⟨i0, hi, hz0, hz1, hz2⟩ := info_parts int_info
    obtain ⟨b, o, rfl, hbl, s0, p0, hs0, _⟩ := hr.nut0 hb
    have hs := hs0.out
    subst hs
    have hn1 := hb.h1
    have hn8 := hb.h8
    have hW8 := hb.w8
    go_enter Try.func22, Try.ntmps22
    go_wp2_with fail
    refine (ntGood_any _ _ _ _ _ hr).mono ?_; rintro e w1 ⟨rfl, rfl⟩
    go_wp2
    clear hB
    go_loopw [4, 11] (fun v i wr => ∃ (k : Nat) (A' : Option Addr) (c' : Nat), k ≤ n ∧ i = .int .i64 k ∧ v = .slice A' k c' ∧ wr.ownsRow w.heap.size 3 1 (.slice A' k c') k (intCells (linesL ss s0.size k false)) ∧ Below w.heap.size w wr) (fun _ i _ => n - (intOf i).toNat)
    case atStart => exact ⟨0, none, 0, Nat.zero_le _, rfl, rfl, World.ownsRow_nil _ _ _ _, Below.refl _ _⟩
    case round =>
      obtain ⟨k, A', c', hk, rfl, rfl, hown, hBl⟩ := hrel
      have sB := hBl.size
      by_cases hlt : k < n
      · have pr := (hBl.cell (p := ⟨b, o, none⟩) hbl).trans p0
        go_wp2_with fail
        refine (ntSum_any _ _ _ s0.size ss _ _ _ _ 0 k s0.size 1 _ (hr.later hBl (Nat.le_refl _)) hb rfl rfl (by omega) (by omega) (by omega) (by omega)).mono ?_; rintro e wx ⟨rfl, rfl⟩
        have HE : Hid (linesL ss s0.size (k + 1) false = linesL ss s0.size k false ++ [(rect ss 0 k s0.size 1 : Int)]) := by simp [Hid, linesL, List.range_succ]
        generalize hq : (rect ss 0 k s0.size 1 : Int) = q at *
        have hc3 : k + 1 ≤ maxLen := by simp only [maxLen]; omega
        go_wp2_with (at_builtin; refine wpList_append_own _ rfl (.tmp 14) (.tmp 24) 29 rfl w.heap.size 3 i0 (.int .i64 0) 1 8 Try.underlying29 hi hz0 hz1 hz2 rfl (by decide) _ _ _ rfl (hown.alloc _) ⟨wr.heap.size, 0, none⟩ 1 1 [.int .i64 q] rfl rfl (new1 _ _ _) (int_oneCell [q]) hc3 (by omega) (Nat.le_trans sB (by simp)) ?_)
        intro v' w2 hown' hgrow _
        have hb2 := gb_new (Nat.le_refl _) (hBl.alloc sB (.cells #[.int .i64 q] 3)) hgrow (fun g hg => (hown.lt g hg).1)
        obtain ⟨A2, c2, rfl⟩ := own_slice hown'
        clear hgrow hown hBl pr hq hc3
        go_wp2
        go_roundw
        case rel => exact ⟨k + 1, A2, c2, by omega, by go_num, rfl, by rw [HE.out, intCells_append]; exact hown', hb2⟩
        case measure => simp [intOf]; omega
      · go_wp2
        go_ret2
        have : k = n := by omega
        subst this
        exact ⟨A', k, c', rfl, hown, hBl⟩

set_option maxRecDepth 100000 in
set_option maxHeartbeats 4000000 in
theorem sColumnNuts_any (A : Option Addr) (n c : Nat) (ss : List ByteArray) (w : World) (hr : Rd w 1 A n (strCells ss)) :
    Calls Try.prog 28 #[.slice A n c] w fun e w' => ∃ A' n' c', e = .returned (.tuple #[.slice A' n' c', .bool (nutsB ss)]) ∧ w'.ownsRow w.heap.size 3 1 (.slice A' n' c') n' (intCells (linesR ss true)) ∧ Below w.heap.size w w' := by
  cases hB : nutsB ss
  · rw [linesR_no hB]
    go_enter Try.func28, Try.ntmps28
    go_wp2_with fail
    refine (ntGood_any _ _ _ _ _ hr).mono ?_; rintro e w1 ⟨rfl, rfl⟩
    go_wp2
    go_ret2
    exact ⟨none, 0, 0, rfl, World.ownsRow_nil _ _ _ _, Below.refl _ _⟩
  · have hb := NB.of hB
    rw [hr.slen] at hb
    rw [linesR_yes hb]
    generalize nutW ss = W at *
    obtain ⟨i0, hi, hz0, hz1, hz2⟩ := info_parts int_info
    obtain ⟨b, o, rfl, hbl, s0, p0, hs0, hd0⟩ := hr.nut0 hb
    have hn1 := hb.h1
    have hn8 := hb.h8
    have hW8 := hb.w8
    go_enter Try.func28, Try.ntmps28
    go_wp2_with fail
    refine (ntGood_any _ _ _ _ _ hr).mono ?_; rintro e w1 ⟨rfl, rfl⟩
    go_wp2
    clear hB
    go_loopw [4] (fun v wr => ∃ (x : Nat) (A' : Option Addr) (c' : Nat), x ≤ W ∧ v = .slice A' x c' ∧ wr.ownsRow (w.heap.size + 1) 3 1 (.slice A' x c') x (intCells (linesL ss x n true)) ∧ ItAt wr w.heap.size s0 x ∧ Below w.heap.size w wr ∧ w.heap.size + 1 ≤ wr.heap.size) (fun _ wr => W - wr.iterPos w.heap.size)
    case atStart => exact ⟨0, none, 0, Nat.zero_le _, rfl, World.ownsRow_nil _ _ _ _, by unfold ItAt; show (w.heap.push _)[w.heap.size]? = _; simp, by show Below _ w (w.alloc (.stringIter s0 0)); (repeat (first | (with_reducible exact Below.refl _ _) | (with_reducible assumption) | (with_reducible refine Below.drew ?_) | ((with_reducible refine balloc ?_ _ ?_); · (first | (simp; done) | (simp; omega) | omega)) | ((with_reducible refine bset ?_ _ ?_); · (first | (simp; done) | (simp; omega) | omega)) | (with_reducible refine bdrewN _ ?_) | ((with_reducible refine bcall ?_ (by assumption) ?_); · (first | (simp; done) | (simp; omega) | omega)))), by show w.heap.size + 1 ≤ (w.alloc (.stringIter s0 0)).heap.size; simp⟩
    case round =>
      obtain ⟨x, A', c', hx, rfl, hown, hit, hBl, hsz⟩ := hrel
      by_cases hlt : x < W
      · have hip := iterPos_of hit
        have hxs : x < s0.size := by rw [hs0.out]; exact hlt
        have hasc := (hd0.out x hxs).2
        have hnx : ∀ ty, (Instr.next (.pointer (some ⟨w.heap.size, 0, none⟩)) true ty).run Try.prog wr = _ := fun ty => Lib.run_next_ascii_at wr w.heap.size s0 x ty hit hxs (by omega)
        have rd2 := rd_iterAt (hr.later hBl (Nat.le_refl _)) hit (x + 1)
        have own2 := ownsRow_iterAt hown (Nat.lt_succ_self _) s0 (x + 1)
        have hit2 : ItAt (wr.iterAt w.heap.size s0 (x + 1)) w.heap.size s0 (x + 1) := Lib.iterAt_heap _ _ _ _ (x + 1) hit
        have hB2 := Lib.below_iterAt hBl (Nat.le_refl _) s0 (x + 1)
        have hsz2 : w.heap.size + 1 ≤ (wr.iterAt w.heap.size s0 (x + 1)).heap.size := by rw [Lib.iterAt_size]; exact hsz
        clear hown hit hBl
        have HIP := Lib.hid hip
        clear hip
        generalize hwi : wr.iterAt w.heap.size s0 (x + 1) = wi at *
        clear hwi
        go_wp2_with fail
        refine (ntSum_any _ _ _ W ss _ _ _ _ x 0 1 n _ rd2 hb rfl rfl (by omega) (by omega) (by omega) (by omega)).mono ?_; rintro e wx ⟨rfl, rfl⟩
        have HE : Hid (linesL ss (x + 1) n true = linesL ss x n true ++ [(rect ss x 0 1 n : Int)]) := by simp [Hid, linesL, List.range_succ]
        generalize hq : (rect ss x 0 1 n : Int) = q at *
        have hc3 : x + 1 ≤ maxLen := by simp only [maxLen]; omega
        go_wp2_with (at_builtin; refine wpList_append_own _ rfl (.tmp 16) (.tmp 24) 29 rfl (w.heap.size + 1) 3 i0 (.int .i64 0) 1 8 Try.underlying29 hi hz0 hz1 hz2 rfl (by decide) _ _ _ rfl (own2.alloc _) ⟨wi.heap.size, 0, none⟩ 1 1 [.int .i64 q] rfl rfl (new1 _ _ _) (int_oneCell [q]) hc3 (by omega) (Nat.le_trans hsz2 (by simp)) ?_)
        intro v' w2 hown' hgrow _
        have hb2 := gb_new (Nat.le_refl _) (hB2.alloc (by omega) (.cells #[.int .i64 q] 3)) hgrow (fun g hg => by have := own2.lt g hg; omega)
        have hsz3 : w.heap.size + 1 ≤ w2.heap.size := by have := hgrow.size; simp at this; omega
        have hit3 : ItAt w2 w.heap.size s0 (x + 1) := by
          have hlt0 : w.heap.size < wi.heap.size := by omega
          refine ((hgrow.block w.heap.size (by simp; omega) (fun e => ?_)).trans (Below.heap_alloc wi _ _ hlt0)).trans hit2
          have := own2.lt w.heap.size e.symm
          omega
        obtain ⟨A2, c2', rfl⟩ := own_slice hown'
        have hip2 := iterPos_of hit3
        have HIP2 := Lib.hid hip2
        clear hgrow own2 hit2 hB2 hip2 hq hc3
        go_wp2
        go_roundw
        case rel => exact ⟨x + 1, A2, c2', by omega, rfl, by rw [HE.out, intCells_append]; exact hown', hit3, hb2, hsz3⟩
        case measure => rw [HIP.out, HIP2.out]; omega
      · have hxs : ¬ x < s0.size := by rw [hs0.out]; exact hlt
        have hnx : ∀ ty, (Instr.next (.pointer (some ⟨w.heap.size, 0, none⟩)) true ty).run Try.prog wr = _ := fun ty => Lib.run_next_end_at wr w.heap.size s0 x ty hit hxs
        go_wp2
        go_ret2
        have : x = W := by omega
        subst this
        exact ⟨A', x, c', rfl, own_base hown (by omega), hBl⟩

/-- the nuts of all, or nothing -/
def allR (ss : List ByteArray) : Int := if nutsB ss then (rect ss 0 0 (nutW ss) ss.length : Nat) else 0
theorem allR_yes {ss : List ByteArray} {W n : Nat} (h : NB ss W n) : allR ss = (rect ss 0 0 W n : Nat) := by
  unfold allR
  rw [h.good, if_pos rfl, h.len, h.headW]
theorem allR_no {ss : List ByteArray} (h : nutsB ss = false) : allR ss = 0 := by
  unfold allR
  rw [h]
  rfl

set_option maxHeartbeats 400000 in
theorem sNutsIn_any (A : Option Addr) (n c : Nat) (ss : List ByteArray) (w : World) (hr : Rd w 1 A n (strCells ss)) :
    Calls Try.prog 20 #[.slice A n c] w fun e w' => e = .returned (.tuple #[.int .i64 (allR ss), .bool (nutsB ss)]) ∧ w = w' := by
  cases hB : nutsB ss
  · rw [allR_no hB]
    go_enter Try.func20, Try.ntmps20
    go_wp2_with fail
    refine (ntGood_any _ _ _ _ _ hr).mono ?_; rintro e w1 ⟨rfl, rfl⟩
    go_wp2
    go_ret2
    exact ⟨rfl, rfl⟩
  · have hb := NB.of hB
    rw [hr.slen] at hb
    rw [allR_yes hb]
    go_enter Try.func20, Try.ntmps20
    go_wp2_with fail
    refine (ntGood_any _ _ _ _ _ hr).mono ?_; rintro e w1 ⟨rfl, rfl⟩
    go_wp2_with fail
    refine (ntAll_any _ _ _ _ ss _ hr hb).mono ?_; rintro e w1 ⟨rfl, rfl⟩
    go_wp2
    go_ret2
    exact ⟨rfl, rfl⟩

theorem sum_take {l : List Int} {k : Nat} (h : k < l.length) : (l.take (k + 1)).sum = (l.take k).sum + l[k] := by
  rw [List.take_succ_eq_append_getElem h, List.sum_append]
  simp
theorem sum_bound {l : List Int} (h : ∀ z ∈ l, 0 ≤ z ∧ z ≤ 1000) : 0 ≤ l.sum ∧ l.sum ≤ 1000 * l.length := by
  induction l with
  | nil => simp
  | cons a l ih =>
    have h1 := h a (by simp)
    have h2 := ih (fun z hz => h z (by simp [hz]))
    simp
    omega

set_option maxHeartbeats 400000 in
theorem sumOf_any (A : Option Addr) (n c : Nat) (l : List Int) (w : World) (hr : Rd w 1 A n (intCells l)) (hn : n ≤ 1000) (hl : ∀ z ∈ l, 0 ≤ z ∧ z ≤ 1000) :
    Calls Try.prog 51 #[.slice A n c] w fun e w' => e = .returned (.int .i64 l.sum) ∧ w = w' := by
  have hll := hr.ilen
  have HLL := Lib.hid hll
  have HL := Lib.hid hl
  clear hll hl
  go_enter Try.func51, Try.ntmps51
  go_wp2
  go_loop [3, 8] (fun s i => ∃ k : Nat, k ≤ n ∧ i = .int .i64 k ∧ s = .int .i64 (l.take k).sum) (fun _ i => n - (intOf i).toNat)
  case atStart => exact ⟨0, Nat.zero_le _, rfl, by simp⟩
  case round =>
    obtain ⟨k, hk, rfl, rfl⟩ := hrel
    by_cases hlt : k < n
    · obtain ⟨b1, o1, rfl, _, hx, p1⟩ := hr.num hlt
      have b2 := sum_bound (l := l.take k) (fun z hz => HL.out z (List.mem_of_mem_take hz))
      have b3 := HL.out _ (List.getElem_mem hx)
      have b4 : (l.take k).length ≤ 1000 := by rw [List.length_take]; omega
      have HS := Lib.hid (sum_take hx)
      generalize (l.take k).sum = S at *
      generalize l[k] = z at *
      go_wp2
      go_round
      case rel => exact ⟨k + 1, by omega, by go_num, by rw [HS.out]⟩
      case measure => simp [intOf]; omega
    · go_wp2
      go_ret
      have : k = n := by omega
      subst this
      exact ⟨ret_int (by rw [List.take_of_length_le (by rw [HLL.out]; exact Nat.le_refl _)]), rfl⟩

theorem lines_small {ss : List ByteArray} {W n : Nat} (h : NB ss W n) (d : Bool) : ∀ z ∈ linesL ss W n d, 0 ≤ z ∧ z ≤ 1000 := by
  have := h.w8
  have := h.h8
  cases d
  · intro z hz
    simp only [linesL, Bool.false_eq_true, if_false, List.mem_map, List.mem_range] at hz
    obtain ⟨i, hi, rfl⟩ := hz
    have := rect_576 h (x := 0) (y := i) (w := W) (h := 1) (by omega) (by omega)
    omega
  · intro z hz
    simp only [linesL, if_true, List.mem_map, List.mem_range] at hz
    obtain ⟨i, hi, rfl⟩ := hz
    have := rect_576 h (x := i) (y := 0) (w := 1) (h := n) (by omega) (by omega)
    omega
theorem sum_rows (ss : List ByteArray) (W n : Nat) : (linesL ss W n false).sum = (rect ss 0 0 W n : Nat) := by
  simp only [linesL, Bool.false_eq_true, if_false]
  induction n with
  | zero => rfl
  | succ n ih =>
    rw [List.range_succ, List.map_append, List.sum_append, ih, rect_succ]
    simp [rect, rs]

set_option maxHeartbeats 400000 in
theorem nutsIn_any (A : Option Addr) (n c : Nat) (ss : List ByteArray) (w : World) (hr : Rd w 1 A n (strCells ss)) :
    Calls Try.prog 21 #[.slice A n c] w fun e w' => e = .returned (.tuple #[.int .i64 (allR ss), .bool (nutsB ss)]) ∧ Below w.heap.size w w' := by
  cases hB : nutsB ss
  · rw [allR_no hB]
    go_enter Try.func21, Try.ntmps21
    go_wp2_with fail
    refine (areNuts_any _ _ _ _ _ hr).mono ?_; rintro e w1 ⟨rfl, rfl⟩
    go_wp2
    go_ret2
    exact ⟨rfl, Below.refl _ _⟩
  · have hb := NB.of hB
    rw [hr.slen] at hb
    rw [allR_yes hb, ← sum_rows]
    have h8 := hb.h8
    have hll := length_linesL ss (nutW ss) n false
    have hsm := lines_small hb false
    generalize hL : linesL ss (nutW ss) n false = L at *
    have HL := Lib.hid hL
    have HLL := Lib.hid hll
    have HSM := Lib.hid hsm
    clear hL hll hsm
    go_enter Try.func21, Try.ntmps21
    go_wp2_with fail
    refine (areNuts_any _ _ _ _ _ hr).mono ?_; rintro e w1 ⟨rfl, rfl⟩
    go_wp2_with fail
    refine (lineNuts_lines _ _ _ _ ss _ _ hr hb).mono ?_; rintro e w1 ⟨A1, n1, c1, rfl, own1, hb1⟩
    rw [HL.out] at own1
    have hn1 : n1 ≤ 1000 := by have h := (Rd.of_own own1).ilen; have h2 := HLL.out; simp at h2; omega
    go_wp2_with fail
    refine (sumOf_any _ _ _ L _ (Rd.of_own own1) hn1 HSM.out).mono ?_; rintro e wx ⟨rfl, rfl⟩
    go_wp2
    go_ret2
    exact ⟨rfl, hb1⟩

end Go.Proofs.Ytbjjpndhfgfedaa
