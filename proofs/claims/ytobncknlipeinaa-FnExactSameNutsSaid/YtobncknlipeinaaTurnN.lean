/-
  Contracts: TurnNuts of the program, ntTurn and TurnNuts of the model.
-/
import Derived.Test.YtobncknlipeinaaNutAt
import Derived.Test.YtobncknlipeinaaSKit
import Derived.Laws.IdiomStrings
import Derived.WalkSmall
import Derived.Outline
import Derived.Lib.OthersKept
namespace Go.Proofs.Ytobncknlipeinaa
open Go.RowKit

/-- a column from below: its first k digits -/
def colL (ss : List ByteArray) (n x k : Nat) : List UInt8 := (List.range k).map fun i => nutByte ss (n - 1 - i) x
def colS (ss : List ByteArray) (n x k : Nat) : ByteArray := ⟨(colL ss n x k).toArray⟩
theorem length_colL (ss : List ByteArray) (n x k : Nat) : (colL ss n x k).length = k := by simp [colL]
theorem size_colS (ss : List ByteArray) (n x k : Nat) : (colS ss n x k).size = k := by
  show (colL ss n x k).toArray.size = k
  simp [colL]
theorem colL_succ (ss : List ByteArray) (n x k : Nat) : colL ss n x (k + 1) = colL ss n x k ++ [nutByte ss (n - 1 - k) x] := by simp [colL, List.range_succ]
theorem colS_succ (ss : List ByteArray) (n x k : Nat) : colS ss n x (k + 1) = colS ss n x k ++ ⟨#[nutByte ss (n - 1 - k) x]⟩ := by
  apply ByteArray.ext
  simp [colS, colL_succ]
theorem extract_one (s : ByteArray) (x : Nat) (h : x < s.size) : s.extract x (x + 1) = ⟨#[s[x]]⟩ := by
  apply ByteArray.ext
  apply Array.ext
  · have h' : x < s.data.size := h
    simp only [ByteArray.data_extract, Array.size_extract, List.size_toArray, List.length_cons, List.length_nil]
    omega
  · intro i h1 h2
    have : i = 0 := by simp at h2; omega
    subst this
    simp
    rfl
/-- the bar turned: W rows -/
def turnL (ss : List ByteArray) (n W : Nat) : List ByteArray := (List.range W).map fun x => colS ss n x n
theorem length_turnL (ss : List ByteArray) (n W : Nat) : (turnL ss n W).length = W := by simp [turnL]
theorem turnL_succ (ss : List ByteArray) (n W : Nat) : turnL ss n (W + 1) = turnL ss n W ++ [colS ss n W n] := by simp [turnL, List.range_succ]

set_option maxRecDepth 100000 in
set_option maxHeartbeats 4000000 in
theorem ntTurn_any (A : Option Addr) (n c W : Nat) (ss : List ByteArray) (w : World) (hr : Rd w 1 A n (strCells ss)) (hb : NB ss W n) :
    Calls Try.prog 35 #[.slice A n c] w fun e w' => ∃ A' n' c', e = .returned (.slice A' n' c') ∧ w'.ownsRow w.heap.size 9 1 (.slice A' n' c') n' (strCells (turnL ss n W)) ∧ Below w.heap.size w w' := by
  obtain ⟨i0, hi, hz0, hz1, hz2⟩ := info_parts str_info
  obtain ⟨b, o, rfl, hbl, s0, p0, hs0, hd0⟩ := hr.nut0 hb
  have hn1 := hb.h1
  have hn8 := hb.h8
  have hW8 := hb.w8
  go_enter Try.func35, Try.ntmps35
  go_wp2
  go_loopw [3] (fun v wr => ∃ (x : Nat) (A' : Option Addr) (c' : Nat), x ≤ W ∧ v = .slice A' x c' ∧ wr.ownsRow (w.heap.size + 1) 9 1 (.slice A' x c') x (strCells (turnL ss n x)) ∧ ItAt wr w.heap.size s0 x ∧ Below w.heap.size w wr ∧ w.heap.size + 1 ≤ wr.heap.size) (fun _ wr => W - wr.iterPos w.heap.size)
  case atStart => exact ⟨0, none, 0, Nat.zero_le _, rfl, World.ownsRow_nil _ _ _ _, by unfold ItAt; show (w.heap.push _)[w.heap.size]? = _; simp, by show Below _ w (w.alloc (.stringIter s0 0)); (repeat (first | (with_reducible exact Below.refl _ _) | (with_reducible assumption) | (with_reducible refine Below.drew ?_) | ((with_reducible refine balloc ?_ _ ?_); · (first | (simp; done) | (simp; omega) | omega)) | ((with_reducible refine bset ?_ _ ?_); · (first | (simp; done) | (simp; omega) | omega)) | (with_reducible refine bdrewN _ ?_) | ((with_reducible refine bcall ?_ (by assumption) ?_); · (first | (simp; done) | (simp; omega) | omega)))), by show w.heap.size + 1 ≤ (w.alloc (.stringIter s0 0)).heap.size; simp⟩
  case round =>
    obtain ⟨x, A', c', hx, rfl, hown, hit, hB, hsz⟩ := hrel
    by_cases hlt : x < W
    · have hip := iterPos_of hit
      have hxs : x < s0.size := by rw [hs0.out]; exact hlt
      have hasc := (hd0.out x hxs).2
      have hnx : ∀ ty, (Instr.next (.pointer (some ⟨w.heap.size, 0, none⟩)) true ty).run Try.prog wr = _ := fun ty => Lib.run_next_ascii_at wr w.heap.size s0 x ty hit hxs (by omega)
      have rd2 := rd_iterAt (hr.later hB (Nat.le_refl _)) hit (x + 1)
      have own2 := ownsRow_iterAt hown (Nat.lt_succ_self _) s0 (x + 1)
      have hit2 : ItAt (wr.iterAt w.heap.size s0 (x + 1)) w.heap.size s0 (x + 1) := Lib.iterAt_heap _ _ _ _ (x + 1) hit
      have hB2 := Lib.below_iterAt hB (Nat.le_refl _) s0 (x + 1)
      have hsz2 : w.heap.size + 1 ≤ (wr.iterAt w.heap.size s0 (x + 1)).heap.size := by rw [Lib.iterAt_size]; exact hsz
      clear hown hit hB
      have HIP := Lib.hid hip
      clear hip
      generalize hwi : wr.iterAt w.heap.size s0 (x + 1) = wi at *
      clear hwi
      go_wp2
      go_loop [5, 6] (fun t i => ∃ k : Nat, k ≤ n ∧ i = .int .i64 ((n : Int) - 1 - k) ∧ t = .string (colS ss n x k)) (fun _ i => (intOf i + 1).toNat)
      case atStart => exact ⟨0, Nat.zero_le _, by go_num, rfl⟩
      case round =>
        obtain ⟨k, hk, rfl, rfl⟩ := hrel
        have hcs := size_colS ss n x k
        by_cases hlk : k < n
        · obtain ⟨s, p, hz, hxs2, c1, c2, hby, _⟩ := rd2.nut hb (y := n - 1 - k) (x := x) (by omega) hlt
          have hex := extract_one s x hxs2
          have HC := Lib.hid (colS_succ ss n x k)
          have HX : Hid (s.extract x (x + 1) = ⟨#[nutByte ss (n - 1 - k) x]⟩) := by rw [hex, hby.out]; rfl
          have hes : (s.extract x (x + 1)).size ≤ 1 := by rw [hex]; exact Nat.le_refl _
          clear hex
          generalize hso : s.extract x (x + 1) = so at *
          have e1 : ((n : Int) - 1 - k).toNat = n - 1 - k := by omega
          go_wp2
          go_round
          case rel => exact ⟨k + 1, by omega, by go_num, by rw [HC.out, HX.out]⟩
          case measure => simp [intOf]; omega
        · have hkn : k = n := by omega
          subst hkn
          generalize hcv : colS ss k x k = cv at *
          have HCV := Lib.hid hcv
          clear hcv hcs
          go_wp2_with (at_builtin; refine wpList_append_own _ rfl (.tmp 31) (.tmp 33) 34 rfl (w.heap.size + 1) 9 i0 (.string ByteArray.empty) 1 16 Try.underlying34 hi hz0 hz1 hz2 rfl (by decide) _ _ _ rfl (own2.alloc _) ⟨wi.heap.size, 0, none⟩ 1 1 [.string cv] rfl rfl ?c1 ?c2 ?c3 ?c4 ?c5 ?_)
          case c2 => first | rfl | exact str_oneCell [cv]
          case c3 => simp only [maxLen]; omega
          case c4 => omega
          case c5 => first | omega | (simp; omega)
          · intro v' w2 hown' hgrow _
            have hb2 := gb_new (Nat.le_refl _) (hB2.alloc (by omega) (.cells #[.string cv] 9)) hgrow (fun g hg => by have := own2.lt g hg; omega)
            have hsz3 : w.heap.size + 1 ≤ w2.heap.size := by have := hgrow.size; simp at this; omega
            have hit3 : ItAt w2 w.heap.size s0 (x + 1) := by
              have hlt0 : w.heap.size < wi.heap.size := by omega
              refine ((hgrow.block w.heap.size (by simp; omega) (fun e => ?_)).trans (Below.heap_alloc wi _ _ hlt0)).trans hit2
              have := own2.lt w.heap.size e.symm
              omega
            obtain ⟨A2, c2', rfl⟩ := own_slice hown'
            have hip2 := iterPos_of hit3
            clear hgrow own2 hit2 hB2
            go_wp2
            go_roundw
            case rel => exact ⟨x + 1, A2, c2', by omega, rfl, by rw [turnL_succ, strCells_append, HCV.out]; exact hown', hit3, hb2, hsz3⟩
            case measure => rw [HIP.out, hip2]; omega
    · have hxs : ¬ x < s0.size := by rw [hs0.out]; exact hlt
      have hnx : ∀ ty, (Instr.next (.pointer (some ⟨w.heap.size, 0, none⟩)) true ty).run Try.prog wr = _ := fun ty => Lib.run_next_end_at wr w.heap.size s0 x ty hit hxs
      go_wp2
      go_ret
      have : x = W := by omega
      subst this
      exact ⟨A', x, c', rfl, own_base hown (by omega), hB⟩

/-- the bar turned, or nothing -/
def turnR (ss : List ByteArray) : List ByteArray := if nutsB ss then turnL ss ss.length (nutW ss) else []
theorem turnR_yes {ss : List ByteArray} {W n : Nat} (h : NB ss W n) : turnR ss = turnL ss n W := by
  unfold turnR
  rw [h.good, if_pos rfl, h.len, h.headW]
theorem turnR_no {ss : List ByteArray} (h : nutsB ss = false) : turnR ss = [] := by
  unfold turnR
  rw [h]
  rfl
theorem length_turnR (ss : List ByteArray) : (turnR ss).length ≤ 8 := by
  unfold turnR
  split
  · rename_i h
    rw [length_turnL]
    exact (NB.of h).w8
  · simp

set_option maxRecDepth 100000 in
set_option maxHeartbeats 1000000 in
theorem sTurnNuts_any (A : Option Addr) (n c : Nat) (ss : List ByteArray) (w : World) (hr : Rd w 1 A n (strCells ss)) :
    Calls Try.prog 16 #[.slice A n c] w fun e w' => ∃ A' n' c', e = .returned (.tuple #[.slice A' n' c', .bool (nutsB ss)]) ∧ w'.ownsRow w.heap.size 9 1 (.slice A' n' c') n' (strCells (turnR ss)) ∧ Below w.heap.size w w' := by
  cases hB : nutsB ss
  · rw [turnR_no hB]
    go_enter Try.func16, Try.ntmps16
    go_wp2_with fail
    refine (ntGood_any _ _ _ _ _ hr).mono ?_; rintro e w1 ⟨rfl, rfl⟩
    go_wp2
    go_ret2
    exact ⟨none, 0, 0, rfl, World.ownsRow_nil _ _ _ _, Below.refl _ _⟩
  · have hb := NB.of hB
    rw [hr.slen] at hb
    rw [turnR_yes hb]
    go_enter Try.func16, Try.ntmps16
    go_wp2_with fail
    refine (ntGood_any _ _ _ _ _ hr).mono ?_; rintro e w1 ⟨rfl, rfl⟩
    go_wp2_with fail
    refine (ntTurn_any _ _ _ _ ss _ hr hb).mono ?_; rintro e w1 ⟨A1, n1, c1, rfl, own1, hb1⟩
    go_wp2
    go_ret2
    exact ⟨A1, n1, c1, rfl, own1, hb1⟩

end Go.Proofs.Ytobncknlipeinaa
