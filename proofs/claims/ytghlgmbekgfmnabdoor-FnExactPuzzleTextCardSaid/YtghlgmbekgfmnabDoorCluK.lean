/-
  Contracts: the laws' size, copy, comparison, marks of slices of clues.
-/
import Derived.Test.YtghlgmbekgfmnabDoorBoxW
import Derived.StillTailTactics
namespace Go.Proofs.YtghlgmbekgfmnabDoor
open Go.RowKit
set_option linter.unusedVariables false

abbrev bx3 (x y z : Int) : Value := .agg #[.int .i64 x, .int .i64 y, .int .i64 z]

set_option maxHeartbeats 400000 in
theorem toClue_any (x y z : Int) (w : World) :
    Calls Tryd.prog 60 #[bx3 x y z] w fun e w' => e = .returned (bx3 x y z) ∧ Below w.heap.size w w' := by
  go_enter Tryd.func60, Tryd.ntmps60
  go_wp2
  refine bodyPost_ret (v := bx3 x y z) (by simp [results, Tryd.results60, go_sem]) rfl ⟨rfl, ?_⟩
  (repeat (first | (with_reducible exact Below.refl _ _) | (with_reducible assumption) | (with_reducible refine Below.drew ?_) | ((with_reducible refine balloc ?_ _ ?_); · (first | (simp; done) | (simp; omega) | omega)) | ((with_reducible refine bset ?_ _ ?_); · (first | (simp; done) | (simp; omega) | omega)) | (with_reducible refine bdrewN _ ?_) | ((with_reducible refine bcall ?_ (by assumption) ?_); · (first | (simp; done) | (simp; omega) | omega))))

theorem clue_info : (Tryd.prog.info? 70).map (fun i => (i.zero, i.size, i.bytes)) = some (some (bx3 0 0 0), 3, 24) := by kernel_rfl
def eqX (p q : Int × Int × Int) : Bool := decide (p = q)

set_option maxHeartbeats 1000000 in
theorem eqClue_any (x y z a b c : Int) (w : World) :
    Calls Tryd.prog 62 #[bx3 x y z, bx3 a b c] w fun e w' => e = .returned (.bool (eqX (x, y, z) (a, b, c))) ∧ Below w.heap.size w w' := by
  by_cases h1 : (x == a) = true
  · obtain rfl : x = a := by simpa using h1
    by_cases h2 : (y == b) = true
    · obtain rfl : y = b := by simpa using h2
      by_cases h3 : (z == c) = true
      · obtain rfl : z = c := by simpa using h3
        go_enter Tryd.func62, Tryd.ntmps62
        go_wp2
        go_ret
        exact ⟨ret_bool (by simp [eqX]), by (repeat (first | (with_reducible exact Below.refl _ _) | (with_reducible assumption) | (with_reducible refine Below.drew ?_) | ((with_reducible refine balloc ?_ _ ?_); · (first | (simp; done) | (simp; omega) | omega)) | ((with_reducible refine bset ?_ _ ?_); · (first | (simp; done) | (simp; omega) | omega)) | (with_reducible refine bdrewN _ ?_) | ((with_reducible refine bcall ?_ (by assumption) ?_); · (first | (simp; done) | (simp; omega) | omega))))⟩
      · have h4 : (z == c) = false := by simpa using h3
        have h5 : (z != c) = true := by simpa using h3
        go_enter Tryd.func62, Tryd.ntmps62
        go_wp2
        go_ret
        exact ⟨ret_bool (by simp [eqX]; simpa using h3), by (repeat (first | (with_reducible exact Below.refl _ _) | (with_reducible assumption) | (with_reducible refine Below.drew ?_) | ((with_reducible refine balloc ?_ _ ?_); · (first | (simp; done) | (simp; omega) | omega)) | ((with_reducible refine bset ?_ _ ?_); · (first | (simp; done) | (simp; omega) | omega)) | (with_reducible refine bdrewN _ ?_) | ((with_reducible refine bcall ?_ (by assumption) ?_); · (first | (simp; done) | (simp; omega) | omega))))⟩
    · have h4 : (y == b) = false := by simpa using h2
      have h5 : (y != b) = true := by simpa using h2
      go_enter Tryd.func62, Tryd.ntmps62
      go_wp2
      go_ret
      exact ⟨ret_bool (by simp [eqX]; intro h; exact absurd h (by simpa using h2)), by (repeat (first | (with_reducible exact Below.refl _ _) | (with_reducible assumption) | (with_reducible refine Below.drew ?_) | ((with_reducible refine balloc ?_ _ ?_); · (first | (simp; done) | (simp; omega) | omega)) | ((with_reducible refine bset ?_ _ ?_); · (first | (simp; done) | (simp; omega) | omega)) | (with_reducible refine bdrewN _ ?_) | ((with_reducible refine bcall ?_ (by assumption) ?_); · (first | (simp; done) | (simp; omega) | omega))))⟩
  · have h4 : (x == a) = false := by simpa using h1
    have h5 : (x != a) = true := by simpa using h1
    go_enter Tryd.func62, Tryd.ntmps62
    go_wp2
    go_ret
    exact ⟨ret_bool (by simp [eqX]; intro h; exact absurd h (by simpa using h1)), by (repeat (first | (with_reducible exact Below.refl _ _) | (with_reducible assumption) | (with_reducible refine Below.drew ?_) | ((with_reducible refine balloc ?_ _ ?_); · (first | (simp; done) | (simp; omega) | omega)) | ((with_reducible refine bset ?_ _ ?_); · (first | (simp; done) | (simp; omega) | omega)) | (with_reducible refine bdrewN _ ?_) | ((with_reducible refine bcall ?_ (by assumption) ?_); · (first | (simp; done) | (simp; omega) | omega))))⟩

set_option maxRecDepth 100000 in
set_option maxHeartbeats 1000000 in
theorem eqClueS_any (A C : Option Addr) (n c m d : Nat) (xs ys : List (Int × Int × Int)) (w : World) (ha : Rd w 3 A n (boxCells xs)) (hb : Rd w 3 C m (boxCells ys)) (hn : n ≤ 4000000000) (hm : m ≤ 4000000000) :
    Calls Tryd.prog 41 #[.slice A n c, .slice C m d] w fun e w' => e = .returned (.bool (decide (xs = ys))) ∧ Below w.heap.size w w' := by
  have lx : xs.length = n := by have := ha.1; rw [length_boxCells] at this; omega
  have ly : ys.length = m := by have := hb.1; rw [length_boxCells] at this; omega
  by_cases hnm : n = m
  · subst hnm
    have Lx := Lib.hid lx
    have Ly := Lib.hid ly
    clear lx ly
    go_enter Tryd.func41, Tryd.ntmps41
    go_wp2
    go_loopw [5] (fun i wr => ∃ k : Nat, k ≤ n ∧ i = .int .i64 k ∧ Hid (xs.take k = ys.take k) ∧ Below w.heap.size w wr) (fun i _ => n - (intOf i).toNat)
    case atStart => exact ⟨0, Nat.zero_le _, rfl, by simp [Hid], Below.refl _ _⟩
    case round =>
      obtain ⟨k, hk, rfl, hT, hB⟩ := hrel
      by_cases hlt : k < n
      · obtain ⟨b1, o1, rfl, l1, hx, p1, p2, p3⟩ := (ha.later hB (Nat.le_refl _)).box hlt
        obtain ⟨b2, o2, rfl, l2, hy, q1, q2, q3⟩ := (hb.later hB (Nat.le_refl _)).box hlt
        go_wp2
        go_still_tail 8, (by kernel_rfl)
        change wpList _ _ _ _ _ wr.drew
        have hB2 := hB.drew
        generalize wr.drew = w2 at hB2 ⊢
        have sB2 := hB2.size
        clear p1 p2 p3 q1 q2 q3 l1 l2 hB
        cases hd : eqX ((xs[k]).1, (xs[k]).2.1, (xs[k]).2.2) ((ys[k]).1, (ys[k]).2.1, (ys[k]).2.2)
        ·
          go_wp2_with fail
          refine (eqClue_any _ _ _ _ _ _ _).mono ?_; rintro e w1 ⟨rfl, hb1⟩; have s1 := hb1.size; obtain ⟨hc1, hf1⟩ := bcell hb1
          go_wp2
          go_ret
          exact ⟨ret_bool (by simp; intro h; subst h; simp [eqX] at hd), by (repeat (first | (with_reducible exact Below.refl _ _) | (with_reducible assumption) | (with_reducible refine Below.drew ?_) | ((with_reducible refine balloc ?_ _ ?_); · (first | (simp; done) | (simp; omega) | omega)) | ((with_reducible refine bset ?_ _ ?_); · (first | (simp; done) | (simp; omega) | omega)) | (with_reducible refine bdrewN _ ?_) | ((with_reducible refine bcall ?_ (by assumption) ?_); · (first | (simp; done) | (simp; omega) | omega))))⟩
        ·
          go_wp2_with fail
          refine (eqClue_any _ _ _ _ _ _ _).mono ?_; rintro e w1 ⟨rfl, hb1⟩; have s1 := hb1.size; obtain ⟨hc1, hf1⟩ := bcell hb1
          go_wp2
          go_roundw
          case rel => exact ⟨k + 1, by omega, by go_num, (by have h := hT.out; simp only [Hid]; rw [List.take_succ_eq_append_getElem hx, List.take_succ_eq_append_getElem hy, h]; simp [eqX] at hd; congr 2; exact Prod.ext hd.1 (Prod.ext hd.2.1 hd.2.2)), by (repeat (first | (with_reducible exact Below.refl _ _) | (with_reducible assumption) | (with_reducible refine Below.drew ?_) | ((with_reducible refine balloc ?_ _ ?_); · (first | (simp; done) | (simp; omega) | omega)) | ((with_reducible refine bset ?_ _ ?_); · (first | (simp; done) | (simp; omega) | omega)) | (with_reducible refine bdrewN _ ?_) | ((with_reducible refine bcall ?_ (by assumption) ?_); · (first | (simp; done) | (simp; omega) | omega))))⟩
          case measure => simp [intOf]; omega
      · go_wp2
        go_ret
        have : k = n := by omega
        subst this
        have lx := Lx.out
        have ly := Ly.out
        exact ⟨ret_bool (by have h := hT.out; rw [List.take_of_length_le (by omega), List.take_of_length_le (by omega)] at h; simp [h]), hB⟩
  · have h1 : ((n : Int) == (m : Int)) = false := by simp; omega
    have h2 : ((n : Int) != (m : Int)) = true := by simp; omega
    go_enter Tryd.func41, Tryd.ntmps41
    go_wp2
    go_ret
    exact ⟨ret_bool (by simp; intro h; subst h; omega), Below.refl _ _⟩

theorem eqClueS_same (A C : Option Addr) (n c m d : Nat) (xs : List (Int × Int × Int)) (w : World) (ha : Rd w 3 A n (boxCells xs)) (hb : Rd w 3 C m (boxCells xs)) (hn : n ≤ 4000000000) (hm : m ≤ 4000000000) :
    Calls Tryd.prog 41 #[.slice A n c, .slice C m d] w fun e w' => e = .returned (.bool true) ∧ Below w.heap.size w w' :=
  (eqClueS_any A C n c m d xs xs w ha hb hn hm).mono fun _ _ ⟨he, hB⟩ => ⟨by rw [he]; simp, hB⟩

theorem gbX_trans {w w' w'' : World} {row : Option Nat} (h : w.grownBy w' row) (k : w'.grownBy w'' row) : w.grownBy w'' row := ⟨k.os.trans h.os, k.tape.trans h.tape, k.output.trans h.output, Nat.le_trans h.size k.size, fun i hi hr => (k.block i (Nat.lt_of_lt_of_le hi h.size) hr).trans (h.block i hi hr)⟩

set_option maxRecDepth 100000 in
set_option maxHeartbeats 1000000 in
theorem markClueS_g (A : Option Addr) (n c B : Nat) (k0 : Int) (xs : List (Int × Int × Int)) (w : World) (ho : w.ownsRow B 70 3 (.slice A n c) n (boxCells xs)) (hn : n ≤ 4000000000) (h0 : 0 ≤ k0) (h1 : k0 ≤ 4000000000) :
    Calls Tryd.prog 44 #[.slice A n c, .int .i64 k0] w fun e w' => e = .returned (.int .i64 (k0 + 3 * (n : Int))) ∧ w'.ownsRow B 70 3 (.slice A n c) n (boxCells (marks3 k0 n)) ∧ Below B w w' ∧ w.grownBy w' (Value.slice A n c).ownBlock := by
  have lx : xs.length = n := by have := ho.1; rw [length_boxCells] at this; omega
  have Lx := Lib.hid lx
  clear lx
  go_enter Tryd.func44, Tryd.ntmps44
  go_wp2
  go_loopw [1, 5] (fun q i wr => ∃ (k : Nat) (l : List (Int × Int × Int)), k ≤ n ∧ i = .int .i64 k ∧ q = .int .i64 (k0 + 3 * (k : Int)) ∧ l.length = n ∧ wr.ownsRow B 70 3 (.slice A n c) n (boxCells l) ∧ Hid (l.take k = (marks3 k0 n).take k) ∧ Below B w wr ∧ w.grownBy wr (Value.slice A n c).ownBlock) (fun _ i _ => n - (intOf i).toNat)
  case atStart => exact ⟨0, xs, Nat.zero_le _, rfl, by simp, Lx.out, ho, by simp [Hid], Below.refl _ _, World.grownBy.refl _ _⟩
  case round =>
    obtain ⟨k, l, hk, rfl, rfl, hl, hown, hT, hB, hG⟩ := hrel
    have Hl := Lib.hid hl
    clear hl
    by_cases hlt : k < n
    · obtain ⟨g, rfl, hg1, hg2⟩ := own_at hown (by omega)
      obtain ⟨b1, o1, e1, _, hx, p1, p2, p3⟩ := (Rd.of_own hown).box hlt
      simp only [Option.some.injEq, Addr.mk.injEq, and_true] at e1
      obtain ⟨rfl, rfl⟩ := e1
      have f1 := hown.frozenAt (k * 3)
      have f2 := hown.frozenAt (k * 3 + 1)
      have f3 := hown.frozenAt (k * 3 + 2)
      have sa := hown.stored (k * 3) (.int .i64 (k0 + 3 * (k : Int)))
      have st1 := sa.1
      have sb := st1.stored (k * 3 + 1) (.int .i64 (k0 + 3 * (k : Int) + 1))
      have st2 := sb.1
      have sc := st2.stored (k * 3 + 2) (.int .i64 (k0 + 3 * (k : Int) + 1 + 1))
      have st3 := sc.1
      have SG := Lib.hid (gbX_trans (gbX_trans (gbX_trans hG sa.2) sb.2) sc.2)
      rw [set_boxCells _ _ hx] at st3
      have ST := Lib.hid st3
      clear st1 st2 st3 sa sb sc hG
      simp only [Nat.zero_add] at p1 p2 p3
      go_wp2
      go_roundw
      case rel =>
        refine ⟨k + 1, l.set k (k0 + 3 * (k : Int), k0 + 3 * (k : Int) + 1, k0 + 3 * (k : Int) + 1 + 1), by omega, by go_num, ?_, by simpa using Hl.out, by simpa using ST.out, ?_, by (repeat (first | (with_reducible exact Below.refl _ _) | (with_reducible assumption) | (with_reducible refine Below.drew ?_) | ((with_reducible refine balloc ?_ _ ?_); · (first | (simp; done) | (simp; omega) | omega)) | ((with_reducible refine bset ?_ _ ?_); · (first | (simp; done) | (simp; omega) | omega)) | (with_reducible refine bdrewN _ ?_) | ((with_reducible refine bcall ?_ (by assumption) ?_); · (first | (simp; done) | (simp; omega) | omega)))), SG.out⟩
        · congr 1; omega
        · have h := hT.out
          have hm : k < (marks3 k0 n).length := by rw [length_marks3]; exact hlt
          simp only [Hid]
          rw [List.take_succ_eq_append_getElem (by simpa using hx), List.take_succ_eq_append_getElem hm, List.take_set_of_le (Nat.le_refl k), h, marks3_at]
          simp
      case measure => simp [intOf]; omega
    · go_wp2
      go_ret
      have : k = n := by omega
      subst this
      have h := hT.out
      rw [List.take_of_length_le (by rw [Hl.out]; omega), List.take_of_length_le (by rw [length_marks3]; omega)] at h
      subst h
      exact ⟨rfl, hown, hB, hG⟩

set_option maxRecDepth 100000 in
set_option maxHeartbeats 1000000 in
theorem heldClueS_any (A : Option Addr) (n c : Nat) (k0 : Int) (w : World) (ho : Rd w 3 A n (boxCells (marks3 k0 n))) (hn : n ≤ 4000000000) (h0 : 0 ≤ k0) (h1 : k0 ≤ 4000000000) :
    Calls Tryd.prog 45 #[.slice A n c, .int .i64 k0] w fun e w' => e = .returned (.int .i64 (k0 + 3 * (n : Int))) ∧ w = w' := by
  go_enter Tryd.func45, Tryd.ntmps45
  go_wp2
  go_loop [1, 5] (fun q i => ∃ k : Nat, k ≤ n ∧ i = .int .i64 k ∧ q = .int .i64 (k0 + 3 * (k : Int))) (fun _ i => n - (intOf i).toNat)
  case atStart => exact ⟨0, Nat.zero_le _, rfl, by simp⟩
  case round =>
    obtain ⟨k, hk, rfl, rfl⟩ := hrel
    by_cases hlt : k < n
    · obtain ⟨b1, o1, rfl, l1, hx, p1, p2, p3⟩ := ho.box hlt
      rw [marks3_at] at p1 p2 p3
      go_wp2
      go_round
      case rel => exact ⟨k + 1, by omega, by go_num, by congr 1; omega⟩
      case measure => simp [intOf]; omega
    · go_wp2
      go_ret
      have : k = n := by omega
      subst this
      exact ⟨rfl, rfl⟩

theorem take_set3 (cs : List Value) (m : Nat) (a b c : Value) (h : m + 3 ≤ cs.length) : (((cs.set m a).set (m + 1) b).set (m + 2) c).take (m + 3) = cs.take m ++ [a, b, c] := by
  apply List.ext_getElem?
  intro j
  simp only [List.getElem?_take, List.getElem?_append, List.getElem?_set, List.length_set, List.length_take, Nat.min_eq_left (show m ≤ cs.length by omega)]
  by_cases h1 : j < m
  · rw [if_pos (by omega), if_neg (by omega), if_neg (by omega), if_neg (by omega), if_pos h1, if_pos h1]
  · rw [if_neg h1]
    rcases (show j = m ∨ j = m + 1 ∨ j = m + 2 ∨ m + 3 ≤ j by omega) with rfl | rfl | rfl | h4
    · rw [if_pos (by omega), if_neg (by omega), if_neg (by omega), if_pos rfl, if_pos (by omega)]; simp
    · rw [if_pos (by omega), if_neg (by omega), if_pos rfl, if_pos (by omega)]; simp
    · rw [if_pos (by omega), if_pos rfl, if_pos (by omega)]; simp
    · rw [if_neg (by omega)]
      rw [List.getElem?_eq_none (by simp; omega)]

set_option maxHeartbeats 400000 in
theorem szClueS_any (A : Option Addr) (n c : Nat) (w : World) (hn : n ≤ 9223372036854775807) :
    Calls Tryd.prog 36 #[.slice A n c, .int .i64 1048576] w fun e w' => e = .returned (.int .i64 (if n ≤ 1048576 then 1048576 - (n : Int) else -1)) ∧ w = w' := by
  by_cases h : n ≤ 1048576
  · rw [if_pos h]
    go_enter Tryd.func36, Tryd.ntmps36
    go_wp2
    go_ret
    exact ⟨rfl, rfl⟩
  · rw [if_neg h]
    go_enter Tryd.func36, Tryd.ntmps36
    go_wp2
    go_ret
    exact ⟨rfl, rfl⟩
theorem szClueS_yes (A : Option Addr) (n c : Nat) (w : World) (hn : n ≤ 1048576) :
    Calls Tryd.prog 36 #[.slice A n c, .int .i64 1048576] w fun e w' => e = .returned (.int .i64 (1048576 - (n : Int))) ∧ w = w' :=
  (szClueS_any A n c w (by omega)).mono fun e w' ⟨he, hw⟩ => ⟨by rw [he, if_pos hn], hw⟩
theorem szClueS_no (A : Option Addr) (n c : Nat) (w : World) (hm : n ≤ maxLen) (hn : ¬ n ≤ 1048576) :
    Calls Tryd.prog 36 #[.slice A n c, .int .i64 1048576] w fun e w' => e = .returned (.int .i64 (-1)) ∧ w = w' :=
  (szClueS_any A n c w (by unfold maxLen at hm; omega)).mono fun e w' ⟨he, hw⟩ => ⟨by rw [he, if_neg hn], hw⟩

set_option maxRecDepth 100000 in
set_option maxHeartbeats 1000000 in
theorem toClueS_any (A : Option Addr) (n c : Nat) (xs : List (Int × Int × Int)) (w : World) (hr : Rd w 3 A n (boxCells xs)) (hn : n ≤ 1048576) :
    Calls Tryd.prog 39 #[.slice A n c] w fun e w' => ∃ g, e = .returned (.slice (some ⟨g, 0, none⟩) n n) ∧ w'.ownsRow w.heap.size 70 3 (.slice (some ⟨g, 0, none⟩) n n) n (boxCells xs) ∧ Below w.heap.size w w' := by
  obtain ⟨i0, hi, hz0, hz1, hz2⟩ := info_parts clue_info
  go_enter Tryd.func39, Tryd.ntmps39
  go_wp2_with (at_make; refine wpList_make_full _ rfl (.tmp 6) (.tmp 6) 39 rfl w.heap.size 70 i0 (bx3 0 0 0) 3 Tryd.underlying39 hi hz0 hz1 .i64 .i64 _ _ n rfl rfl rfl rfl ?b2 ?b3 (Nat.le_refl _) ?_)
  case b2 => rw [hz2]; omega
  case b3 => simp only [maxLen]; omega
  · intro w1 hown hgrow
    have hb1 : Below w.heap.size w w1 := (Below.refl _ _).grown hgrow (Nat.le_refl _) (fun k hk => by cases hk)
    have sw1 := hb1.size
    have hxl : xs.length = n := by have := hr.1; rw [length_boxCells] at this; omega
    have HXL := Lib.hid hxl
    clear hgrow hxl
    go_wp2
    go_loopw [4] (fun i wr => ∃ (k : Nat) (cs : List Value), k ≤ n ∧ i = .int .i64 k ∧ wr.ownsRow w.heap.size 70 3 (.slice (some ⟨w.heap.size, 0, none⟩) n n) n cs ∧ Hid (cs.take (k * 3) = boxCells (xs.take k)) ∧ Below w.heap.size w wr) (fun i _ => n - (intOf i).toNat)
    case atStart => exact ⟨0, _, Nat.zero_le _, rfl, hown, by simp [Hid, boxCells], hb1⟩
    case round =>
      clear hown
      obtain ⟨k, cs, hk, rfl, hown, hT, hB⟩ := hrel
      have sB := hB.size
      by_cases hlt : k < n
      · obtain ⟨b, o, rfl, hbl, hx, p1, p2, p3⟩ := (hr.later hB (Nat.le_refl _)).box hlt
        generalize hq : xs[k] = q at *
        obtain ⟨p, t, z⟩ := q
        simp only at p1 p2 p3
        have HQ := Lib.hid hq
        clear hq
        go_wp2_with fail
        refine (toClue_any _ _ _ _).mono ?_; rintro e w3 ⟨rfl, hb3⟩
        have s3 := hb3.size
        have own3 := own_later hown hb3 (Nat.le_refl _)
        have lcs : cs.length = n * 3 := own3.1
        have hgl := own3.lt w.heap.size (by simp [Value.ownBlock])
        have a0 := own3.cellAt (k * 3) (by omega)
        have a1 := own3.cellAt (k * 3 + 1) (by omega)
        have a2 := own3.cellAt (k * 3 + 2) (by omega)
        rw [List.getElem?_eq_getElem (by omega)] at a0 a1 a2
        have f0 := own3.frozenAt (k * 3)
        have f1 := own3.frozenAt (k * 3 + 1)
        have f2 := own3.frozenAt (k * 3 + 2)
        have st := ((own3.stored (k * 3) (.int .i64 p)).1.stored (k * 3 + 1) (.int .i64 t)).1.stored (k * 3 + 2) (.int .i64 z)
        have ST := Lib.hid st.1
        have HT := Lib.hid (take_set3 cs (k * 3) (.int .i64 p) (.int .i64 t) (.int .i64 z) (by omega))
        have LCS := Lib.hid lcs
        generalize cs[k * 3] = v0 at a0
        generalize cs[k * 3 + 1] = v1 at a1
        generalize cs[k * 3 + 2] = v2 at a2
        clear st own3 hown p1 p2 p3 lcs
        go_wp2
        go_roundw
        case rel =>
          refine ⟨k + 1, _, by omega, by go_num, ST.out, ?_, by (repeat (first | (with_reducible exact Below.refl _ _) | (with_reducible assumption) | (with_reducible refine Below.drew ?_) | ((with_reducible refine balloc ?_ _ ?_); · (first | (simp; done) | (simp; omega) | omega)) | ((with_reducible refine bset ?_ _ ?_); · (first | (simp; done) | (simp; omega) | omega)) | (with_reducible refine bdrewN _ ?_) | ((with_reducible refine bcall ?_ (by assumption) ?_); · (first | (simp; done) | (simp; omega) | omega))))⟩
          have h := hT.out
          have h2 := HT.out
          simp only [Hid]
          rw [show (k + 1) * 3 = k * 3 + 3 by omega, h2, h, List.take_succ_eq_append_getElem hx, HQ.out, boxCells_append]
          rfl
        case measure => simp [intOf]; omega
      · go_wp2
        go_ret
        have hkn : k = n := by omega
        subst hkn
        have h := hT.out
        rw [List.take_of_length_le (by rw [hown.1]; exact Nat.le_refl _), List.take_of_length_le (by rw [HXL.out]; exact Nat.le_refl _)] at h
        subst h
        exact ⟨w.heap.size, rfl, hown, hB⟩

end Go.Proofs.YtghlgmbekgfmnabDoor
