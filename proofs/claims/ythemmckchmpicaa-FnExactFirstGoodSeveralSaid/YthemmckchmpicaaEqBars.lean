/-
  Contracts: the laws' comparison, marking and holding of slices of bars.
-/
import Derived.Test.YthemmckchmpicaaWords
import Derived.StillTailTactics
namespace Go.Proofs.Ythemmckchmpicaa
open Go.RowKit

set_option maxRecDepth 100000 in
set_option maxHeartbeats 1000000 in
theorem eqBarS_any (A C : Option Addr) (n c m d : Nat) (xs ys : List (Int × Int)) (w : World) (ha : Rd w 2 A n (pairCells xs)) (hb : Rd w 2 C m (pairCells ys)) (hn : n ≤ 4000000000) (hm : m ≤ 4000000000) :
    Calls Try.prog 19 #[.slice A n c, .slice C m d] w fun e w' => e = .returned (.bool (decide (xs = ys))) ∧ Below w.heap.size w w' := by
  have lx : xs.length = n := by have := ha.1; rw [length_pairCells] at this; omega
  have ly : ys.length = m := by have := hb.1; rw [length_pairCells] at this; omega
  by_cases hnm : n = m
  · subst hnm
    have Lx := Lib.hid lx
    have Ly := Lib.hid ly
    clear lx ly
    go_enter Try.func19, Try.ntmps19
    go_wp2
    go_loopw [5] (fun i wr => ∃ k : Nat, k ≤ n ∧ i = .int .i64 k ∧ Hid (xs.take k = ys.take k) ∧ Below w.heap.size w wr) (fun i _ => n - (intOf i).toNat)
    case atStart => exact ⟨0, Nat.zero_le _, rfl, by simp [Hid], Below.refl _ _⟩
    case round =>
      obtain ⟨k, hk, rfl, hT, hB⟩ := hrel
      by_cases hlt : k < n
      · obtain ⟨b1, o1, rfl, l1, hx, p1, p2⟩ := (ha.later hB (Nat.le_refl _)).pair hlt
        obtain ⟨b2, o2, rfl, l2, hy, q1, q2⟩ := (hb.later hB (Nat.le_refl _)).pair hlt
        go_wp2
        go_still_tail 8, (by kernel_rfl)
        change wpList _ _ _ _ _ wr.drew
        have hB2 := hB.drew
        generalize wr.drew = w2 at hB2 ⊢
        have sB2 := hB2.size
        clear p1 p2 q1 q2 l1 l2 hB
        cases hd : eqP ((xs[k]).1, (xs[k]).2) ((ys[k]).1, (ys[k]).2)
        ·
          go_wp2_with fail
          refine (eqBar_any _ _ _ _ _).mono ?_; rintro e w1 ⟨rfl, hb1⟩; have s1 := hb1.size; obtain ⟨hc1, hf1⟩ := bcell hb1
          go_wp2
          go_ret
          exact ⟨ret_bool (by simp; intro h; subst h; simp [eqP] at hd), by (repeat (first | (with_reducible exact Below.refl _ _) | (with_reducible assumption) | (with_reducible refine Below.drew ?_) | ((with_reducible refine balloc ?_ _ ?_); · (first | (simp; done) | (simp; omega) | omega)) | ((with_reducible refine bset ?_ _ ?_); · (first | (simp; done) | (simp; omega) | omega)) | (with_reducible refine bdrewN _ ?_) | ((with_reducible refine bcall ?_ (by assumption) ?_); · (first | (simp; done) | (simp; omega) | omega))))⟩
        ·
          go_wp2_with fail
          refine (eqBar_any _ _ _ _ _).mono ?_; rintro e w1 ⟨rfl, hb1⟩; have s1 := hb1.size; obtain ⟨hc1, hf1⟩ := bcell hb1
          go_wp2
          go_roundw
          case rel => exact ⟨k + 1, by omega, by go_num, (by have h := hT.out; simp only [Hid]; rw [List.take_succ_eq_append_getElem hx, List.take_succ_eq_append_getElem hy, h]; simp [eqP] at hd; congr 2; exact Prod.ext hd.1 hd.2), by (repeat (first | (with_reducible exact Below.refl _ _) | (with_reducible assumption) | (with_reducible refine Below.drew ?_) | ((with_reducible refine balloc ?_ _ ?_); · (first | (simp; done) | (simp; omega) | omega)) | ((with_reducible refine bset ?_ _ ?_); · (first | (simp; done) | (simp; omega) | omega)) | (with_reducible refine bdrewN _ ?_) | ((with_reducible refine bcall ?_ (by assumption) ?_); · (first | (simp; done) | (simp; omega) | omega))))⟩
          case measure => simp [intOf]; omega
      · go_wp2
        go_ret
        have : k = n := by omega
        subst this
        have lx := Lx.out
        have ly := Ly.out
        exact ⟨ret_bool (by have h := hT.out; rw [List.take_of_length_le (by omega), List.take_of_length_le (by omega)] at h; simp [h]), hB⟩
  · have h1 : ((n : Int) == (m : Int)) = false := by simp; omega
    have h2 : ((n : Int) != (m : Int)) = true := by simp; omega
    go_enter Try.func19, Try.ntmps19
    go_wp2
    go_ret
    exact ⟨ret_bool (by simp; intro h; subst h; omega), Below.refl _ _⟩

theorem eqBarS_same (A C : Option Addr) (n c m d : Nat) (xs : List (Int × Int)) (w : World) (ha : Rd w 2 A n (pairCells xs)) (hb : Rd w 2 C m (pairCells xs)) (hn : n ≤ 4000000000) (hm : m ≤ 4000000000) :
    Calls Try.prog 19 #[.slice A n c, .slice C m d] w fun e w' => e = .returned (.bool true) ∧ Below w.heap.size w w' :=
  (eqBarS_any A C n c m d xs xs w ha hb hn hm).mono fun _ _ ⟨he, hB⟩ => ⟨by rw [he]; simp, hB⟩

theorem gbB_trans {w w' w'' : World} {row : Option Nat} (h : w.grownBy w' row) (k : w'.grownBy w'' row) : w.grownBy w'' row := ⟨k.os.trans h.os, k.tape.trans h.tape, k.output.trans h.output, Nat.le_trans h.size k.size, fun i hi hr => (k.block i (Nat.lt_of_lt_of_le hi h.size) hr).trans (h.block i hi hr)⟩

set_option maxRecDepth 100000 in
set_option maxHeartbeats 1000000 in
theorem markBarS_g (A : Option Addr) (n c B : Nat) (k0 : Int) (xs : List (Int × Int)) (w : World) (ho : w.ownsRow B 26 2 (.slice A n c) n (pairCells xs)) (hn : n ≤ 4000000000) (h0 : 0 ≤ k0) (h1 : k0 ≤ 4000000000) :
    Calls Try.prog 20 #[.slice A n c, .int .i64 k0] w fun e w' => e = .returned (.int .i64 (k0 + 2 * (n : Int))) ∧ w'.ownsRow B 26 2 (.slice A n c) n (pairCells (marks2 k0 n)) ∧ Below B w w' ∧ w.grownBy w' (Value.slice A n c).ownBlock := by
  have lx : xs.length = n := by have := ho.1; rw [length_pairCells] at this; omega
  have Lx := Lib.hid lx
  clear lx
  go_enter Try.func20, Try.ntmps20
  go_wp2
  go_loopw [1, 5] (fun q i wr => ∃ (k : Nat) (l : List (Int × Int)), k ≤ n ∧ i = .int .i64 k ∧ q = .int .i64 (k0 + 2 * (k : Int)) ∧ l.length = n ∧ wr.ownsRow B 26 2 (.slice A n c) n (pairCells l) ∧ Hid (l.take k = (marks2 k0 n).take k) ∧ Below B w wr ∧ w.grownBy wr (Value.slice A n c).ownBlock) (fun _ i _ => n - (intOf i).toNat)
  case atStart => exact ⟨0, xs, Nat.zero_le _, rfl, by simp, Lx.out, ho, by simp [Hid], Below.refl _ _, World.grownBy.refl _ _⟩
  case round =>
    obtain ⟨k, l, hk, rfl, rfl, hl, hown, hT, hB, hG⟩ := hrel
    have Hl := Lib.hid hl
    clear hl
    by_cases hlt : k < n
    · obtain ⟨g, rfl, hg1, hg2⟩ := own_at hown (by omega)
      obtain ⟨b1, o1, e1, _, hx, p1, p2⟩ := (Rd.of_own hown).pair hlt
      simp only [Option.some.injEq, Addr.mk.injEq, and_true] at e1
      obtain ⟨rfl, rfl⟩ := e1
      have f1 := hown.frozenAt (k * 2)
      have f2 := hown.frozenAt (k * 2 + 1)
      have sa := hown.stored (k * 2) (.int .i64 (k0 + 2 * (k : Int)))
      have st1 := sa.1
      have sb := st1.stored (k * 2 + 1) (.int .i64 (k0 + 2 * (k : Int) + 1))
      have st2 := sb.1
      have SG := Lib.hid (gbB_trans (gbB_trans hG sa.2) sb.2)
      rw [set_pairCells _ _ hx] at st2
      have ST := Lib.hid st2
      clear st1 st2 sa sb hG
      simp only [Nat.zero_add] at p1 p2
      go_wp2
      go_roundw
      case rel =>
        refine ⟨k + 1, l.set k (k0 + 2 * (k : Int), k0 + 2 * (k : Int) + 1), by omega, by go_num, ?_, by simpa using Hl.out, by simpa using ST.out, ?_, by (repeat (first | (with_reducible exact Below.refl _ _) | (with_reducible assumption) | (with_reducible refine Below.drew ?_) | ((with_reducible refine balloc ?_ _ ?_); · (first | (simp; done) | (simp; omega) | omega)) | ((with_reducible refine bset ?_ _ ?_); · (first | (simp; done) | (simp; omega) | omega)) | (with_reducible refine bdrewN _ ?_) | ((with_reducible refine bcall ?_ (by assumption) ?_); · (first | (simp; done) | (simp; omega) | omega)))), SG.out⟩
        · congr 1; omega
        · have h := hT.out
          have hm : k < (marks2 k0 n).length := by rw [length_marks2]; exact hlt
          simp only [Hid]
          rw [List.take_succ_eq_append_getElem (by simpa using hx), List.take_succ_eq_append_getElem hm, List.take_set_of_le (Nat.le_refl k), h, marks2_at]
          simp
      case measure => simp [intOf]; omega
    · go_wp2
      go_ret
      have : k = n := by omega
      subst this
      have h := hT.out
      rw [List.take_of_length_le (by rw [Hl.out]; omega), List.take_of_length_le (by rw [length_marks2]; omega)] at h
      subst h
      exact ⟨rfl, hown, hB, hG⟩

theorem markBarS_any (A : Option Addr) (n c B : Nat) (k0 : Int) (xs : List (Int × Int)) (w : World) (ho : w.ownsRow B 26 2 (.slice A n c) n (pairCells xs)) (hn : n ≤ 4000000000) (h0 : 0 ≤ k0) (h1 : k0 ≤ 4000000000) :
    Calls Try.prog 20 #[.slice A n c, .int .i64 k0] w fun e w' => e = .returned (.int .i64 (k0 + 2 * (n : Int))) ∧ w'.ownsRow B 26 2 (.slice A n c) n (pairCells (marks2 k0 n)) ∧ Below B w w' :=
  (markBarS_g A n c B k0 xs w ho hn h0 h1).mono fun _ _ ⟨he, ho, hb, _⟩ => ⟨he, ho, hb⟩

set_option maxRecDepth 100000 in
set_option maxHeartbeats 1000000 in
theorem heldBarS_any (A : Option Addr) (n c : Nat) (k0 : Int) (w : World) (ho : Rd w 2 A n (pairCells (marks2 k0 n))) (hn : n ≤ 4000000000) (h0 : 0 ≤ k0) (h1 : k0 ≤ 4000000000) :
    Calls Try.prog 21 #[.slice A n c, .int .i64 k0] w fun e w' => e = .returned (.int .i64 (k0 + 2 * (n : Int))) ∧ w = w' := by
  go_enter Try.func21, Try.ntmps21
  go_wp2
  go_loop [1, 5] (fun q i => ∃ k : Nat, k ≤ n ∧ i = .int .i64 k ∧ q = .int .i64 (k0 + 2 * (k : Int))) (fun _ i => n - (intOf i).toNat)
  case atStart => exact ⟨0, Nat.zero_le _, rfl, by simp⟩
  case round =>
    obtain ⟨k, hk, rfl, rfl⟩ := hrel
    by_cases hlt : k < n
    · obtain ⟨b1, o1, rfl, l1, hx, p1, p2⟩ := ho.pair hlt
      rw [marks2_at] at p1 p2
      go_wp2
      go_round
      case rel => exact ⟨k + 1, by omega, by go_num, by congr 1; omega⟩
      case measure => simp [intOf]; omega
    · go_wp2
      go_ret
      have : k = n := by omega
      subst this
      exact ⟨rfl, rfl⟩

end Go.Proofs.Ythemmckchmpicaa
