/-
  Contracts: the laws' comparison, marking and holding of slices of breaks.
-/
import Derived.Test.YtjfedmcejeeocaaWords
import Derived.StillTailTactics
namespace Go.Proofs.Ytjfedmcejeeocaa
open Go.RowKit

abbrev brkV3 (p : Int × Bool × Int) : Value := .agg #[.int .i64 p.1, .bool p.2.1, .int .i64 p.2.2]
def eqT (p q : Int × Bool × Int) : Bool := decide (p = q)

set_option maxHeartbeats 400000 in
theorem eqBreak_any (p q : Int × Bool × Int) (w : World) :
    Calls Try.prog 29 #[brkV3 p, brkV3 q] w fun e w' => e = .returned (.bool (eqT p q)) ∧ Below w.heap.size w w' := by
  obtain ⟨a, b, c⟩ := p
  obtain ⟨x, y, z⟩ := q
  by_cases h1 : (a == x) = true
  · obtain rfl : a = x := by simpa using h1
    by_cases h2 : (b == y) = true
    · obtain rfl : b = y := by simpa using h2
      by_cases h3 : (c == z) = true
      · obtain rfl : c = z := by simpa using h3
        cases b
        all_goals
          go_enter Try.func29, Try.ntmps29
          go_wp2
          go_ret
          exact ⟨ret_bool (by simp [eqT]), by (repeat (first | (with_reducible exact Below.refl _ _) | (with_reducible assumption) | (with_reducible refine Below.drew ?_) | ((with_reducible refine balloc ?_ _ ?_); · (first | (simp; done) | (simp; omega) | omega)) | ((with_reducible refine bset ?_ _ ?_); · (first | (simp; done) | (simp; omega) | omega)) | (with_reducible refine bdrewN _ ?_) | ((with_reducible refine bcall ?_ (by assumption) ?_); · (first | (simp; done) | (simp; omega) | omega))))⟩
      · have h4 : (c == z) = false := by simpa using h3
        have h5 : (c != z) = true := by simpa using h3
        have h6 : c ≠ z := by simpa using h3
        cases b
        all_goals
          go_enter Try.func29, Try.ntmps29
          go_wp2
          go_ret
          exact ⟨ret_bool (by simp [eqT, h6]), by (repeat (first | (with_reducible exact Below.refl _ _) | (with_reducible assumption) | (with_reducible refine Below.drew ?_) | ((with_reducible refine balloc ?_ _ ?_); · (first | (simp; done) | (simp; omega) | omega)) | ((with_reducible refine bset ?_ _ ?_); · (first | (simp; done) | (simp; omega) | omega)) | (with_reducible refine bdrewN _ ?_) | ((with_reducible refine bcall ?_ (by assumption) ?_); · (first | (simp; done) | (simp; omega) | omega))))⟩
    · cases b <;> cases y <;> simp at h2
      all_goals
        go_enter Try.func29, Try.ntmps29
        go_wp2
        go_ret
        exact ⟨ret_bool (by simp [eqT]), by (repeat (first | (with_reducible exact Below.refl _ _) | (with_reducible assumption) | (with_reducible refine Below.drew ?_) | ((with_reducible refine balloc ?_ _ ?_); · (first | (simp; done) | (simp; omega) | omega)) | ((with_reducible refine bset ?_ _ ?_); · (first | (simp; done) | (simp; omega) | omega)) | (with_reducible refine bdrewN _ ?_) | ((with_reducible refine bcall ?_ (by assumption) ?_); · (first | (simp; done) | (simp; omega) | omega))))⟩
  · have h4 : (a == x) = false := by simpa using h1
    have h5 : (a != x) = true := by simpa using h1
    have h6 : a ≠ x := by simpa using h1
    go_enter Try.func29, Try.ntmps29
    go_wp2
    go_ret
    exact ⟨ret_bool (by simp [eqT, h6]), by (repeat (first | (with_reducible exact Below.refl _ _) | (with_reducible assumption) | (with_reducible refine Below.drew ?_) | ((with_reducible refine balloc ?_ _ ?_); · (first | (simp; done) | (simp; omega) | omega)) | ((with_reducible refine bset ?_ _ ?_); · (first | (simp; done) | (simp; omega) | omega)) | (with_reducible refine bdrewN _ ?_) | ((with_reducible refine bcall ?_ (by assumption) ?_); · (first | (simp; done) | (simp; omega) | omega))))⟩

set_option maxRecDepth 100000 in
set_option maxHeartbeats 1000000 in
theorem eqBreakS_any (A C : Option Addr) (n c m d : Nat) (xs ys : List (Int × Bool × Int)) (w : World) (ha : Rd w 3 A n (tripCells xs)) (hb : Rd w 3 C m (tripCells ys)) (hn : n ≤ 4000000000) (hm : m ≤ 4000000000) :
    Calls Try.prog 12 #[.slice A n c, .slice C m d] w fun e w' => e = .returned (.bool (decide (xs = ys))) ∧ Below w.heap.size w w' := by
  have lx : xs.length = n := by have := ha.1; rw [length_tripCells] at this; omega
  have ly : ys.length = m := by have := hb.1; rw [length_tripCells] at this; omega
  by_cases hnm : n = m
  · subst hnm
    have Lx := Lib.hid lx
    have Ly := Lib.hid ly
    clear lx ly
    go_enter Try.func12, Try.ntmps12
    go_wp2
    go_loopw [5] (fun i wr => ∃ k : Nat, k ≤ n ∧ i = .int .i64 k ∧ Hid (xs.take k = ys.take k) ∧ Below w.heap.size w wr) (fun i _ => n - (intOf i).toNat)
    case atStart => exact ⟨0, Nat.zero_le _, rfl, by simp [Hid], Below.refl _ _⟩
    case round =>
      obtain ⟨k, hk, rfl, hT, hB⟩ := hrel
      by_cases hlt : k < n
      · obtain ⟨b1, o1, rfl, l1, hx, p1, p2, p3⟩ := (ha.later hB (Nat.le_refl _)).trip hlt
        obtain ⟨b2, o2, rfl, l2, hy, q1, q2, q3⟩ := (hb.later hB (Nat.le_refl _)).trip hlt
        go_wp2
        go_still_tail 8, (by kernel_rfl)
        change wpList _ _ _ _ _ wr.drew
        have hB2 := hB.drew
        generalize wr.drew = w2 at hB2 ⊢
        have sB2 := hB2.size
        clear p1 p2 p3 q1 q2 q3 l1 l2 hB
        cases hd : eqT (xs[k]) (ys[k])
        ·
          go_wp2_with fail
          refine (eqBreak_any _ _ _).mono ?_; rintro e w1 ⟨rfl, hb1⟩; have s1 := hb1.size; obtain ⟨hc1, hf1⟩ := bcell hb1
          go_wp2
          go_ret
          exact ⟨ret_bool (by simp; intro h; subst h; simp [eqT] at hd), by (repeat (first | (with_reducible exact Below.refl _ _) | (with_reducible assumption) | (with_reducible refine Below.drew ?_) | ((with_reducible refine balloc ?_ _ ?_); · (first | (simp; done) | (simp; omega) | omega)) | ((with_reducible refine bset ?_ _ ?_); · (first | (simp; done) | (simp; omega) | omega)) | (with_reducible refine bdrewN _ ?_) | ((with_reducible refine bcall ?_ (by assumption) ?_); · (first | (simp; done) | (simp; omega) | omega))))⟩
        ·
          go_wp2_with fail
          refine (eqBreak_any _ _ _).mono ?_; rintro e w1 ⟨rfl, hb1⟩; have s1 := hb1.size; obtain ⟨hc1, hf1⟩ := bcell hb1
          go_wp2
          go_roundw
          case rel => exact ⟨k + 1, by omega, by go_num, (by have h := hT.out; simp only [Hid]; rw [List.take_succ_eq_append_getElem hx, List.take_succ_eq_append_getElem hy, h]; have h2 : xs[k] = ys[k] := (by simpa [eqT] using hd); rw [h2]), by (repeat (first | (with_reducible exact Below.refl _ _) | (with_reducible assumption) | (with_reducible refine Below.drew ?_) | ((with_reducible refine balloc ?_ _ ?_); · (first | (simp; done) | (simp; omega) | omega)) | ((with_reducible refine bset ?_ _ ?_); · (first | (simp; done) | (simp; omega) | omega)) | (with_reducible refine bdrewN _ ?_) | ((with_reducible refine bcall ?_ (by assumption) ?_); · (first | (simp; done) | (simp; omega) | omega))))⟩
          case measure => simp [intOf]; omega
      · go_wp2
        go_ret
        have : k = n := by omega
        subst this
        have lx := Lx.out
        have ly := Ly.out
        exact ⟨ret_bool (by have h := hT.out; rw [List.take_of_length_le (by omega), List.take_of_length_le (by omega)] at h; simp [h]), hB⟩
  · have h1 : ((n : Int) == (m : Int)) = false := by simp; omega
    have h2 : ((n : Int) != (m : Int)) = true := by simp; omega
    go_enter Try.func12, Try.ntmps12
    go_wp2
    go_ret
    exact ⟨ret_bool (by simp; intro h; subst h; omega), Below.refl _ _⟩

/-- the marks that the laws write: k, k + 2 and whether k + 1 is a multiple of three, three an element, from 1 on -/
def marks3 (n : Nat) : List (Int × Bool × Int) := (List.range n).map fun (i : Nat) => (1 + 3 * (i : Int), false, 1 + 3 * (i : Int) + 2)
theorem length_marks3 (n : Nat) : (marks3 n).length = n := by simp [marks3]
theorem marks3_at (n i : Nat) (h : i < (marks3 n).length) : (marks3 n)[i] = (1 + 3 * (i : Int), false, 1 + 3 * (i : Int) + 2) := by simp [marks3]
theorem set_tripCells (l : List (Int × Bool × Int)) (k : Nat) (hk : k < l.length) (a : Int) (b : Bool) (c : Int) :
    (((tripCells l).set (k * 3) (.int .i64 a)).set (k * 3 + 1) (.bool b)).set (k * 3 + 2) (.int .i64 c) = tripCells (l.set k (a, b, c)) := by
  induction l generalizing k with
  | nil => simp at hk
  | cons p r ih =>
    cases k with
    | zero => simp [tripCells]
    | succ k =>
      have h := ih k (by simpa using hk)
      have e1 : (k + 1) * 3 = k * 3 + 1 + 1 + 1 := by omega
      rw [e1]
      simp only [tripCells, List.set_cons_succ, h]

set_option maxRecDepth 100000 in
set_option maxHeartbeats 1000000 in
theorem markBreakS_all (A : Option Addr) (n c B : Nat) (xs : List (Int × Bool × Int)) (w : World) (ho : w.ownsRow B 43 3 (.slice A n c) n (tripCells xs)) (hn : n ≤ 1000000000) :
    Calls Try.prog 13 #[.slice A n c, .int .i64 1] w fun e w' => e = .returned (.int .i64 (1 + 3 * (n : Int))) ∧ w'.ownsRow B 43 3 (.slice A n c) n (tripCells (marks3 n)) ∧ Below B w w' := by
  have lx : xs.length = n := by have := ho.1; rw [length_tripCells] at this; omega
  have Lx := Lib.hid lx
  clear lx
  go_enter Try.func13, Try.ntmps13
  go_wp2
  go_loopw [1, 5] (fun q i wr => ∃ (k : Nat) (l : List (Int × Bool × Int)), k ≤ n ∧ i = .int .i64 k ∧ q = .int .i64 (1 + 3 * (k : Int)) ∧ l.length = n ∧ wr.ownsRow B 43 3 (.slice A n c) n (tripCells l) ∧ Hid (l.take k = (marks3 n).take k) ∧ Below B w wr) (fun _ i _ => n - (intOf i).toNat)
  case atStart => exact ⟨0, xs, Nat.zero_le _, rfl, by simp, Lx.out, ho, by simp [Hid], Below.refl _ _⟩
  case round =>
    obtain ⟨k, l, hk, rfl, rfl, hl, hown, hT, hB⟩ := hrel
    have Hl := Lib.hid hl
    clear hl
    by_cases hlt : k < n
    · obtain ⟨g, rfl, hg1, hg2⟩ := own_at hown (by omega)
      obtain ⟨b1, o1, e1, _, hx, p1, p2, p3⟩ := (Rd.of_own hown).trip hlt
      simp only [Option.some.injEq, Addr.mk.injEq, and_true] at e1
      obtain ⟨rfl, rfl⟩ := e1
      have f1 := hown.frozenAt (k * 3)
      have f2 := hown.frozenAt (k * 3 + 1)
      have f3 := hown.frozenAt (k * 3 + 2)
      have st1 := (hown.stored (k * 3) (.int .i64 (1 + 3 * (k : Int)))).1
      have st2 := (st1.stored (k * 3 + 1) (.bool false)).1
      have st3 := (st2.stored (k * 3 + 2) (.int .i64 (1 + 3 * (k : Int) + 2))).1
      rw [set_tripCells _ _ hx] at st3
      have ST := Lib.hid st3
      clear st1 st2 st3
      simp only [Nat.zero_add] at p1 p2 p3
      have r1 : (1 + 3 * (k : Int) + 1) % 3 = 2 := by omega
      have w1 : IntKind.i64.wrap (1 + 3 * (k : Int) + 1) = 1 + 3 * (k : Int) + 1 := IntWalk.i64_in _ (by omega)
      have w2 : IntKind.i64.wrap (1 + 3 * (k : Int) + 1 + 1) = 1 + 3 * (k : Int) + 2 := by rw [IntWalk.i64_in _ (by omega)]; omega
      have w3 : IntKind.i64.wrap (1 + 3 * (k : Int) + 2 + 1) = 1 + 3 * (k : Int) + 3 := by rw [IntWalk.i64_in _ (by omega)]; omega
      go_wp2
      go_roundw
      case rel =>
        refine ⟨k + 1, l.set k (1 + 3 * (k : Int), false, 1 + 3 * (k : Int) + 2), by omega, by go_num, ?_, by simpa using Hl.out, by simpa using ST.out, ?_, by (repeat (first | (with_reducible exact Below.refl _ _) | (with_reducible assumption) | (with_reducible refine Below.drew ?_) | ((with_reducible refine balloc ?_ _ ?_); · (first | (simp; done) | (simp; omega) | omega)) | ((with_reducible refine bset ?_ _ ?_); · (first | (simp; done) | (simp; omega) | omega)) | (with_reducible refine bdrewN _ ?_) | ((with_reducible refine bcall ?_ (by assumption) ?_); · (first | (simp; done) | (simp; omega) | omega))))⟩
        · congr 1
        · have h := hT.out
          have hm : k < (marks3 n).length := by rw [length_marks3]; exact hlt
          simp only [Hid]
          rw [List.take_succ_eq_append_getElem (by simpa using hx), List.take_succ_eq_append_getElem hm, List.take_set_of_le (Nat.le_refl k), h, marks3_at]
          simp
      case measure => simp [intOf]; omega
    · go_wp2
      go_ret
      have : k = n := by omega
      subst this
      have h := hT.out
      rw [List.take_of_length_le (by rw [Hl.out]; omega), List.take_of_length_le (by rw [length_marks3]; omega)] at h
      subst h
      exact ⟨rfl, hown, hB⟩

set_option maxRecDepth 100000 in
set_option maxHeartbeats 1000000 in
theorem heldBreakS_all (A : Option Addr) (n c : Nat) (w : World) (ho : Rd w 3 A n (tripCells (marks3 n))) (hn : n ≤ 1000000000) :
    Calls Try.prog 14 #[.slice A n c, .int .i64 1] w fun e w' => e = .returned (.int .i64 (1 + 3 * (n : Int))) ∧ w = w' := by
  go_enter Try.func14, Try.ntmps14
  go_wp2
  go_loop [1, 5] (fun q i => ∃ k : Nat, k ≤ n ∧ i = .int .i64 k ∧ q = .int .i64 (1 + 3 * (k : Int))) (fun _ i => n - (intOf i).toNat)
  case atStart => exact ⟨0, Nat.zero_le _, rfl, by simp⟩
  case round =>
    obtain ⟨k, hk, rfl, rfl⟩ := hrel
    by_cases hlt : k < n
    · obtain ⟨b1, o1, rfl, l1, hx, p1, p2, p3⟩ := ho.trip hlt
      rw [marks3_at] at p1 p2 p3
      have r1 : (1 + 3 * (k : Int) + 1) % 3 = 2 := by omega
      have w1 : IntKind.i64.wrap (1 + 3 * (k : Int) + 1) = 1 + 3 * (k : Int) + 1 := IntWalk.i64_in _ (by omega)
      have w2 : IntKind.i64.wrap (1 + 3 * (k : Int) + 1 + 1) = 1 + 3 * (k : Int) + 2 := by rw [IntWalk.i64_in _ (by omega)]; omega
      have w3 : IntKind.i64.wrap (1 + 3 * (k : Int) + 2 + 1) = 1 + 3 * (k : Int) + 3 := by rw [IntWalk.i64_in _ (by omega)]; omega
      go_wp2
      go_round
      case rel => exact ⟨k + 1, by omega, by go_num, by congr 1⟩
      case measure => simp [intOf]; omega
    · go_wp2
      go_ret
      have : k = n := by omega
      subst this
      exact ⟨rfl, rfl⟩

theorem eqBreakS_same (A C : Option Addr) (n c m d : Nat) (xs : List (Int × Bool × Int)) (w : World) (ha : Rd w 3 A n (tripCells xs)) (hb : Rd w 3 C m (tripCells xs)) (hn : n ≤ 4000000000) (hm : m ≤ 4000000000) :
    Calls Try.prog 12 #[.slice A n c, .slice C m d] w fun e w' => e = .returned (.bool true) ∧ Below w.heap.size w w' :=
  (eqBreakS_any A C n c m d xs xs w ha hb hn hm).mono fun e w' h => ⟨by rw [h.1]; simp, h.2⟩

end Go.Proofs.Ytjfedmcejeeocaa
