/-
  Contracts: by how many nuts both parts of a break differ, of the program and of the model; EqualBreaks of both.
-/
import Derived.Test.YtbjjpndhfgfedaaNutRows
namespace Go.Proofs.Ytbjjpndhfgfedaa
open Go.RowKit

/-- the greater of two numbers -/
def imax (a b : Int) : Int := if b < a then a else b

theorem take_lines_true (ss : List ByteArray) (W n k : Nat) (h : k ≤ W) : (linesL ss W n true).take k = linesL ss k n true := by
  simp only [linesL, if_true, ← List.map_take, List.take_range, Nat.min_eq_left h]
theorem take_lines_false (ss : List ByteArray) (W n k : Nat) (h : k ≤ n) : (linesL ss W n false).take k = linesL ss W k false := by
  simp only [linesL, Bool.false_eq_true, if_false, ← List.map_take, List.take_range, Nat.min_eq_left h]
theorem sum_cols (ss : List ByteArray) (W n : Nat) : (linesL ss W n true).sum = (rect ss 0 0 W n : Nat) := by
  have e : rect ss 0 0 W n = rs (fun i => rect ss i 0 1 n) 0 W := by
    unfold rect
    rw [rs_swap]
    refine rs_congr W fun i _ => ?_
    refine rs_congr n fun j _ => ?_
    simp [rs]
  rw [e]
  simp only [linesL, if_true]
  induction W with
  | zero => rfl
  | succ W ih =>
    have e2 : rect ss 0 0 W n = rs (fun i => rect ss i 0 1 n) 0 W := by
      unfold rect
      rw [rs_swap]
      refine rs_congr W fun i _ => ?_
      refine rs_congr n fun j _ => ?_
      simp [rs]
    rw [List.range_succ, List.map_append, List.sum_append, ih e2]
    simp [rs]
/-- by how many nuts both parts of a break of the whole bar differ -/
def brkD (ss : List ByteArray) (W n : Nat) (d : Bool) (k : Nat) : Int :=
  let x : Int := (rect ss 0 0 W n : Nat) - 2 * (if d then (rect ss 0 0 k n : Nat) else (rect ss 0 0 W k : Nat) : Int)
  imax x (-x)
/-- the lines of a break -/
def numL (W n : Nat) (d : Bool) : Nat := if d then W else n
theorem sum_lines (ss : List ByteArray) (W n : Nat) (d : Bool) : (linesL ss W n d).sum = (rect ss 0 0 W n : Nat) := by
  cases d
  · exact sum_rows ss W n
  · exact sum_cols ss W n
theorem sum_take_lines (ss : List ByteArray) (W n : Nat) (d : Bool) (k : Nat) (h : k ≤ numL W n d) : ((linesL ss W n d).take k).sum = (if d then (rect ss 0 0 k n : Nat) else (rect ss 0 0 W k : Nat) : Int) := by
  cases d
  · simp only [numL, Bool.false_eq_true, if_false] at h
    rw [take_lines_false _ _ _ _ h, sum_rows]
    rfl
  · simp only [numL, if_true] at h
    rw [take_lines_true _ _ _ _ h, sum_cols]
    rfl
/-- all differences -/
def diffL (ss : List ByteArray) (W n : Nat) (d : Bool) (m : Nat) : List Int := (List.range m).map fun i => brkD ss W n d (i + 1)
theorem length_diffL (ss : List ByteArray) (W n : Nat) (d : Bool) (m : Nat) : (diffL ss W n d m).length = m := by simp [diffL]
theorem diffL_succ (ss : List ByteArray) (W n : Nat) (d : Bool) (m : Nat) : diffL ss W n d (m + 1) = diffL ss W n d m ++ [brkD ss W n d (m + 1)] := by simp [diffL, List.range_succ]

set_option maxHeartbeats 400000 in
theorem l1Most_any (a b : Int) (w : World) : Calls Try.prog 79 #[.int .i64 a, .int .i64 b] w fun e w' => e = .returned (.int .i64 (imax a b)) ∧ w = w' := by
  by_cases h : b < a
  · go_enter Try.func79, Try.ntmps79
    go_wp2
    go_ret
    exact ⟨ret_int (by unfold imax; rw [if_pos (by omega)]), rfl⟩
  · go_enter Try.func79, Try.ntmps79
    go_wp2
    go_ret
    exact ⟨ret_int (by unfold imax; rw [if_neg (by omega)]), rfl⟩

set_option maxHeartbeats 400000 in
theorem l1Abs_any (a : Int) (w : World) (h : -100000 ≤ a ∧ a ≤ 100000) : Calls Try.prog 77 #[.int .i64 a] w fun e w' => e = .returned (.int .i64 (imax a (-a))) ∧ w = w' := by
  obtain ⟨h1, h2⟩ := h
  go_enter Try.func77, Try.ntmps77
  go_wp2_with fail
  refine (l1Most_any _ _ _).mono ?_; rintro e w1 ⟨rfl, rfl⟩
  go_wp2
  go_ret
  exact ⟨rfl, rfl⟩

theorem rect_bound {ss : List ByteArray} {W n x y a b : Nat} (hb : NB ss W n) (hx : x + a ≤ W) (hy : y + b ≤ n) : (0 : Int) ≤ (rect ss x y a b : Nat) ∧ ((rect ss x y a b : Nat) : Int) ≤ 576 := by
  have := rect_576 hb hx hy
  omega

set_option maxHeartbeats 1000000 in
theorem ntBreak_any (A : Option Addr) (n c W : Nat) (ss : List ByteArray) (d : Bool) (k : Nat) (w : World) (hr : Rd w 1 A n (strCells ss)) (hb : NB ss W n) (hk : k ≤ numL W n d) :
    Calls Try.prog 64 #[.slice A n c, .bool d, .int .i64 k] w fun e w' => e = .returned (.int .i64 (brkD ss W n d k)) ∧ w = w' := by
  obtain ⟨b, o, rfl, hbl, s0, p0, hs0, _⟩ := hr.nut0 hb
  have hs := hs0.out
  subst hs
  have hn1 := hb.h1
  obtain ⟨t1, t2⟩ := rect_bound (x := 0) (y := 0) (a := s0.size) (b := n) hb (by omega) (by omega)
  cases d
  · simp only [numL, Bool.false_eq_true, if_false] at hk
    obtain ⟨u1, u2⟩ := rect_bound (x := 0) (y := 0) (a := s0.size) (b := k) hb (by omega) (by omega)
    go_enter Try.func64, Try.ntmps64
    go_wp2_with fail
    refine (ntSum_any _ _ _ s0.size ss _ _ _ _ 0 0 s0.size k _ hr hb rfl rfl (by omega) (by omega) (by omega) (by omega)).mono ?_; rintro e wx ⟨rfl, rfl⟩
    go_wp2_with fail
    refine (ntAll_any _ _ _ _ ss _ hr hb).mono ?_; rintro e wx ⟨rfl, rfl⟩
    go_wp2_with fail
    refine (l1Abs_any _ _ (by omega)).mono ?_; rintro e wx ⟨rfl, rfl⟩
    go_wp2
    go_ret
    exact ⟨rfl, rfl⟩
  · simp only [numL, if_true] at hk
    obtain ⟨u1, u2⟩ := rect_bound (x := 0) (y := 0) (a := k) (b := n) hb (by omega) (by omega)
    go_enter Try.func64, Try.ntmps64
    go_wp2_with fail
    refine (ntSum_any _ _ _ s0.size ss _ _ _ _ 0 0 k n _ hr hb rfl rfl (by omega) (by omega) (by omega) (by omega)).mono ?_; rintro e wx ⟨rfl, rfl⟩
    go_wp2_with fail
    refine (ntAll_any _ _ _ _ ss _ hr hb).mono ?_; rintro e wx ⟨rfl, rfl⟩
    go_wp2_with fail
    refine (l1Abs_any _ _ (by omega)).mono ?_; rintro e wx ⟨rfl, rfl⟩
    go_wp2
    go_ret
    exact ⟨rfl, rfl⟩

theorem own_cap {w : World} {B e z n c : Nat} {A : Option Addr} {xs : List Value} (h : w.ownsRow B e z (.slice A n c) n xs) : n ≤ c := by
  rcases h.2 with ⟨h', h0⟩ | ⟨g, cap, cur, h', hb, hg, hnc, _⟩
  · omega
  · simp only [Value.slice.injEq] at h'
    obtain ⟨_, _, rfl⟩ := h'
    exact hnc

set_option maxRecDepth 100000 in
set_option maxHeartbeats 2000000 in
theorem differences_any (A : Option Addr) (n c W : Nat) (ss : List ByteArray) (d : Bool) (w : World) (hr : Rd w 1 A n (strCells ss)) (hb : NB ss W n) :
    Calls Try.prog 65 #[.slice A n c, .bool d] w fun e w' => ∃ A' n' c', e = .returned (.slice A' n' c') ∧ w'.ownsRow w.heap.size 3 1 (.slice A' n' c') n' (intCells (diffL ss W n d (numL W n d - 1))) ∧ Below w.heap.size w w' := by
  obtain ⟨i0, hi, hz0, hz1, hz2⟩ := info_parts int_info
  have h8 : numL W n d ≤ 8 := by have := hb.h8; have := hb.w8; cases d <;> simp [numL] <;> omega
  have h1 : 1 ≤ numL W n d := by have := hb.h1; have := hb.w1; cases d <;> simp [numL] <;> omega
  have hll : (linesL ss W n d).length = numL W n d := length_linesL ss W n d
  have hsm := lines_small hb d
  have hsum := sum_lines ss W n d
  have hst := fun k (hk : k ≤ numL W n d) => sum_take_lines ss W n d k hk
  have hbd : ∀ k, k + 1 ≤ numL W n d - 1 → brkD ss W n d (k + 1) = imax (((linesL ss W n d).take (k + 1)).sum - ((linesL ss W n d).sum - ((linesL ss W n d).take (k + 1)).sum)) (((linesL ss W n d).sum - ((linesL ss W n d).take (k + 1)).sum) - ((linesL ss W n d).take (k + 1)).sum) := by
    intro k hk
    rw [hst _ (by omega), hsum]
    simp only [brkD, imax]
    generalize (if d then ((rect ss 0 0 (k + 1) n : Nat) : Int) else ((rect ss 0 0 W (k + 1) : Nat) : Int)) = q
    split <;> split <;> omega
  generalize hL : linesL ss W n d = L at *
  generalize hN : numL W n d = N at *
  have HL := Lib.hid hL
  have HLL := Lib.hid hll
  have HSM := Lib.hid hsm
  have HBD := Lib.hid hbd
  obtain ⟨b1, b2⟩ := sum_bound hsm
  rw [hll] at b2
  clear hL hll hsm hbd hst hsum hN
  go_enter Try.func65, Try.ntmps65
  go_wp2_with fail
  refine (lineNuts_lines _ _ _ _ ss _ _ hr hb).mono ?_; rintro e w1 ⟨A1, n1, c1, rfl, own1, hb1⟩
  rw [HL.out] at own1
  have hn1 : n1 = N := by have h := (Rd.of_own own1).ilen; have h2 := HLL.out; omega
  subst hn1
  have hc1 := own_cap own1
  have rd1 := Rd.of_own own1
  go_wp2_with fail
  refine (sumOf_any _ _ _ L _ rd1 (by omega) HSM.out).mono ?_; rintro e wx ⟨rfl, rfl⟩
  go_wp2
  go_loopw [5, 7, 8, 22] (fun v f o i wr => ∃ (k : Nat) (A' : Option Addr) (c' : Nat), k ≤ n1 - 1 ∧ i = .int .i64 k ∧ f = .int .i64 (L.take k).sum ∧ o = .int .i64 (L.sum - (L.take k).sum) ∧ v = .slice A' k c' ∧ wr.ownsRow w1.heap.size 3 1 (.slice A' k c') k (intCells (diffL ss W n d k)) ∧ Below w1.heap.size w1 wr) (fun _ _ _ i _ => n1 - 1 - (intOf i).toNat)
  case atStart => exact ⟨0, none, 0, Nat.zero_le _, rfl, by simp, by simp, rfl, World.ownsRow_nil _ _ _ _, Below.refl _ _⟩
  case round =>
    obtain ⟨k, A', c', hk, rfl, rfl, rfl, rfl, hown, hBl⟩ := hrel
    have sB := hBl.size
    by_cases hlt : k < n1 - 1
    · obtain ⟨b1', o1, rfl, _, hx, p1⟩ := (rd1.later hBl (Nat.le_refl _)).num (show k < n1 by omega)
      have b3 := sum_bound (l := L.take k) (fun z hz => HSM.out z (List.mem_of_mem_take hz))
      have b4 : (L.take k).length ≤ 8 := by rw [List.length_take]; have := HLL.out; omega
      have b5 := HSM.out _ (List.getElem_mem hx)
      have HS := Lib.hid (sum_take hx)
      have HBK := Lib.hid (HBD.out k (by omega))
      have HDS := Lib.hid (diffL_succ ss W n d k)
      generalize (L.take k).sum = S at *
      generalize L[k] = z at *
      generalize L.sum = tot at *
      obtain ⟨b31, b32⟩ := b3
      obtain ⟨b51, b52⟩ := b5
      have hc3 : k + 1 ≤ maxLen := by simp only [maxLen]; omega
      go_wp2_with (at_builtin; refine wpList_append_own _ rfl (.tmp 32) (.tmp 40) 29 rfl w1.heap.size 3 i0 (.int .i64 0) 1 8 Try.underlying29 hi hz0 hz1 hz2 rfl (by decide) _ _ _ rfl (hown.alloc _) ⟨wr.heap.size, 0, none⟩ 1 1 [_] rfl rfl (new1 _ _ _) (int_oneCell [_]) hc3 (by omega) (Nat.le_trans sB (by simp)) ?_)
      all_goals
        intro v' w2 hown' hgrow _
        have hb2 := gb_new (Nat.le_refl _) (hBl.alloc sB _) hgrow (fun g hg => (hown.lt g hg).1)
        obtain ⟨A2, c2, rfl⟩ := own_slice hown'
        clear hgrow hown hBl hc3
        go_wp2
        go_roundw
        case rel =>
          refine ⟨k + 1, A2, c2, by omega, by go_num, by rw [HS.out], by rw [HS.out]; congr 1; omega, rfl, ?_, hb2⟩
          rw [HDS.out, intCells_append]
          first
            | (have e : brkD ss W n d (k + 1) = S + z - (tot - S - z) := (by rw [HBK.out, HS.out]; unfold imax; split <;> omega); rw [e]; exact hown')
            | (have e : brkD ss W n d (k + 1) = tot - S - z - (S + z) := (by rw [HBK.out, HS.out]; unfold imax; split <;> omega); rw [e]; exact hown')
        case measure => simp [intOf]; omega
    · go_wp2
      go_ret
      have : k = n1 - 1 := by omega
      subst this
      exact ⟨A', n1 - 1, c', rfl, own_base hown hb1.size, bcall hb1.size hBl hb1⟩

end Go.Proofs.Ytbjjpndhfgfedaa
