/-
  Contracts: EvenBreak of the program and of the model.
-/
import Derived.Test.YtbjjpndhfgfedaaEqBreaks
namespace Go.Proofs.Ytbjjpndhfgfedaa
open Go.RowKit

/-- the best break so far: its way, its place (0 if there is none), its difference -/
abbrev EB := Bool × Nat × Int
def stepE (st x : EB) : EB := if st.2.1 = 0 ∨ x.2.2 < st.2.2 then x else st
def bestE (ss : List ByteArray) (W n : Nat) (d : Bool) (st : EB) : Nat → EB
  | 0 => st
  | k + 1 => stepE (bestE ss W n d st k) (d, k + 1, brkD ss W n d (k + 1))
def evenE (ss : List ByteArray) (W n : Nat) : EB := bestE ss W n false (bestE ss W n true (false, 0, 0) (W - 1)) (n - 1)
theorem imax_nonneg (a : Int) : 0 ≤ imax a (-a) := by unfold imax; split <;> omega
theorem brkD_bound {ss : List ByteArray} {W n k : Nat} {d : Bool} (hb : NB ss W n) (hk : k ≤ numL W n d) : 0 ≤ brkD ss W n d k ∧ brkD ss W n d k ≤ 5000 := by
  refine ⟨imax_nonneg _, ?_⟩
  obtain ⟨t1, t2⟩ := rect_bound (x := 0) (y := 0) (a := W) (b := n) hb (by omega) (by omega)
  have hq : (0 : Int) ≤ (if d then (rect ss 0 0 k n : Nat) else (rect ss 0 0 W k : Nat) : Int) ∧ (if d then (rect ss 0 0 k n : Nat) else (rect ss 0 0 W k : Nat) : Int) ≤ 576 := by
    cases d
    · simp only [numL, Bool.false_eq_true, if_false] at hk ⊢
      exact rect_bound hb (by omega) (by omega)
    · simp only [numL, if_true] at hk ⊢
      exact rect_bound hb (by omega) (by omega)
  simp only [brkD, imax]
  generalize (if d then (rect ss 0 0 k n : Nat) else (rect ss 0 0 W k : Nat) : Int) = q at *
  split <;> omega
theorem bestE_at {ss : List ByteArray} {W n : Nat} {d : Bool} {st : EB} {k : Nat} (h : st.2.1 ≠ 0 ∨ 0 < k) : (bestE ss W n d st k).2.1 ≠ 0 := by
  induction k with
  | zero => rcases h with h | h
            · exact h
            · omega
  | succ k ih =>
    simp only [bestE, stepE]
    split
    · simp
    · rename_i hn
      intro e
      exact hn (.inl e)
theorem bestE_bound {ss : List ByteArray} {W n : Nat} {d : Bool} {st : EB} {k : Nat} (hb : NB ss W n) (h0 : st.2.1 ≤ 8 ∧ 0 ≤ st.2.2 ∧ st.2.2 ≤ 5000) (hk : k < numL W n d) : (bestE ss W n d st k).2.1 ≤ 8 ∧ 0 ≤ (bestE ss W n d st k).2.2 ∧ (bestE ss W n d st k).2.2 ≤ 5000 := by
  have h8 : numL W n d ≤ 8 := by have := hb.h8; have := hb.w8; cases d <;> simp [numL] <;> omega
  induction k with
  | zero => exact h0
  | succ k ih =>
    have q := ih (by omega)
    have r := brkD_bound hb (k := k + 1) (d := d) (by omega)
    simp only [bestE, stepE]
    split
    · exact ⟨by show k + 1 ≤ 8; omega, r⟩
    · exact q
/-- the model's least: -1 while there is none -/
def leastE (st : EB) : Int := if st.2.1 = 0 then -1 else st.2.2

def evenOk (ss : List ByteArray) : Bool := nutsB ss && !(decide (nutW ss = 1) && decide (ss.length = 1))
def evenR (ss : List ByteArray) : EB := if evenOk ss then evenE ss (nutW ss) ss.length else (false, 0, 0)
abbrev evenV (st : EB) (ok : Bool) : Value := .tuple #[.bool st.1, .int .i64 st.2.1, .int .i64 st.2.2, .bool ok]

set_option maxRecDepth 100000 in
set_option maxHeartbeats 4000000 in
theorem sEvenBreak_any (A : Option Addr) (n c : Nat) (ss : List ByteArray) (w : World) (hr : Rd w 1 A n (strCells ss)) :
    Calls Try.prog 40 #[.slice A n c] w fun e w' => e = .returned (evenV (evenR ss) (evenOk ss)) ∧ w = w' := by
  cases hB : nutsB ss
  · have hk : evenOk ss = false := by simp [evenOk, hB]
    have hR : evenR ss = (false, 0, 0) := by simp [evenR, hk]
    rw [hR, hk]
    clear hR hk
    go_enter Try.func40, Try.ntmps40
    go_wp2_with fail
    refine (ntGood_any _ _ _ _ _ hr).mono ?_; rintro e w1 ⟨rfl, rfl⟩
    go_wp2
    refine bodyPost_ret (v := evenV (false, 0, 0) false) (by simp [results, Try.results40, go_sem]) rfl ⟨rfl, rfl⟩
  · have hb := NB.of hB
    have hl := hr.slen
    rw [hl] at hb
    by_cases h1 : nutW ss = 1 ∧ n = 1
    · have hk : evenOk ss = false := by simp [evenOk, h1.1, hl, h1.2]
      have hR : evenR ss = (false, 0, 0) := by simp [evenR, hk]
      rw [hR, hk]
      obtain ⟨e1, e2⟩ := h1
      rw [e1] at hb
      clear hR hk hl e1
      obtain ⟨b, o, rfl, hbl, s0, p0, hs0, _⟩ := hr.nut0 hb
      have hz : ((s0.size : Int) == 1) = true := by have := hs0.out; simp; omega
      have hn : ((n : Int) == 1) = true := by simp; omega
      have hn0 : 0 < n := by omega
      clear e2
      go_enter Try.func40, Try.ntmps40
      go_wp2_with fail
      refine (ntGood_any _ _ _ _ _ hr).mono ?_; rintro e w1 ⟨rfl, rfl⟩
      go_wp2
      refine bodyPost_ret (v := evenV (false, 0, 0) false) (by simp [results, Try.results40, go_sem]) rfl ⟨rfl, rfl⟩
    · have hk : evenOk ss = true := by simp [evenOk, hB, hl]; omega
      have hR : evenR ss = evenE ss (nutW ss) n := by simp [evenR, hk, hl]
      rw [hR, hk]
      clear hR hk hl
      generalize nutW ss = W at *
      obtain ⟨b, o, rfl, hbl, s0, p0, hs0, _⟩ := hr.nut0 hb
      have hs := hs0.out
      subst hs
      have hn1 := hb.h1
      have hW1 := hb.w1
      have hn8 := hb.h8
      have hW8 := hb.w8
      have hor : ((n : Int) == 1) = false ∨ (((n : Int) == 1) = true ∧ ((s0.size : Int) == 1) = false) := by
        by_cases e : n = 1
        · exact .inr ⟨by simp; omega, by simp; omega⟩
        · exact .inl (by simp; omega)
      have hgo : 1 < s0.size ∨ 1 < n := by omega
      have HGO := Lib.hid hgo
      clear hgo h1
      rcases hor with hx | ⟨hx, hy⟩
      all_goals
        go_enter Try.func40, Try.ntmps40
        go_wp2_with fail
        refine (ntGood_any _ _ _ _ _ hr).mono ?_; rintro e w1 ⟨rfl, rfl⟩
        go_wp2
        go_loop [6, 7, 8, 9] (fun dd at_ le i => ∃ k : Nat, k < s0.size ∧ i = .int .i64 ((k : Int) + 1) ∧ dd = .bool (bestE ss s0.size n true (false, 0, 0) k).1 ∧ at_ = .int .i64 (bestE ss s0.size n true (false, 0, 0) k).2.1 ∧ le = .int .i64 (leastE (bestE ss s0.size n true (false, 0, 0) k))) (fun _ _ _ i => s0.size - (intOf i).toNat)
        case atStart => exact ⟨0, by omega, by go_num, rfl, rfl, rfl⟩
        case round =>
          obtain ⟨k, hk, rfl, rfl, rfl, rfl⟩ := hrel
          by_cases hlt : k + 1 < s0.size
          · have hbd := brkD_bound hb (k := k + 1) (d := true) (by show k + 1 ≤ s0.size; omega)
            have HS : Hid (bestE ss s0.size n true (false, 0, 0) (k + 1) = stepE (bestE ss s0.size n true (false, 0, 0) k) (true, k + 1, brkD ss s0.size n true (k + 1))) := rfl
            have hb0 := bestE_bound (d := true) (st := (false, 0, 0)) hb ⟨by show 0 ≤ 8; omega, by show (0 : Int) ≤ 0; omega, by show (0 : Int) ≤ 5000; omega⟩ (k := k) (by show k < s0.size; exact hk)
            have hnt := fun (w : World) => ntBreak_any (some ⟨b, o, none⟩) n c s0.size ss true (k + 1) w
            generalize bestE ss s0.size n true (false, 0, 0) k = st at *
            obtain ⟨sd, sa, sl⟩ := st
            obtain ⟨b1, b2, b3⟩ := hb0
            simp only at b1 b2 b3
            generalize hz : brkD ss s0.size n true (k + 1) = z at *
            have HNT := Lib.hid hnt
            clear hnt hz
            by_cases h0 : sa = 0
            · have hle : leastE (sd, sa, sl) = -1 := by simp [leastE, h0]
              have HE : Hid (stepE (sd, sa, sl) (true, k + 1, z) = (true, k + 1, z)) := by simp [Hid, stepE, h0]
              have HL : Hid (leastE (true, k + 1, z) = z) := by simp [Hid, leastE]
              rw [hle]
              clear hle h0
              go_wp2_with fail
              refine (HNT.out _ hr hb (by show k + 1 ≤ s0.size; omega)).mono ?_; rintro e w1 ⟨rfl, rfl⟩
              go_wp2
              go_round
              case rel => exact ⟨k + 1, by omega, by go_num, by rw [HS.out, HE.out], by rw [HS.out, HE.out]; go_num, by rw [HS.out, HE.out, HL.out]⟩
              case measure => simp [intOf]; omega
            · have hle : leastE (sd, sa, sl) = sl := by simp [leastE, h0]
              rw [hle]
              clear hle
              by_cases hlz : z < sl
              · have HE : Hid (stepE (sd, sa, sl) (true, k + 1, z) = (true, k + 1, z)) := by simp [Hid, stepE, hlz]
                have HL : Hid (leastE (true, k + 1, z) = z) := by simp [Hid, leastE]
                clear h0
                go_wp2_with fail
                refine (HNT.out _ hr hb (by show k + 1 ≤ s0.size; omega)).mono ?_; rintro e w1 ⟨rfl, rfl⟩
                go_wp2
                go_round
                case rel => exact ⟨k + 1, by omega, by go_num, by rw [HS.out, HE.out], by rw [HS.out, HE.out]; go_num, by rw [HS.out, HE.out, HL.out]⟩
                case measure => simp [intOf]; omega
              · have HE : Hid (stepE (sd, sa, sl) (true, k + 1, z) = (sd, sa, sl)) := by simp [Hid, stepE, h0]; omega
                have HL : Hid (leastE (sd, sa, sl) = sl) := by simp [Hid, leastE, h0]
                clear h0
                go_wp2_with fail
                refine (HNT.out _ hr hb (by show k + 1 ≤ s0.size; omega)).mono ?_; rintro e w1 ⟨rfl, rfl⟩
                go_wp2
                go_round
                case rel => exact ⟨k + 1, by omega, by go_num, by rw [HS.out, HE.out], by rw [HS.out, HE.out], by rw [HS.out, HE.out, HL.out]⟩
                case measure => simp [intOf]; omega
          · have hk1 : k = s0.size - 1 := by omega
            subst hk1
            have hb1 := bestE_bound (d := true) (st := (false, 0, 0)) hb ⟨by show 0 ≤ 8; omega, by show (0 : Int) ≤ 0; omega, by show (0 : Int) ≤ 5000; omega⟩ (k := s0.size - 1) (by show s0.size - 1 < s0.size; omega)
            have hfin : (evenE ss s0.size n).2.1 ≠ 0 := bestE_at (by
              rcases HGO.out with g | g
              · exact .inl (bestE_at (.inr (by omega)))
              · exact .inr (by omega))
            have HFIN := Lib.hid hfin
            have HEV : Hid (evenE ss s0.size n = bestE ss s0.size n false (bestE ss s0.size n true (false, 0, 0) (s0.size - 1)) (n - 1)) := rfl
            clear hfin
            generalize bestE ss s0.size n true (false, 0, 0) (s0.size - 1) = st1 at *
            go_wp2
            go_loop [6, 7, 8, 11] (fun dd at_ le i => ∃ k : Nat, k < n ∧ i = .int .i64 ((k : Int) + 1) ∧ dd = .bool (bestE ss s0.size n false st1 k).1 ∧ at_ = .int .i64 (bestE ss s0.size n false st1 k).2.1 ∧ le = .int .i64 (leastE (bestE ss s0.size n false st1 k))) (fun _ _ _ i => n - (intOf i).toNat)
            case atStart => exact ⟨0, by omega, by go_num, rfl, rfl, rfl⟩
            case round =>
              obtain ⟨k, hk, rfl, rfl, rfl, rfl⟩ := hrel
              by_cases hlt : k + 1 < n
              · have hbd := brkD_bound hb (k := k + 1) (d := false) (by show k + 1 ≤ n; omega)
                have HS : Hid (bestE ss s0.size n false st1 (k + 1) = stepE (bestE ss s0.size n false st1 k) (false, k + 1, brkD ss s0.size n false (k + 1))) := rfl
                have hb0 := bestE_bound (d := false) (st := st1) hb hb1 (k := k) (by show k < n; exact hk)
                have hnt := fun (w : World) => ntBreak_any (some ⟨b, o, none⟩) n c s0.size ss false (k + 1) w
                generalize bestE ss s0.size n false st1 k = st at *
                obtain ⟨sd, sa, sl⟩ := st
                obtain ⟨b1, b2, b3⟩ := hb0
                simp only at b1 b2 b3
                generalize hz : brkD ss s0.size n false (k + 1) = z at *
                have HNT := Lib.hid hnt
                clear hnt hz
                by_cases h0 : sa = 0
                · have hle : leastE (sd, sa, sl) = -1 := by simp [leastE, h0]
                  have HE : Hid (stepE (sd, sa, sl) (false, k + 1, z) = (false, k + 1, z)) := by simp [Hid, stepE, h0]
                  have HL : Hid (leastE (false, k + 1, z) = z) := by simp [Hid, leastE]
                  rw [hle]
                  clear hle h0
                  go_wp2_with fail
                  refine (HNT.out _ hr hb (by show k + 1 ≤ n; omega)).mono ?_; rintro e w1 ⟨rfl, rfl⟩
                  go_wp2
                  go_round
                  case rel => exact ⟨k + 1, by omega, by go_num, by rw [HS.out, HE.out], by rw [HS.out, HE.out]; go_num, by rw [HS.out, HE.out, HL.out]⟩
                  case measure => simp [intOf]; omega
                · have hle : leastE (sd, sa, sl) = sl := by simp [leastE, h0]
                  rw [hle]
                  clear hle
                  by_cases hlz : z < sl
                  · have HE : Hid (stepE (sd, sa, sl) (false, k + 1, z) = (false, k + 1, z)) := by simp [Hid, stepE, hlz]
                    have HL : Hid (leastE (false, k + 1, z) = z) := by simp [Hid, leastE]
                    clear h0
                    go_wp2_with fail
                    refine (HNT.out _ hr hb (by show k + 1 ≤ n; omega)).mono ?_; rintro e w1 ⟨rfl, rfl⟩
                    go_wp2
                    go_round
                    case rel => exact ⟨k + 1, by omega, by go_num, by rw [HS.out, HE.out], by rw [HS.out, HE.out]; go_num, by rw [HS.out, HE.out, HL.out]⟩
                    case measure => simp [intOf]; omega
                  · have HE : Hid (stepE (sd, sa, sl) (false, k + 1, z) = (sd, sa, sl)) := by simp [Hid, stepE, h0]; omega
                    have HL : Hid (leastE (sd, sa, sl) = sl) := by simp [Hid, leastE, h0]
                    clear h0
                    go_wp2_with fail
                    refine (HNT.out _ hr hb (by show k + 1 ≤ n; omega)).mono ?_; rintro e w1 ⟨rfl, rfl⟩
                    go_wp2
                    go_round
                    case rel => exact ⟨k + 1, by omega, by go_num, by rw [HS.out, HE.out], by rw [HS.out, HE.out], by rw [HS.out, HE.out, HL.out]⟩
                    case measure => simp [intOf]; omega
              · have hk1 : k = n - 1 := by omega
                subst hk1
                generalize bestE ss s0.size n false st1 (n - 1) = st at *
                have hfin := HFIN.out
                rw [HEV.out] at hfin
                have hle : leastE st = st.2.2 := by simp [leastE, hfin]
                rw [hle]
                clear hle hfin
                go_wp2
                refine bodyPost_ret (v := evenV st true) (by simp [results, Try.results40, go_sem]) rfl ⟨by rw [HEV.out], rfl⟩

theorem bar_eql (a b c d : Int) (w : World) : (binOp .eql 37 (bar2 a b) (bar2 c d)).run Try.prog w = .ok (.bool (a == c && b == d)) w := by
  have ht : Try.prog.underlying 37 = some (.struct (Try.prog.fieldsOf 37)) := by kernel_rfl
  have hp : Try.prog.stoodInHeld 37 = false := by kernel_rfl
  rw [run_eql_struct, run_equalIn_agg _ _ _ _ _ ht hp]
  have hi := Try.underlying3
  by_cases h1 : (a == c) = true
  · by_cases h2 : (b == d) = true
    · simp [Program.fieldsOf, Try.underlying37, Op.eqFields, hi, h1, h2, go_sem]
    · have h2' : (b == d) = false := by simpa using h2
      simp [Program.fieldsOf, Try.underlying37, Op.eqFields, hi, h1, h2', go_sem]
  · have h1' : (a == c) = false := by simpa using h1
    simp [Program.fieldsOf, Try.underlying37, Op.eqFields, hi, h1', go_sem]

/-- block g is the struct of a break -/
def BrkAt (w : World) (g : Nat) (p : Int) (d : Bool) (t : Int) : Prop := w.heap[g]? = some (.cells #[.int .i64 p, .bool d, .int .i64 t] 76 (0, 0))
theorem BrkAt.lt {w : World} {g : Nat} {p t : Int} {d : Bool} (h : BrkAt w g p d t) : g < w.heap.size := (Array.getElem?_eq_some_iff.1 h).1
theorem BrkAt.cells {w : World} {g : Nat} {p t : Int} {d : Bool} (h : BrkAt w g p d t) : w.cell? ⟨g, 0, none⟩ = some (.int .i64 p) ∧ w.cell? ⟨g, 1, none⟩ = some (.bool d) ∧ w.cell? ⟨g, 2, none⟩ = some (.int .i64 t) := by
  unfold BrkAt at h
  refine ⟨?_, ?_, ?_⟩ <;> simp [World.cell?, h]
theorem BrkAt.free {w : World} {g : Nat} {p t : Int} {d : Bool} (h : BrkAt w g p d t) : w.frozen? ⟨g, 0, none⟩ = false ∧ w.frozen? ⟨g, 1, none⟩ = false ∧ w.frozen? ⟨g, 2, none⟩ = false := by
  unfold BrkAt at h
  refine ⟨?_, ?_, ?_⟩ <;> simp [World.frozen?, h]
theorem BrkAt.below {w w' : World} {B g : Nat} {p t : Int} {d : Bool} (h : BrkAt w g p d t) (hb : Below B w w') (hg : g < B) : BrkAt w' g p d t := (hb.block g hg).trans h
theorem BrkAt.set {w : World} {g : Nat} {p t p' t' : Int} {d d' : Bool} (h : BrkAt w g p d t) : BrkAt (((w.setCell ⟨g, 0, none⟩ (.int .i64 p')).setCell ⟨g, 1, none⟩ (.bool d')).setCell ⟨g, 2, none⟩ (.int .i64 t')) g p' d' t' := by
  unfold BrkAt at h ⊢
  simp [World.setCell, Array.getElem?_modify, h]
theorem BrkAt.new (w : World) (p t : Int) (d : Bool) : BrkAt (w.alloc (.cells #[.int .i64 p, .bool d, .int .i64 t] 76)) w.heap.size p d t := by
  unfold BrkAt
  show (w.heap.push _)[w.heap.size]? = _
  simp
/-- the best break when j ways have been looked at -/
def evenJ (ss : List ByteArray) (W n : Nat) : Nat → EB
  | 0 => (false, 0, 0)
  | 1 => bestE ss W n true (false, 0, 0) (W - 1)
  | _ => evenE ss W n
theorem idx_way (j : Nat) (hj : j < 2) (w : World) : (Instr.index 77 (.agg #[.bool true, .bool false]) (.int .i64 (j : Int))).run Try.prog w = .ok (.bool (decide (j = 0))) w := by
  rcases (show j = 0 ∨ j = 1 by omega) with rfl | rfl
  · kernel_rfl
  · kernel_rfl
theorem evenJ_succ {ss : List ByteArray} {W n j : Nat} (hj : j < 2) : evenJ ss W n (j + 1) = bestE ss W n (decide (j = 0)) (evenJ ss W n j) (numL W n (decide (j = 0)) - 1) := by
  rcases (show j = 0 ∨ j = 1 by omega) with rfl | rfl
  · rfl
  · rfl
theorem evenJ_bound {ss : List ByteArray} {W n j : Nat} (hb : NB ss W n) (hj : j ≤ 2) : (evenJ ss W n j).2.1 ≤ 8 ∧ 0 ≤ (evenJ ss W n j).2.2 ∧ (evenJ ss W n j).2.2 ≤ 5000 := by
  induction j with
  | zero => exact ⟨by show 0 ≤ 8; omega, by show (0 : Int) ≤ 0; omega, by show (0 : Int) ≤ 5000; omega⟩
  | succ j ih =>
    rw [evenJ_succ (by omega)]
    exact bestE_bound hb (ih (by omega)) (by have := hb.w1; have := hb.h1; have : 1 ≤ numL W n (decide (j = 0)) := by { cases decide (j = 0) <;> simp [numL] <;> omega }; omega)

set_option maxRecDepth 100000 in
set_option maxHeartbeats 4000000 in
theorem evenBreak_any (A : Option Addr) (n c : Nat) (ss : List ByteArray) (w : World) (hr : Rd w 1 A n (strCells ss)) :
    Calls Try.prog 41 #[.slice A n c] w fun e w' => e = .returned (evenV (evenR ss) (evenOk ss)) ∧ Below w.heap.size w w' := by
  cases hB : nutsB ss
  · have hk : evenOk ss = false := by simp [evenOk, hB]
    have hR : evenR ss = (false, 0, 0) := by simp [evenR, hk]
    rw [hR, hk]
    clear hR hk
    go_enter Try.func41, Try.ntmps41
    go_wp2_with fail
    refine (areNuts_any _ _ _ _ _ hr).mono ?_; rintro e w1 ⟨rfl, rfl⟩
    go_wp2
    refine bodyPost_ret (v := evenV (false, 0, 0) false) (by simp [results, Try.results41, go_sem]) rfl ⟨rfl, Below.refl _ _⟩
  · have hb := NB.of hB
    have hl := hr.slen
    rw [hl] at hb
    by_cases h1 : nutW ss = 1 ∧ n = 1
    · have hk : evenOk ss = false := by simp [evenOk, h1.1, hl, h1.2]
      have hR : evenR ss = (false, 0, 0) := by simp [evenR, hk]
      rw [hR, hk]
      have heq : ∀ wx, (binOp .eql 37 (bar2 (nutW ss) n) (bar2 1 1)).run Try.prog wx = .ok (.bool true) wx := fun wx => by
        rw [bar_eql, h1.1, h1.2]
        rfl
      clear hR hk hl h1
      go_enter Try.func41, Try.ntmps41
      go_wp2_with fail
      refine (areNuts_any _ _ _ _ _ hr).mono ?_; rintro e w1 ⟨rfl, rfl⟩
      go_wp2_with fail
      refine (barOf_any _ _ _ _ ss _ hr hb).mono ?_; rintro e w1 ⟨rfl, hb1⟩
      go_wp2
      refine bodyPost_ret (v := evenV (false, 0, 0) false) (by simp [results, Try.results41, go_sem]) rfl ⟨rfl, hb1⟩
    · have hk : evenOk ss = true := by simp [evenOk, hB, hl]; omega
      have hR : evenR ss = evenE ss (nutW ss) n := by simp [evenR, hk, hl]
      have heq : ∀ wx, (binOp .eql 37 (bar2 (nutW ss) n) (bar2 1 1)).run Try.prog wx = .ok (.bool false) wx := fun wx => by
        have e : (((nutW ss : Int) == 1) && ((n : Int) == 1)) = false := by
          rw [Bool.and_eq_false_iff]
          simp
          omega
        rw [bar_eql, e]
      rw [hR, hk]
      clear hR hk hl
      go_enter Try.func41, Try.ntmps41
      go_wp2_with fail
      refine (areNuts_any _ _ _ _ _ hr).mono ?_; rintro e w1 ⟨rfl, rfl⟩
      go_wp2_with fail
      refine (barOf_any _ _ _ _ ss _ hr hb).mono ?_; rintro e w1 ⟨rfl, hb1⟩
      have h8 := hb.h8
      have w8 := hb.w8
      have BA0 := BrkAt.new w1 0 0 false
      have hB1 : Below w.heap.size w (w1.alloc (.cells #[.int .i64 0, .bool false, .int .i64 0] 76)) := hb1.alloc hb1.size _
      have s1 := hb1.size
      generalize hWW : nutW ss = W at *
      have HWW := Lib.hid hWW
      clear hWW
      go_wp2
      go_loopw [7, 22] (fun l i wr => ∃ j : Nat, j ≤ 2 ∧ i = .int .i64 j ∧ l = .int .i64 (evenJ ss W n j).2.2 ∧ BrkAt wr w1.heap.size 0 (evenJ ss W n j).1 (evenJ ss W n j).2.1 ∧ Below w.heap.size w wr) (fun _ i _ => 2 - (intOf i).toNat)
      case atStart => exact ⟨0, by omega, rfl, rfl, BA0, hB1⟩
      case round =>
        clear BA0 hB1
        obtain ⟨j, hj, rfl, rfl, hBA, hBl⟩ := hrel
        by_cases hlt : j < 2
        · have hidx := fun wx => idx_way j hlt wx
          have HJ := Lib.hid (evenJ_succ (ss := ss) (W := W) (n := n) hlt)
          have hjb := evenJ_bound (j := j) hb (by omega)
          generalize hdd : decide (j = 0) = d at *
          generalize evenJ ss W n j = st0 at *
          clear hdd
          go_wp2_with fail
          refine (differences_any _ _ _ _ ss _ _ (hr.later hBl (Nat.le_refl _)) hb).mono ?_; rintro e w2 ⟨A2, n2, c2, rfl, own2, hb2⟩
          have hbl2 := hBA.lt
          have hBA2 := hBA.below hb2 hbl2
          have l2 : n2 = numL W n d - 1 := by have h := (Rd.of_own own2).ilen; rw [length_diffL] at h; omega
          have hBl2 := bcall hBl.size hb2 hBl
          have n8 : n2 ≤ 8 := by have : numL W n d ≤ 8 := (by cases d <;> simp [numL] <;> omega); omega
          have n9 : n2 < numL W n d ∨ numL W n d = 0 := by omega
          have n1' : 1 ≤ numL W n d := by have := hb.h1; have := hb.w1; cases d <;> simp [numL] <;> omega
          have HL2 := Lib.hid l2
          rw [← l2] at own2
          clear l2
          obtain ⟨wo, rfl⟩ : ∃ wo : World, wo = wr := ⟨_, rfl⟩
          have so := hBl.size
          go_wp2
          go_loopw [7, 29] (fun l i wr => ∃ k : Nat, k ≤ n2 ∧ i = .int .i64 k ∧ l = .int .i64 (bestE ss W n d st0 k).2.2 ∧ BrkAt wr w1.heap.size 0 (bestE ss W n d st0 k).1 (bestE ss W n d st0 k).2.1 ∧ wr.ownsRow wo.heap.size 3 1 (.slice A2 n2 c2) n2 (intCells (diffL ss W n d n2)) ∧ Below w.heap.size w wr) (fun _ i _ => n2 - (intOf i).toNat)
          case atStart => exact ⟨0, Nat.zero_le _, rfl, rfl, hBA2, own2, hBl2⟩
          case round =>
            clear hBA2 own2 hBl2
            obtain ⟨k, hk, rfl, rfl, hBA2, own2, hBl2⟩ := hrel
            by_cases hlk : k < n2
            · obtain ⟨b3, o3, rfl, _, hx3, p3⟩ := (Rd.of_own own2).num hlk
              have hval : (diffL ss W n d n2)[k] = brkD ss W n d (k + 1) := by
                have := diffL_at (ss := ss) (W := W) (n := n) (d := d) hlk
                rw [List.getElem?_eq_getElem hx3] at this
                simpa using this
              rw [hval] at p3
              have hbd := brkD_bound hb (k := k + 1) (d := d) (by omega)
              have HS : Hid (bestE ss W n d st0 (k + 1) = stepE (bestE ss W n d st0 k) (d, k + 1, brkD ss W n d (k + 1))) := rfl
              have hb0 := bestE_bound (d := d) (st := st0) hb hjb (k := k) (by omega)
              generalize bestE ss W n d st0 k = st at *
              obtain ⟨sd, sa, sl⟩ := st
              obtain ⟨q1, q2, q3⟩ := hb0
              simp only at q1 q2 q3 hBA2
              generalize hz : brkD ss W n d (k + 1) = z at *
              obtain ⟨ca, cb, cc⟩ := hBA2.cells
              obtain ⟨fa, fb, fc⟩ := hBA2.free
              have hset := hBA2.set (p' := 0) (d' := d) (t' := (k : Int) + 1)
              have hown2 : ((((wr.setCell ⟨w1.heap.size, 0, none⟩ (.int .i64 0)).setCell ⟨w1.heap.size, 1, none⟩ (.bool d)).setCell ⟨w1.heap.size, 2, none⟩ (.int .i64 ((k : Int) + 1)))).ownsRow wo.heap.size 3 1 (.slice (some ⟨b3, o3, none⟩) n2 c2) n2 (intCells (diffL ss W n d n2)) :=
                ownsRow_setCell_below (ownsRow_setCell_below (ownsRow_setCell_below own2 hbl2 _) hbl2 _) hbl2 _
              have hbel : Below w.heap.size w (((wr.setCell ⟨w1.heap.size, 0, none⟩ (.int .i64 0)).setCell ⟨w1.heap.size, 1, none⟩ (.bool d)).setCell ⟨w1.heap.size, 2, none⟩ (.int .i64 ((k : Int) + 1))) := bset s1 _ (bset s1 _ (bset s1 _ hBl2))
              have HSET := Lib.hid hset
              have HOWN := Lib.hid hown2
              have HBEL := Lib.hid hbel
              clear hset hown2 hbel hval hz hbl2
              by_cases h0 : sa = 0
              · have HE : Hid (stepE (sd, sa, sl) (d, k + 1, z) = (d, k + 1, z)) := by simp [Hid, stepE, h0]
                have e0 : (((sa : Nat) : Int) == 0) = true := by simp [h0]
                clear h0
                go_wp2
                go_roundw
                case rel => exact ⟨k + 1, by omega, by go_num, by rw [HS.out, HE.out], by rw [HS.out, HE.out]; exact HSET.out, HOWN.out, HBEL.out⟩
                case measure => simp [intOf]; omega
              · have e0 : (((sa : Nat) : Int) == 0) = false := by simp; omega
                by_cases hlz : z < sl
                · have HE : Hid (stepE (sd, sa, sl) (d, k + 1, z) = (d, k + 1, z)) := by simp [Hid, stepE, hlz]
                  clear h0
                  go_wp2
                  go_roundw
                  case rel => exact ⟨k + 1, by omega, by go_num, by rw [HS.out, HE.out], by rw [HS.out, HE.out]; exact HSET.out, HOWN.out, HBEL.out⟩
                  case measure => simp [intOf]; omega
                · have HE : Hid (stepE (sd, sa, sl) (d, k + 1, z) = (sd, sa, sl)) := by simp [Hid, stepE, h0]; omega
                  clear h0
                  go_wp2
                  go_roundw
                  case rel => exact ⟨k + 1, by omega, by go_num, by rw [HS.out, HE.out], by rw [HS.out, HE.out]; exact hBA2, own2, hBl2⟩
                  case measure => simp [intOf]; omega
            · have hkn : k = n2 := by omega
              subst hkn
              go_wp2
              go_roundw
              case rel => exact ⟨j + 1, by omega, by go_num, by rw [HJ.out, HL2.out], by rw [HJ.out, ← HL2.out]; exact hBA2, hBl2⟩
              case measure => simp [intOf]; omega
        · have hj2 : j = 2 := by omega
          subst hj2
          have HEV : Hid (evenJ ss W n 2 = evenE ss W n) := rfl
          generalize evenJ ss W n 2 = st at *
          obtain ⟨ca, cb, cc⟩ := hBA.cells
          go_wp2
          go_quiet (fail)
          go_wp2
          refine bodyPost_ret (v := evenV st true) (by simp [results, Try.results41, go_sem]) rfl ⟨by rw [HEV.out, ← HWW.out], by (repeat (first | (with_reducible exact Below.refl _ _) | (with_reducible assumption) | (with_reducible refine Below.drew ?_) | ((with_reducible refine balloc ?_ _ ?_); · (first | (simp; done) | (simp; omega) | omega)) | ((with_reducible refine bset ?_ _ ?_); · (first | (simp; done) | (simp; omega) | omega)) | (with_reducible refine bdrewN _ ?_) | ((with_reducible refine bcall ?_ (by assumption) ?_); · (first | (simp; done) | (simp; omega) | omega))))⟩

end Go.Proofs.Ytbjjpndhfgfedaa
