/-
  Contracts: EqualBreaks of the program and of the model.
-/
import Derived.Test.YtbjjpndhfgfedaaBreaks
namespace Go.Proofs.Ytbjjpndhfgfedaa
open Go.RowKit

/-- the places of 0 among the first k numbers, counted from 1 -/
def zeroTo (l : List Int) (k : Nat) : List Int := ((List.range k).filter fun (i : Nat) => decide (l[i]? = some 0)).map fun (i : Nat) => (i : Int) + 1
theorem length_zeroTo (l : List Int) (k : Nat) : (zeroTo l k).length ≤ k := by
  have := List.length_filter_le (fun i => decide (l[i]? = some 0)) (List.range k)
  simp [zeroTo]
  simpa using this
theorem zeroTo_yes {l : List Int} {k : Nat} {z : Int} (h : l[k]? = some z) (hz : z = 0) : zeroTo l (k + 1) = zeroTo l k ++ [(k : Int) + 1] := by
  subst hz
  simp [zeroTo, List.range_succ, List.filter_append, h]
theorem zeroTo_no {l : List Int} {k : Nat} {z : Int} (h : l[k]? = some z) (hz : z ≠ 0) : zeroTo l (k + 1) = zeroTo l k := by
  simp [zeroTo, List.range_succ, List.filter_append, h, hz]

set_option maxRecDepth 100000 in
set_option maxHeartbeats 2000000 in
theorem placesOfZero_any (A : Option Addr) (n c : Nat) (l : List Int) (w : World) (hr : Rd w 1 A n (intCells l)) (hn : n ≤ 1000) :
    Calls Try.prog 66 #[.slice A n c] w fun e w' => ∃ A' n' c', e = .returned (.slice A' n' c') ∧ w'.ownsRow w.heap.size 3 1 (.slice A' n' c') n' (intCells (zeroTo l n)) ∧ Below w.heap.size w w' := by
  obtain ⟨i0, hi, hz0, hz1, hz2⟩ := info_parts int_info
  have HL := Lib.hid hr.ilen
  go_enter Try.func66, Try.ntmps66
  go_wp2
  go_loopw [3, 8] (fun v i wr => ∃ (k : Nat) (A' : Option Addr) (m c' : Nat), k ≤ n ∧ i = .int .i64 k ∧ v = .slice A' m c' ∧ m ≤ k ∧ wr.ownsRow w.heap.size 3 1 (.slice A' m c') m (intCells (zeroTo l k)) ∧ Below w.heap.size w wr) (fun _ i _ => n - (intOf i).toNat)
  case atStart => exact ⟨0, none, 0, 0, Nat.zero_le _, rfl, rfl, Nat.le_refl _, World.ownsRow_nil _ _ _ _, Below.refl _ _⟩
  case round =>
    obtain ⟨k, A', m, c', hk, rfl, rfl, hm, hown, hBl⟩ := hrel
    have sB := hBl.size
    by_cases hlt : k < n
    · obtain ⟨b1', o1, rfl, _, hx, p1⟩ := (hr.later hBl (Nat.le_refl _)).num hlt
      have hxe : l[k]? = some l[k] := List.getElem?_eq_getElem hx
      generalize hz : l[k] = z at *
      clear hz
      by_cases h0 : z = 0
      · have HZ := Lib.hid (zeroTo_yes hxe h0)
        have e1 : (z == 0) = true := by simp [h0]
        have hc3 : m + 1 ≤ maxLen := by simp only [maxLen]; omega
        clear h0 hxe
        go_wp2_with (at_builtin; refine wpList_append_own _ rfl (.tmp 15) (.tmp 18) 29 rfl w.heap.size 3 i0 (.int .i64 0) 1 8 Try.underlying29 hi hz0 hz1 hz2 rfl (by decide) _ _ _ rfl (hown.alloc _) ⟨wr.heap.size, 0, none⟩ 1 1 [.int .i64 ((k : Int) + 1)] rfl rfl (new1 _ _ _) (int_oneCell [(k : Int) + 1]) hc3 (by omega) (Nat.le_trans sB (by simp)) ?_)
        intro v' w2 hown' hgrow _
        have hb2 := gb_new (Nat.le_refl _) (hBl.alloc sB _) hgrow (fun g hg => (hown.lt g hg).1)
        obtain ⟨A2, c2, rfl⟩ := own_slice hown'
        clear hgrow hown hBl hc3
        go_wp2
        go_roundw
        case rel => exact ⟨k + 1, A2, m + 1, c2, by omega, by go_num, rfl, by omega, by rw [HZ.out, intCells_append]; exact hown', hb2⟩
        case measure => simp [intOf]; omega
      · have HZ := Lib.hid (zeroTo_no hxe h0)
        have e1 : (z == 0) = false := by simpa using h0
        clear h0 hxe
        go_wp2
        go_roundw
        case rel => exact ⟨k + 1, A', m, c', by omega, by go_num, rfl, by omega, by rw [HZ.out]; exact hown, hBl⟩
        case measure => simp [intOf]; omega
    · go_wp2
      go_ret
      have : k = n := by omega
      subst this
      exact ⟨A', m, c', rfl, hown, hBl⟩

/-- the places of equal breaks -/
def eqbL (ss : List ByteArray) (W n : Nat) (d : Bool) : List Int := zeroTo (diffL ss W n d (numL W n d - 1)) (numL W n d - 1)
def eqbR (ss : List ByteArray) (d : Bool) : List Int := if nutsB ss then eqbL ss (nutW ss) ss.length d else []
theorem eqbR_yes {ss : List ByteArray} {W n : Nat} (h : NB ss W n) (d : Bool) : eqbR ss d = eqbL ss W n d := by
  unfold eqbR
  rw [h.good, if_pos rfl, h.len, h.headW]
theorem eqbR_no {ss : List ByteArray} (h : nutsB ss = false) (d : Bool) : eqbR ss d = [] := by
  unfold eqbR
  rw [h]
  rfl
theorem length_eqbR (ss : List ByteArray) (d : Bool) : (eqbR ss d).length ≤ 8 := by
  unfold eqbR
  split
  · rename_i h
    have hb := NB.of h
    have h8 := hb.h8
    have w8 := hb.w8
    have := length_zeroTo (diffL ss (nutW ss) ss.length d (numL (nutW ss) ss.length d - 1)) (numL (nutW ss) ss.length d - 1)
    unfold eqbL
    have h3 : numL (nutW ss) ss.length d ≤ 8 := by cases d <;> simp [numL] <;> omega
    omega
  · simp
theorem diffL_at {ss : List ByteArray} {W n : Nat} {d : Bool} {m k : Nat} (h : k < m) : (diffL ss W n d m)[k]? = some (brkD ss W n d (k + 1)) := by
  simp [diffL, h]
def Apart (v v' : Value) : Prop := (v.ownBlock = none ∨ v.ownBlock ≠ v'.ownBlock) ∧ (v'.ownBlock = none ∨ v'.ownBlock ≠ v.ownBlock)

set_option maxRecDepth 100000 in
set_option maxHeartbeats 1000000 in
theorem equalBreaks_any (A : Option Addr) (n c : Nat) (ss : List ByteArray) (w : World) (hr : Rd w 1 A n (strCells ss)) :
    Calls Try.prog 43 #[.slice A n c] w fun e w' => ∃ A1 n1 c1 A2 n2 c2, e = .returned (.tuple #[.slice A1 n1 c1, .slice A2 n2 c2, .bool (nutsB ss)]) ∧ w'.ownsRow w.heap.size 3 1 (.slice A1 n1 c1) n1 (intCells (eqbR ss true)) ∧ w'.ownsRow w.heap.size 3 1 (.slice A2 n2 c2) n2 (intCells (eqbR ss false)) ∧ Apart (.slice A1 n1 c1) (.slice A2 n2 c2) ∧ Below w.heap.size w w' := by
  cases hB : nutsB ss
  · rw [eqbR_no hB, eqbR_no hB]
    go_enter Try.func43, Try.ntmps43
    go_wp2_with fail
    refine (areNuts_any _ _ _ _ _ hr).mono ?_; rintro e w1 ⟨rfl, rfl⟩
    go_wp2
    go_ret3
    exact ⟨none, 0, 0, none, 0, 0, rfl, World.ownsRow_nil _ _ _ _, World.ownsRow_nil _ _ _ _, ⟨.inl rfl, .inl rfl⟩, Below.refl _ _⟩
  · have hb := NB.of hB
    rw [hr.slen] at hb
    rw [eqbR_yes hb, eqbR_yes hb]
    generalize nutW ss = W at *
    have h8 := hb.h8
    have w8 := hb.w8
    have k1 : numL W n true ≤ 8 := by simp [numL]; omega
    have k2 : numL W n false ≤ 8 := by simp [numL]; omega
    go_enter Try.func43, Try.ntmps43
    go_wp2_with fail
    refine (areNuts_any _ _ _ _ _ hr).mono ?_; rintro e w1 ⟨rfl, rfl⟩
    go_wp2_with fail
    refine (differences_any _ _ _ _ ss _ _ hr hb).mono ?_; rintro e w1 ⟨A1, n1, c1, rfl, own1, hb1⟩
    have l1 : n1 = numL W n true - 1 := by have h := (Rd.of_own own1).ilen; rw [length_diffL] at h; omega
    subst l1
    go_wp2_with fail
    refine (placesOfZero_any _ _ _ _ _ (Rd.of_own own1) (by omega)).mono ?_; rintro e w2 ⟨A2, n2, c2, rfl, own2, hb2⟩
    have hb20 := bcall hb1.size hb2 hb1
    go_wp2_with fail
    refine (differences_any _ _ _ _ ss _ _ (hr.later hb20 (Nat.le_refl _)) hb).mono ?_; rintro e w3 ⟨A3, n3, c3, rfl, own3, hb3⟩
    have l3 : n3 = numL W n false - 1 := by have h := (Rd.of_own own3).ilen; rw [length_diffL] at h; omega
    subst l3
    have hb30 := bcall hb20.size hb3 hb20
    go_wp2_with fail
    refine (placesOfZero_any _ _ _ _ _ (Rd.of_own own3) (by omega)).mono ?_; rintro e w4 ⟨A4, n4, c4, rfl, own4, hb4⟩
    have hb40 := bcall hb30.size hb4 hb30
    have s1 := hb1.size
    have s2 := hb2.size
    have s3 := hb3.size
    have own5 := own_base (own_later (own_later own2 hb3 (Nat.le_refl _)) hb4 (Nat.le_refl _)) (B' := w.heap.size) s1
    have own6 := own_base own4 (B' := w.heap.size) (by omega)
    have ap : Apart (.slice A2 n2 c2) (.slice A4 n4 c4) := ⟨own_apart (fun g h => own2.lt g h) (fun g h => own4.lt g h) (.inl s3), own_apart (fun g h => own4.lt g h) (fun g h => own2.lt g h) (.inr s3)⟩
    clear own1 own2 own3 own4
    go_wp2
    go_ret3
    exact ⟨A2, n2, c2, A4, n4, c4, rfl, own5, own6, ap, hb40⟩

set_option maxRecDepth 100000 in
set_option maxHeartbeats 4000000 in
theorem sEqualBreaks_any (A : Option Addr) (n c : Nat) (ss : List ByteArray) (w : World) (hr : Rd w 1 A n (strCells ss)) :
    Calls Try.prog 42 #[.slice A n c] w fun e w' => ∃ A1 n1 c1 A2 n2 c2, e = .returned (.tuple #[.slice A1 n1 c1, .slice A2 n2 c2, .bool (nutsB ss)]) ∧ w'.ownsRow w.heap.size 3 1 (.slice A1 n1 c1) n1 (intCells (eqbR ss true)) ∧ w'.ownsRow w.heap.size 3 1 (.slice A2 n2 c2) n2 (intCells (eqbR ss false)) ∧ Below w.heap.size w w' := by
  cases hB : nutsB ss
  · rw [eqbR_no hB, eqbR_no hB]
    go_enter Try.func42, Try.ntmps42
    go_wp2_with fail
    refine (ntGood_any _ _ _ _ _ hr).mono ?_; rintro e w1 ⟨rfl, rfl⟩
    go_wp2
    go_ret3
    exact ⟨none, 0, 0, none, 0, 0, rfl, World.ownsRow_nil _ _ _ _, World.ownsRow_nil _ _ _ _, Below.refl _ _⟩
  · have hb := NB.of hB
    rw [hr.slen] at hb
    rw [eqbR_yes hb, eqbR_yes hb]
    generalize nutW ss = W at *
    obtain ⟨i0, hi, hz0, hz1, hz2⟩ := info_parts int_info
    obtain ⟨b, o, rfl, hbl, s0, p0, hs0, _⟩ := hr.nut0 hb
    have hs := hs0.out
    subst hs
    have hn1 := hb.h1
    have hW1 := hb.w1
    have hn8 := hb.h8
    have hW8 := hb.w8
    have kT : numL s0.size n true = s0.size := rfl
    have kF : numL s0.size n false = n := rfl
    have KT := Lib.hid kT
    have KF := Lib.hid kF
    clear kT kF
    go_enter Try.func42, Try.ntmps42
    go_wp2_with fail
    refine (ntGood_any _ _ _ _ _ hr).mono ?_; rintro e w1 ⟨rfl, rfl⟩
    go_wp2
    clear hB
    go_loopw [5, 7] (fun v i wr => ∃ (k : Nat) (A' : Option Addr) (m c' : Nat), 1 ≤ k ∧ k ≤ s0.size ∧ i = .int .i64 k ∧ v = .slice A' m c' ∧ m < k ∧ wr.ownsRow w.heap.size 3 1 (.slice A' m c') m (intCells (zeroTo (diffL ss s0.size n true (s0.size - 1)) (k - 1))) ∧ Below w.heap.size w wr) (fun _ i _ => s0.size - (intOf i).toNat)
    case atStart => exact ⟨1, none, 0, 0, Nat.le_refl _, hW1, rfl, rfl, by omega, World.ownsRow_nil _ _ _ _, Below.refl _ _⟩
    case round =>
      obtain ⟨k, A', m, c', hk1, hk, rfl, rfl, hm, hown, hBl⟩ := hrel
      have sB := hBl.size
      have pr := (hBl.cell (p := ⟨b, o, none⟩) hbl).trans p0
      by_cases hlt : k < s0.size
      · have hat := diffL_at (ss := ss) (W := s0.size) (n := n) (d := true) (show k - 1 < s0.size - 1 by omega)
        rw [show k - 1 + 1 = k by omega] at hat
        go_wp2_with fail
        refine (ntBreak_any _ _ _ _ ss _ k _ (hr.later hBl (Nat.le_refl _)) hb (by rw [KT.out]; exact hk)).mono ?_; rintro e wx ⟨rfl, rfl⟩
        generalize hz : brkD ss s0.size n true k = z at *
        clear hz
        by_cases h0 : z = 0
        · have hzt := zeroTo_yes hat h0
          rw [show k - 1 + 1 = k + 1 - 1 by omega, show ((k - 1 : Nat) : Int) + 1 = (k : Int) by omega] at hzt
          have HZ := Lib.hid hzt
          have e1 : (z == 0) = true := by simp [h0]
          have hc3 : m + 1 ≤ maxLen := by simp only [maxLen]; omega
          clear h0 hat hzt
          go_wp2_with (at_builtin; refine wpList_append_own _ rfl (.tmp 24) (.tmp 26) 29 rfl w.heap.size 3 i0 (.int .i64 0) 1 8 Try.underlying29 hi hz0 hz1 hz2 rfl (by decide) _ _ _ rfl (hown.alloc _) ⟨wr.heap.size, 0, none⟩ 1 1 [.int .i64 (k : Int)] rfl rfl (new1 _ _ _) (int_oneCell [(k : Int)]) hc3 (by omega) (Nat.le_trans sB (by simp)) ?_)
          intro v' w2 hown' hgrow _
          have hb2 := gb_new (Nat.le_refl _) (hBl.alloc sB _) hgrow (fun g hg => (hown.lt g hg).1)
          obtain ⟨A2, c2, rfl⟩ := own_slice hown'
          clear hgrow hown hBl hc3
          go_wp2
          go_roundw
          case rel => exact ⟨k + 1, A2, m + 1, c2, by omega, by omega, by go_num, rfl, by omega, by rw [HZ.out, intCells_append]; exact hown', hb2⟩
          case measure => simp [intOf]; omega
        · have hzt := zeroTo_no hat h0
          rw [show k - 1 + 1 = k + 1 - 1 by omega] at hzt
          have HZ := Lib.hid hzt
          have e1 : (z == 0) = false := by simpa using h0
          clear h0 hat hzt
          go_wp2
          go_roundw
          case rel => exact ⟨k + 1, A', m, c', by omega, by omega, by go_num, rfl, by omega, by rw [HZ.out]; exact hown, hBl⟩
          case measure => simp [intOf]; omega
      · have : k = s0.size := by omega
        subst this
        obtain ⟨wo, rfl⟩ : ∃ wo : World, wo = wr := ⟨_, rfl⟩
        go_wp2
        go_loopw [6, 8] (fun v i wr => ∃ (k : Nat) (A2 : Option Addr) (m2 c2 : Nat), 1 ≤ k ∧ k ≤ n ∧ i = .int .i64 k ∧ v = .slice A2 m2 c2 ∧ m2 < k ∧ wr.ownsRow wo.heap.size 3 1 (.slice A2 m2 c2) m2 (intCells (zeroTo (diffL ss s0.size n false (n - 1)) (k - 1))) ∧ Below wo.heap.size wo wr) (fun _ i _ => n - (intOf i).toNat)
        case atStart => exact ⟨1, none, 0, 0, Nat.le_refl _, hn1, rfl, rfl, by omega, World.ownsRow_nil _ _ _ _, Below.refl _ _⟩
        case round =>
          obtain ⟨k, A2, m2, c2, hk1', hk', rfl, rfl, hm2, hown2, hBl2⟩ := hrel
          have sB2 := hBl2.size
          have hBw := bcall sB hBl2 hBl
          by_cases hlt2 : k < n
          · have hat := diffL_at (ss := ss) (W := s0.size) (n := n) (d := false) (show k - 1 < n - 1 by omega)
            rw [show k - 1 + 1 = k by omega] at hat
            go_wp2_with fail
            refine (ntBreak_any _ _ _ _ ss _ k _ (hr.later hBw (Nat.le_refl _)) hb (by rw [KF.out]; exact hk')).mono ?_; rintro e wx ⟨rfl, rfl⟩
            generalize hz : brkD ss s0.size n false k = z at *
            clear hz
            by_cases h0 : z = 0
            · have hzt := zeroTo_yes hat h0
              rw [show k - 1 + 1 = k + 1 - 1 by omega, show ((k - 1 : Nat) : Int) + 1 = (k : Int) by omega] at hzt
              have HZ := Lib.hid hzt
              have e1 : (z == 0) = true := by simp [h0]
              have hc3 : m2 + 1 ≤ maxLen := by simp only [maxLen]; omega
              clear h0 hat hzt
              go_wp2_with (at_builtin; refine wpList_append_own _ rfl (.tmp 38) (.tmp 40) 29 rfl wo.heap.size 3 i0 (.int .i64 0) 1 8 Try.underlying29 hi hz0 hz1 hz2 rfl (by decide) _ _ _ rfl (hown2.alloc _) ⟨wr.heap.size, 0, none⟩ 1 1 [.int .i64 (k : Int)] rfl rfl (new1 _ _ _) (int_oneCell [(k : Int)]) hc3 (by omega) (Nat.le_trans sB2 (by simp)) ?_)
              intro v' w2 hown' hgrow _
              have hb2 := gb_new (Nat.le_refl _) (hBl2.alloc sB2 _) hgrow (fun g hg => (hown2.lt g hg).1)
              obtain ⟨A3, c3, rfl⟩ := own_slice hown'
              clear hgrow hown2 hBl2 hc3 hBw
              go_wp2
              go_roundw
              case rel => exact ⟨k + 1, A3, m2 + 1, c3, by omega, by omega, by go_num, rfl, by omega, by rw [HZ.out, intCells_append]; exact hown', hb2⟩
              case measure => simp [intOf]; omega
            · have hzt := zeroTo_no hat h0
              rw [show k - 1 + 1 = k + 1 - 1 by omega] at hzt
              have HZ := Lib.hid hzt
              have e1 : (z == 0) = false := by simpa using h0
              clear h0 hat hzt
              go_wp2
              go_roundw
              case rel => exact ⟨k + 1, A2, m2, c2, by omega, by omega, by go_num, rfl, by omega, by rw [HZ.out]; exact hown2, hBl2⟩
              case measure => simp [intOf]; omega
          · have : k = n := by omega
            subst this
            go_wp2
            go_ret3
            exact ⟨A', m, c', A2, m2, c2, rfl, own_later hown hBl2 (Nat.le_refl _), own_base hown2 sB, hBw⟩

end Go.Proofs.Ytbjjpndhfgfedaa
