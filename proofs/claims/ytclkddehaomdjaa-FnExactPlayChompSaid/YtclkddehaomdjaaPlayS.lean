/-
  Contracts: ChompAt and PlayChomp of the model; ChompAt of the program.
-/
import Derived.Test.YtclkddehaomdjaaPlayC
import Derived.Test.YtclkddehaomdjaaListS
namespace Go.Proofs.Ytclkddehaomdjaa
open Go.RowKit
set_option linter.unusedVariables false

theorem least_eat (x z : Int) : (if z < x then z else x) = (if x < z then x else z) := by split <;> split <;> omega
set_option maxHeartbeats 400000 in
theorem l1Least_any (a b : Int) (w : World) :
    Calls Try.prog 77 #[.int .i64 a, .int .i64 b] w fun e w' => e = .returned (.int .i64 (if b < a then b else a)) ∧ w = w' := by
  rw [← least_eat]
  by_cases h : a < b
  · rw [if_pos h]
    go_enter Try.func77, Try.ntmps77
    go_wp2
    go_ret
    exact ⟨rfl, rfl⟩
  · rw [if_neg h]
    go_enter Try.func77, Try.ntmps77
    go_wp2
    go_ret
    exact ⟨rfl, rfl⟩

set_option maxRecDepth 100000 in
set_option maxHeartbeats 2000000 in
theorem cmCan_any (A : Option Addr) (n c : Nat) (l : List Int) (x y : Int) (w : World) (hr : Rd w 1 A n (intCells l)) (hl : ChOK l) :
    Calls Try.prog 55 #[.slice A n c, .int .i64 x, .int .i64 y] w fun e w' => e = .returned (.bool (canC l x y)) ∧ w = w' := by
  have hll := hr.ilen
  have hm := canC_model l hl x y
  have n6 : n ≤ 6 := by have := hl.2.1; omega
  have n1 : 1 ≤ n := by have := hl.1; omega
  rw [hll] at hm
  have HL := Lib.hid hl
  by_cases hy : 0 ≤ y ∧ y ≤ (n : Int) - 1
  · obtain ⟨yn, rfl⟩ : ∃ yn : Nat, y = yn := ⟨y.toNat, by omega⟩
    have hyn : yn < n := by omega
    have hiy : inB (yn : Int) 0 ((n : Int) - 1) = true := by simp [inB]; omega
    obtain ⟨b, o, rfl, _, hx, p0⟩ := hr.num hyn
    have hz := getD_lt hx
    simp only [Int.toNat_natCast, hz] at hm
    have hz6 := hl.le6 yn
    have hz0 := hl.ge1 hx
    rw [hz] at hz6 hz0
    generalize l[yn] = z at *
    rw [decide_eq_true hy] at hm
    simp only [Bool.true_and] at hm
    have HY := Lib.hid hiy
    clear hx hz hy hl hll hiy
    by_cases hxx : 0 ≤ x ∧ x ≤ z - 1
    · rw [decide_eq_true hxx] at hm
      simp only [Bool.true_and] at hm
      have HM := Lib.hid hm
      have HX : Hid (inB x 0 (z - 1) = true) := by simp [Hid, inB]; omega
      obtain ⟨x0, x1⟩ := hxx
      clear hm
      go_enter Try.func55, Try.ntmps55
      go_wp2_with fail
      refine (l1In_any _ _ _ _).mono ?_; rintro e wx ⟨rfl, rfl⟩
      rw [HY.out]
      go_wp2_with fail
      refine (l1In_any _ _ _ _).mono ?_; rintro e wx ⟨rfl, rfl⟩
      rw [HX.out]
      go_wp2
      go_ret
      exact ⟨ret_bool HM.out.symm, rfl⟩
    · rw [decide_eq_false hxx] at hm
      simp only [Bool.false_and] at hm
      have HM := Lib.hid hm
      have HX : Hid (inB x 0 (z - 1) = false) := by simp only [Hid, inB]; exact decide_eq_false hxx
      clear hm hxx
      go_enter Try.func55, Try.ntmps55
      go_wp2_with fail
      refine (l1In_any _ _ _ _).mono ?_; rintro e wx ⟨rfl, rfl⟩
      rw [HY.out]
      go_wp2_with fail
      refine (l1In_any _ _ _ _).mono ?_; rintro e wx ⟨rfl, rfl⟩
      rw [HX.out]
      go_wp2
      go_ret
      exact ⟨ret_bool HM.out.symm, rfl⟩
  · have HY : Hid (inB y 0 ((n : Int) - 1) = false) := by simp only [Hid, inB]; exact decide_eq_false hy
    rw [decide_eq_false hy] at hm
    simp only [Bool.false_and] at hm
    have HM := Lib.hid hm
    clear hy hm hl hll
    go_enter Try.func55, Try.ntmps55
    go_wp2_with fail
    refine (l1In_any _ _ _ _).mono ?_; rintro e wx ⟨rfl, rfl⟩
    rw [HY.out]
    go_wp2
    go_ret
    exact ⟨ret_bool HM.out.symm, rfl⟩

set_option maxRecDepth 100000 in
set_option maxHeartbeats 2000000 in
theorem cmBite_any (A : Option Addr) (n c : Nat) (l : List Int) (x : Int) (y : Nat) (w : World) (hr : Rd w 1 A n (intCells l)) (hl : ChOK l) (hx : 0 ≤ x) (hy : y < 6) :
    Calls Try.prog 56 #[.slice A n c, .int .i64 x, .int .i64 (y : Int)] w fun e w' => ∃ A' n' c', e = .returned (.slice A' n' c') ∧ w'.ownsRow w.heap.size 3 1 (.slice A' n' c') n' (intCells (biteL l x y)) ∧ Below w.heap.size w w' := by
  obtain ⟨i0, hi, hz0, hz1, hz2⟩ := info_parts int_info
  have hll := hr.ilen
  have n6 : n ≤ 6 := by have := hl.2.1; omega
  obtain ⟨g, hg⟩ : ∃ g : Nat → Int, g = eatF (fun j => l.getD j 0) x y := ⟨_, rfl⟩
  have HG : Hid (∀ j, g j = if y ≤ j then (if x < l.getD j 0 then x else l.getD j 0) else l.getD j 0) := fun j => by rw [hg]; rfl
  have HRS : Hid (rowsK g n = biteL l x y) := by
    simp only [Hid, biteL, Int.toNat_natCast, ← hg]
    have h := rowsK_more (f := g) (n := n) (6 - n) (fun j h1 h2 => by
      rw [HG.out]
      have e : l.getD j 0 = 0 := getD_past (by omega)
      rw [e]
      split
      · rw [if_neg (by omega)]; omega
      · omega)
    rw [show n + (6 - n) = 6 by omega] at h
    exact h.symm
  have HL := Lib.hid hl
  rw [← HRS.out]
  clear hl hg hll
  go_enter Try.func56, Try.ntmps56
  go_wp2
  go_loopw [7, 12] (fun v i wr => ∃ (k m : Nat) (A' : Option Addr) (c' : Nat), k ≤ n ∧ m ≤ k ∧ i = .int .i64 k ∧ v = .slice A' m c' ∧ wr.ownsRow w.heap.size 3 1 (.slice A' m c') m (intCells (rowsK g k)) ∧ Below w.heap.size w wr) (fun _ i _ => n - (intOf i).toNat)
  case atStart => exact ⟨0, 0, none, 0, by omega, by omega, rfl, rfl, World.ownsRow_nil _ _ _ _, Below.refl _ _⟩
  case round =>
    obtain ⟨k, m, A', c', hk, hm, rfl, rfl, hown, hB⟩ := hrel
    have sB := hB.size
    by_cases hlt : k < n
    · obtain ⟨b, o, rfl, _, hxk, p0⟩ := (hr.later hB (Nat.le_refl _)).num hlt
      have hgk := HG.out k
      rw [getD_lt hxk] at hgk
      generalize l[k] = z at *
      have HR := Lib.hid (rowsK_succ g k)
      have hc3 : m + 1 ≤ maxLen := by simp only [maxLen]; omega
      by_cases hyk : y ≤ k
      · have hdy : decide ((y : Int) ≤ (k : Int)) = true := decide_eq_true (by omega)
        rw [if_pos hyk] at hgk
        have HGK := Lib.hid hgk
        have HLE := Lib.hid (fun wx => l1Least_any z x wx)
        clear hgk hxk
        generalize hv : (if x < z then x else z) = v at *
        have HV := Lib.hid hv
        clear hv
        by_cases hp : 0 < v
        · have HP := Lib.hid hp
          have hd : decide (0 < v) = true := decide_eq_true hp
          go_wp2_with fail
          refine (HLE.out _).mono ?_; rintro e wx ⟨rfl, rfl⟩
          go_wp2_with (at_builtin; refine wpList_append_own _ rfl (.tmp 25) (.tmp 27) 22 rfl w.heap.size 3 i0 (.int .i64 0) 1 8 Try.underlying22 hi hz0 hz1 hz2 rfl (by decide) _ _ _ rfl (hown.alloc _) ⟨wr.heap.size, 0, none⟩ 1 1 [.int .i64 v] rfl rfl (new1 _ _ _) (int_oneCell [v]) hc3 (by omega) (Nat.le_trans sB (show wr.heap.size ≤ _ by simp)) ?_)
          intro v' w2 hown' hgrow _
          have hb2 := gb_new (Nat.le_refl _) (hB.alloc (by omega) (.cells #[.int .i64 v] 3)) hgrow (fun g hg => (hown.lt g hg).1)
          obtain ⟨A2, c2', rfl⟩ := own_slice hown'
          clear hgrow hown hB hc3
          go_wp2
          go_roundw
          case rel => exact ⟨k + 1, m + 1, A2, c2', by omega, by omega, by go_num, rfl, by rw [HR.out, HGK.out, if_pos HP.out, intCells_append]; exact hown', hb2⟩
          case measure => simp [intOf]; omega
        · have HP := Lib.hid hp
          have hd : decide (0 < v) = false := decide_eq_false hp
          go_wp2_with fail
          refine (HLE.out _).mono ?_; rintro e wx ⟨rfl, rfl⟩
          go_wp2
          go_roundw
          case rel => exact ⟨k + 1, m, A', c', by omega, by omega, by go_num, rfl, by rw [HR.out, HGK.out, if_neg (by have := HP.out; omega), List.append_nil]; exact hown, hB⟩
          case measure => simp [intOf]; omega
      · have hdy : decide ((y : Int) ≤ (k : Int)) = false := decide_eq_false (by omega)
        rw [if_neg hyk] at hgk
        have HGK := Lib.hid hgk
        clear hgk hxk
        by_cases hp : 0 < z
        · have HP := Lib.hid hp
          have hd : decide (0 < z) = true := decide_eq_true hp
          go_wp2_with (at_builtin; refine wpList_append_own _ rfl (.tmp 25) (.tmp 27) 22 rfl w.heap.size 3 i0 (.int .i64 0) 1 8 Try.underlying22 hi hz0 hz1 hz2 rfl (by decide) _ _ _ rfl (hown.alloc _) ⟨wr.heap.size, 0, none⟩ 1 1 [.int .i64 z] rfl rfl (new1 _ _ _) (int_oneCell [z]) hc3 (by omega) (Nat.le_trans sB (show wr.heap.size ≤ _ by simp)) ?_)
          intro v' w2 hown' hgrow _
          have hb2 := gb_new (Nat.le_refl _) (hB.alloc (by omega) (.cells #[.int .i64 z] 3)) hgrow (fun g hg => (hown.lt g hg).1)
          obtain ⟨A2, c2', rfl⟩ := own_slice hown'
          clear hgrow hown hB hc3
          go_wp2
          go_roundw
          case rel => exact ⟨k + 1, m + 1, A2, c2', by omega, by omega, by go_num, rfl, by rw [HR.out, HGK.out, if_pos HP.out, intCells_append]; exact hown', hb2⟩
          case measure => simp [intOf]; omega
        · have HP := Lib.hid hp
          have hd : decide (0 < z) = false := decide_eq_false hp
          go_wp2
          go_roundw
          case rel => exact ⟨k + 1, m, A', c', by omega, by omega, by go_num, rfl, by rw [HR.out, HGK.out, if_neg (by have := HP.out; omega), List.append_nil]; exact hown, hB⟩
          case measure => simp [intOf]; omega
    · have hkn : k = n := by omega
      rw [hkn] at hown
      clear hkn
      go_wp2
      go_ret
      exact ⟨A', m, c', rfl, hown, hB⟩

/-- what ChompAt returns -/
def atO (l : List Int) (x y : Int) : Option (List Int) := if chB l = true ∧ canC l x y = true then some (biteL l x y) else none
def atB (l : List Int) (x y : Int) : Bool := (atO l x y).isSome
def atR (l : List Int) (x y : Int) : List Int := (atO l x y).getD []
theorem length_atR (l : List Int) (x y : Int) : (atR l x y).length ≤ 6 := by
  unfold atR atO
  split
  · rename_i h
    exact length_rowsK _ 6
  · simp
theorem at_no {l : List Int} {x y : Int} (h : ¬ (chB l = true ∧ canC l x y = true)) : atB l x y = false ∧ atR l x y = [] := by simp [atB, atR, atO, h]
theorem at_yes {l : List Int} {x y : Int} (h : chB l = true) (h2 : canC l x y = true) : atB l x y = true ∧ atR l x y = biteL l x y := by simp [atB, atR, atO, h, h2]
theorem at_pl (l : List Int) (x y : Int) : plO l (fun _ => [x, y]) 1 = atO l x y := by
  unfold plO atO plK plK stepM
  by_cases h : chB l = true
  · simp [h]
  · simp [h]

set_option maxHeartbeats 1000000 in
theorem sChompAt_any (A : Option Addr) (n c : Nat) (l : List Int) (x y : Int) (w : World) (hr : Rd w 1 A n (intCells l)) (hn : n ≤ 1000000000) :
    Calls Try.prog 25 #[.slice A n c, .int .i64 x, .int .i64 y] w fun e w' => ∃ A' n' c', e = .returned (.tuple #[.slice A' n' c', .bool (atB l x y)]) ∧ w'.ownsRow w.heap.size 3 1 (.slice A' n' c') n' (intCells (atR l x y)) ∧ Below w.heap.size w w' := by
  have HG := Lib.hid (fun wx h => cmGood_any A n c l wx h hn)
  cases hb : chB l
  · have h := at_no (l := l) (x := x) (y := y) (by simp [hb])
    rw [h.1, h.2]
    have HB := Lib.hid hb
    clear h hb
    go_enter Try.func25, Try.ntmps25
    go_wp2_with fail
    refine (HG.out _ hr).mono ?_; rintro e w1 ⟨rfl, hb1⟩
    rw [HB.out]
    go_wp2
    go_ret2
    exact ⟨none, 0, 0, rfl, World.ownsRow_nil _ _ _ _, hb1⟩
  · have HCN := Lib.hid (fun wx h => cmCan_any A n c l x y wx h (chB_true.1 hb))
    cases hc : canC l x y
    · have h := at_no (l := l) (x := x) (y := y) (by simp [hc])
      rw [h.1, h.2]
      have HB := Lib.hid hb
      have HCC := Lib.hid hc
      clear h hb hc
      go_enter Try.func25, Try.ntmps25
      go_wp2_with fail
      refine (HG.out _ hr).mono ?_; rintro e w1 ⟨rfl, hb1⟩
      rw [HB.out]
      have hr1 := hr.later hb1 (Nat.le_refl _)
      go_wp2_with fail
      refine (HCN.out _ hr1).mono ?_; rintro e wx ⟨rfl, rfl⟩
      rw [HCC.out]
      go_wp2
      go_ret2
      exact ⟨none, 0, 0, rfl, World.ownsRow_nil _ _ _ _, hb1⟩
    · have h := at_yes hb hc
      rw [h.1, h.2]
      have h5 := canC_true hc
      obtain ⟨yn, rfl⟩ : ∃ yn : Nat, y = yn := ⟨y.toNat, by omega⟩
      have HBI := Lib.hid (fun wx h => cmBite_any A n c l x yn wx h (chB_true.1 hb) h5.1 (by omega))
      have HB := Lib.hid hb
      have HCC := Lib.hid hc
      clear h hb hc h5
      go_enter Try.func25, Try.ntmps25
      go_wp2_with fail
      refine (HG.out _ hr).mono ?_; rintro e w1 ⟨rfl, hb1⟩
      rw [HB.out]
      have hr1 := hr.later hb1 (Nat.le_refl _)
      go_wp2_with fail
      refine (HCN.out _ hr1).mono ?_; rintro e wx ⟨rfl, rfl⟩
      rw [HCC.out]
      go_wp2_with fail
      refine (HBI.out _ hr1).mono ?_; rintro e w2 ⟨A2, n2, c2, rfl, ho2, hb2⟩
      have HO := Lib.hid (own_base ho2 hb1.size)
      have HBB := Lib.hid (hb1.trans (hb2.mono hb1.size))
      clear ho2 hb1 hb2 hr1
      go_wp2
      go_ret2
      exact ⟨A2, n2, c2, rfl, HO.out, HBB.out⟩

set_option maxHeartbeats 1000000 in
theorem chompAt_any (A : Option Addr) (n c : Nat) (l : List Int) (x y : Int) (w : World) (hr : Rd w 1 A n (intCells l)) (hn : n ≤ 1000000000) :
    Calls Try.prog 26 #[.slice A n c, .int .i64 x, .int .i64 y] w fun e w' => ∃ A' n' c', e = .returned (.tuple #[.slice A' n' c', .bool (atB l x y)]) ∧ w'.ownsRow w.heap.size 3 1 (.slice A' n' c') n' (intCells (atR l x y)) ∧ Below w.heap.size w w' := by
  have hbl : Below w.heap.size w ((w.alloc (.cells #[.int .i64 x, .int .i64 y] 3)).alloc (.cells #[.slice (some ⟨w.heap.size, 0, none⟩) 2 2] 22)) := by (repeat (first | (with_reducible exact Below.refl _ _) | (with_reducible assumption) | (with_reducible refine Below.drew ?_) | ((with_reducible refine balloc ?_ _ ?_); · (first | (simp; done) | (simp; omega) | omega)) | ((with_reducible refine bset ?_ _ ?_); · (first | (simp; done) | (simp; omega) | omega)) | (with_reducible refine bdrewN _ ?_) | ((with_reducible refine bcall ?_ (by assumption) ?_); · (first | (simp; done) | (simp; omega) | omega))))
  have hrow : Rd ((w.alloc (.cells #[.int .i64 x, .int .i64 y] 3)).alloc (.cells #[.slice (some ⟨w.heap.size, 0, none⟩) 2 2] 22)) 1 (some ⟨w.heap.size, 0, none⟩) 2 (intCells [x, y]) := by
    have h := own_new w 3 1 2 #[.int .i64 x, .int .i64 y] rfl (by omega) (B := 0) (Nat.zero_le _)
    have h2 := Rd.of_own (own_alloc h (.cells #[.slice (some ⟨w.heap.size, 0, none⟩) 2 2] 22))
    simpa [intCells] using h2
  have htop : Rd ((w.alloc (.cells #[.int .i64 x, .int .i64 y] 3)).alloc (.cells #[.slice (some ⟨w.heap.size, 0, none⟩) 2 2] 22)) 1 (some ⟨w.heap.size + 1, 0, none⟩) 1 [.slice (some ⟨w.heap.size, 0, none⟩) 2 2] := by
    have h := own_new (w.alloc (.cells #[.int .i64 x, .int .i64 y] 3)) 22 1 1 #[.slice (some ⟨w.heap.size, 0, none⟩) 2 2] rfl (by omega) (B := 0) (Nat.zero_le _)
    have h2 := Rd.of_own h
    simpa using h2
  have hrs : RdSS ((w.alloc (.cells #[.int .i64 x, .int .i64 y] 3)).alloc (.cells #[.slice (some ⟨w.heap.size, 0, none⟩) 2 2] 22)) (some ⟨w.heap.size + 1, 0, none⟩) 1 (fun _ => [x, y]) :=
    ⟨fun _ => some ⟨w.heap.size, 0, none⟩, fun _ => 2, htop, fun i hi => hrow⟩
  have hr2 := hr.later hbl (Nat.le_refl _)
  have HP := Lib.hid (playChomp_any A n c l (some ⟨w.heap.size + 1, 0, none⟩) 1 1 (fun _ => [x, y]) _ hr2 hn hrs (by omega) (fun i hi => by simp))
  have HE : Hid (plB l (fun _ => [x, y]) 1 = atB l x y ∧ plR l (fun _ => [x, y]) 1 = atR l x y) := by simp only [Hid, plB, plR, at_pl, atB, atR, and_self]
  have HBL := Lib.hid hbl
  clear hbl hrow htop hrs hr2 hr
  go_enter Try.func26, Try.ntmps26
  go_wp2_with fail
  refine (HP.out).mono ?_; rintro e w2 ⟨A2, n2, c2, rfl, ho2, hb2⟩
  rw [HE.out.2] at ho2
  rw [HE.out.1]
  have HO := Lib.hid (own_base ho2 HBL.out.size)
  have HBB := Lib.hid (HBL.out.trans (hb2.mono HBL.out.size))
  clear ho2 hb2 HP
  go_wp2
  go_ret2
  exact ⟨A2, n2, c2, rfl, HO.out, HBB.out⟩

end Go.Proofs.Ytclkddehaomdjaa
