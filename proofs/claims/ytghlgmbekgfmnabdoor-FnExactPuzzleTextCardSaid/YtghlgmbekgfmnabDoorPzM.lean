/-
  Contracts: IsClue, IsPuzzle of the model. Conditions: none.
-/
import Derived.Test.YtghlgmbekgfmnabDoorPzW0
import Derived.Test.YtghlgmbekgfmnabDoorPuzK
namespace Go.Proofs.YtghlgmbekgfmnabDoor
open Go.RowKit
set_option linter.unusedVariables false
set_option linter.unusedSimpArgs false

theorem cluB_out {k a b : Int} (h : inB b 0 20 = false) : cluB (k, a, b) = false := by
  have := mostB_le k
  simp only [inB, decide_eq_false_iff_not] at h
  simp only [cluB, decide_eq_false_iff_not]
  intro q
  omega
theorem cluB_0 {a b : Int} (h : inB b 0 20 = true) : cluB (0, a, b) = (a == 0) := by
  simp only [inB, decide_eq_true_eq] at h
  rw [Bool.eq_iff_iff]
  simp [cluB, mostA, mostB]
  omega
theorem cluB_3 {a b : Int} (h : inB b 0 20 = true) : cluB (3, a, b) = (a == 0) := by
  simp only [inB, decide_eq_true_eq] at h
  rw [Bool.eq_iff_iff]
  simp [cluB, mostA, mostB]
  omega
theorem cluB_5 {a b : Int} (h : inB b 0 20 = true) : cluB (5, a, b) = (a == 0) := by
  simp only [inB, decide_eq_true_eq] at h
  rw [Bool.eq_iff_iff]
  simp [cluB, mostA, mostB]
  omega
theorem cluB_1 {a b : Int} (h : inB b 0 20 = true) : cluB (1, a, b) = inB a 0 3 := by
  simp only [inB, decide_eq_true_eq] at h
  rw [Bool.eq_iff_iff]
  simp [cluB, mostA, mostB, inB]
  omega
theorem cluB_4 {a b : Int} (h : inB b 0 20 = true) : cluB (4, a, b) = inB a 0 4 := by
  simp only [inB, decide_eq_true_eq] at h
  rw [Bool.eq_iff_iff]
  simp [cluB, mostA, mostB, inB]
  omega
theorem cluB_2n {a b : Int} (h : inB b 0 20 = true) (ha : ¬ a = 0) : cluB (2, a, b) = false := by
  simp only [inB, decide_eq_true_eq] at h
  simp [cluB, mostA, mostB]
  omega
theorem cluB_2y {b : Int} (h : inB b 0 20 = true) : cluB (2, 0, b) = decide (b < 2) := by
  simp only [inB, decide_eq_true_eq] at h
  rw [Bool.eq_iff_iff]
  simp [cluB, mostA, mostB]
  omega
theorem cluB_no {k a b : Int} (h0 : ¬ k = 0) (h1 : ¬ k = 1) (h2 : ¬ k = 2) (h3 : ¬ k = 3) (h4 : ¬ k = 4) (h5 : ¬ k = 5) : cluB (k, a, b) = false := by
  simp only [cluB, decide_eq_false_iff_not]
  intro q
  omega

set_option maxRecDepth 100000 in
set_option maxHeartbeats 4000000 in
theorem pzClue_any (k a b : Int) (w : World) :
    Calls Tryd.prog 59 #[bx3 k a b] w fun e w' => e = .returned (.bool (cluB (k, a, b))) ∧ Below w.heap.size w w' := by
  cases hb : inB b 0 20
  · rw [cluB_out hb]
    go_enter Tryd.func59, Tryd.ntmps59
    go_wp2_with (go_at_call 46; refine (l1In_any _ _ _ _).mono ?_; rintro e wx ⟨rfl, rfl⟩; rw [hb])
    go_ret
    exact ⟨rfl, by (repeat (first | (with_reducible exact Below.refl _ _) | (with_reducible assumption) | (with_reducible refine Below.drew ?_) | ((with_reducible refine balloc ?_ _ ?_); · (first | (simp; done) | (simp; omega) | omega)) | ((with_reducible refine bset ?_ _ ?_); · (first | (simp; done) | (simp; omega) | omega)) | (with_reducible refine bdrewN _ ?_) | ((with_reducible refine bcall ?_ (by assumption) ?_); · (first | (simp; done) | (simp; omega) | omega))))⟩
  by_cases h0 : k = 0
  · subst h0
    rw [cluB_0 hb]
    go_enter Tryd.func59, Tryd.ntmps59
    go_wp2_with (go_at_call 46; refine (l1In_any _ _ _ _).mono ?_; rintro e wx ⟨rfl, rfl⟩; rw [hb])
    go_ret
    exact ⟨rfl, by (repeat (first | (with_reducible exact Below.refl _ _) | (with_reducible assumption) | (with_reducible refine Below.drew ?_) | ((with_reducible refine balloc ?_ _ ?_); · (first | (simp; done) | (simp; omega) | omega)) | ((with_reducible refine bset ?_ _ ?_); · (first | (simp; done) | (simp; omega) | omega)) | (with_reducible refine bdrewN _ ?_) | ((with_reducible refine bcall ?_ (by assumption) ?_); · (first | (simp; done) | (simp; omega) | omega))))⟩
  by_cases h3 : k = 3
  · subst h3
    rw [cluB_3 hb]
    go_enter Tryd.func59, Tryd.ntmps59
    go_wp2_with (go_at_call 46; refine (l1In_any _ _ _ _).mono ?_; rintro e wx ⟨rfl, rfl⟩; rw [hb])
    go_ret
    exact ⟨rfl, by (repeat (first | (with_reducible exact Below.refl _ _) | (with_reducible assumption) | (with_reducible refine Below.drew ?_) | ((with_reducible refine balloc ?_ _ ?_); · (first | (simp; done) | (simp; omega) | omega)) | ((with_reducible refine bset ?_ _ ?_); · (first | (simp; done) | (simp; omega) | omega)) | (with_reducible refine bdrewN _ ?_) | ((with_reducible refine bcall ?_ (by assumption) ?_); · (first | (simp; done) | (simp; omega) | omega))))⟩
  by_cases h5 : k = 5
  · subst h5
    rw [cluB_5 hb]
    go_enter Tryd.func59, Tryd.ntmps59
    go_wp2_with (go_at_call 46; refine (l1In_any _ _ _ _).mono ?_; rintro e wx ⟨rfl, rfl⟩; rw [hb])
    go_ret
    exact ⟨rfl, by (repeat (first | (with_reducible exact Below.refl _ _) | (with_reducible assumption) | (with_reducible refine Below.drew ?_) | ((with_reducible refine balloc ?_ _ ?_); · (first | (simp; done) | (simp; omega) | omega)) | ((with_reducible refine bset ?_ _ ?_); · (first | (simp; done) | (simp; omega) | omega)) | (with_reducible refine bdrewN _ ?_) | ((with_reducible refine bcall ?_ (by assumption) ?_); · (first | (simp; done) | (simp; omega) | omega))))⟩
  by_cases h1 : k = 1
  · subst h1
    rw [cluB_1 hb]
    cases ha : inB a 0 3
    all_goals
      go_enter Tryd.func59, Tryd.ntmps59
      go_wp2_with (go_at_call 46; refine (l1In_any _ _ _ _).mono ?_; rintro e wx ⟨rfl, rfl⟩; first | rw [hb] | rw [ha])
      go_ret
      exact ⟨rfl, by (repeat (first | (with_reducible exact Below.refl _ _) | (with_reducible assumption) | (with_reducible refine Below.drew ?_) | ((with_reducible refine balloc ?_ _ ?_); · (first | (simp; done) | (simp; omega) | omega)) | ((with_reducible refine bset ?_ _ ?_); · (first | (simp; done) | (simp; omega) | omega)) | (with_reducible refine bdrewN _ ?_) | ((with_reducible refine bcall ?_ (by assumption) ?_); · (first | (simp; done) | (simp; omega) | omega))))⟩
  by_cases h4 : k = 4
  · subst h4
    rw [cluB_4 hb]
    cases ha : inB a 0 4
    all_goals
      go_enter Tryd.func59, Tryd.ntmps59
      go_wp2_with (go_at_call 46; refine (l1In_any _ _ _ _).mono ?_; rintro e wx ⟨rfl, rfl⟩; first | rw [hb] | rw [ha])
      go_ret
      exact ⟨rfl, by (repeat (first | (with_reducible exact Below.refl _ _) | (with_reducible assumption) | (with_reducible refine Below.drew ?_) | ((with_reducible refine balloc ?_ _ ?_); · (first | (simp; done) | (simp; omega) | omega)) | ((with_reducible refine bset ?_ _ ?_); · (first | (simp; done) | (simp; omega) | omega)) | (with_reducible refine bdrewN _ ?_) | ((with_reducible refine bcall ?_ (by assumption) ?_); · (first | (simp; done) | (simp; omega) | omega))))⟩
  by_cases h2 : k = 2
  · subst h2
    by_cases ha : a = 0
    · subst ha
      rw [cluB_2y hb]
      go_enter Tryd.func59, Tryd.ntmps59
      go_wp2_with (go_at_call 46; refine (l1In_any _ _ _ _).mono ?_; rintro e wx ⟨rfl, rfl⟩; rw [hb])
      go_ret
      exact ⟨rfl, by (repeat (first | (with_reducible exact Below.refl _ _) | (with_reducible assumption) | (with_reducible refine Below.drew ?_) | ((with_reducible refine balloc ?_ _ ?_); · (first | (simp; done) | (simp; omega) | omega)) | ((with_reducible refine bset ?_ _ ?_); · (first | (simp; done) | (simp; omega) | omega)) | (with_reducible refine bdrewN _ ?_) | ((with_reducible refine bcall ?_ (by assumption) ?_); · (first | (simp; done) | (simp; omega) | omega))))⟩
    · rw [cluB_2n hb ha]
      have da : (a == 0) = false := by simpa using ha
      go_enter Tryd.func59, Tryd.ntmps59
      go_wp2_with (go_at_call 46; refine (l1In_any _ _ _ _).mono ?_; rintro e wx ⟨rfl, rfl⟩; rw [hb])
      go_ret
      exact ⟨rfl, by (repeat (first | (with_reducible exact Below.refl _ _) | (with_reducible assumption) | (with_reducible refine Below.drew ?_) | ((with_reducible refine balloc ?_ _ ?_); · (first | (simp; done) | (simp; omega) | omega)) | ((with_reducible refine bset ?_ _ ?_); · (first | (simp; done) | (simp; omega) | omega)) | (with_reducible refine bdrewN _ ?_) | ((with_reducible refine bcall ?_ (by assumption) ?_); · (first | (simp; done) | (simp; omega) | omega))))⟩
  · rw [cluB_no h0 h1 h2 h3 h4 h5]
    have d0 : (k == 0) = false := by simpa using h0
    have d1 : (k == 1) = false := by simpa using h1
    have d2 : (k == 2) = false := by simpa using h2
    have d3 : (k == 3) = false := by simpa using h3
    have d4 : (k == 4) = false := by simpa using h4
    have d5 : (k == 5) = false := by simpa using h5
    go_enter Tryd.func59, Tryd.ntmps59
    go_wp2_with (go_at_call 46; refine (l1In_any _ _ _ _).mono ?_; rintro e wx ⟨rfl, rfl⟩; rw [hb])
    go_ret
    exact ⟨rfl, by (repeat (first | (with_reducible exact Below.refl _ _) | (with_reducible assumption) | (with_reducible refine Below.drew ?_) | ((with_reducible refine balloc ?_ _ ?_); · (first | (simp; done) | (simp; omega) | omega)) | ((with_reducible refine bset ?_ _ ?_); · (first | (simp; done) | (simp; omega) | omega)) | (with_reducible refine bdrewN _ ?_) | ((with_reducible refine bcall ?_ (by assumption) ?_); · (first | (simp; done) | (simp; omega) | omega))))⟩


theorem all_takeM {S : List Clu} {k : Nat} (hk : k < S.length) : (S.take (k + 1)).all cluB = ((S.take k).all cluB && cluB S[k]) := by
  rw [List.take_succ_eq_append_getElem hk, List.all_append]; simp
set_option maxRecDepth 100000 in
set_option maxHeartbeats 4000000 in
theorem pzGood_any (A : Option Addr) (n c : Nat) (S : List Clu) (w : World) (hr : Rd w 3 A n (boxCells S)) (hn : n ≤ 4000000000) :
    Calls Tryd.prog 37 #[puzV A n c] w fun e w' => e = .returned (.bool (pzB S)) ∧ Below w.heap.size w w' := by
  have hll : S.length = n := by have := hr.1; rw [length_boxCells] at this; omega
  have HL := Lib.hid hll
  by_cases h6 : n ≤ 6
  · have hv : pzB S = S.all cluB := by simp [pzB, hll, h6]
    rw [hv]
    clear hll hv
    go_enter Tryd.func37, Tryd.ntmps37
    go_wp2
    go_loopw [12] (fun i wr => ∃ k : Nat, k ≤ n ∧ i = .int .i64 k ∧ Hid ((S.take k).all cluB = true) ∧ Below w.heap.size w wr) (fun i _ => n - (intOf i).toNat)
    case atStart => exact ⟨0, Nat.zero_le _, rfl, by simp [Hid], by (repeat (first | (with_reducible exact Below.refl _ _) | (with_reducible assumption) | (with_reducible refine Below.drew ?_) | ((with_reducible refine balloc ?_ _ ?_); · (first | (simp; done) | (simp; omega) | omega)) | ((with_reducible refine bset ?_ _ ?_); · (first | (simp; done) | (simp; omega) | omega)) | (with_reducible refine bdrewN _ ?_) | ((with_reducible refine bcall ?_ (by assumption) ?_); · (first | (simp; done) | (simp; omega) | omega))))⟩
    case round =>
      obtain ⟨k, hk, rfl, hA, hB⟩ := hrel
      have sB := hB.size
      by_cases hlt : k < n
      · obtain ⟨b, o, rfl, hbl, hx, p1, p2, p3⟩ := (hr.later hB (Nat.le_refl _)).box hlt
        have HS := Lib.hid (all_takeM hx)
        have HNo : Hid (cluB S[k] = false → S.all cluB = false) := fun h => by
          cases e : S.all cluB
          · rfl
          · rw [List.all_eq_true.1 e _ (List.getElem_mem hx)] at h; cases h
        generalize S[k] = q at *
        obtain ⟨x, y, z⟩ := q
        simp only at p1 p2 p3
        have HC := Lib.hid (pzClue_any x y z)
        clear hx
        cases h1 : cluB (x, y, z)
        · rw [h1] at HC
          have HF := Lib.hid (HNo.out h1)
          go_wp2_with fail
          refine (HC.out _).mono ?_; rintro e w1 ⟨rfl, hb1⟩
          go_wp2
          go_ret
          exact ⟨ret_bool HF.out.symm, by (repeat (first | (with_reducible exact Below.refl _ _) | (with_reducible assumption) | (with_reducible refine Below.drew ?_) | ((with_reducible refine balloc ?_ _ ?_); · (first | (simp; done) | (simp; omega) | omega)) | ((with_reducible refine bset ?_ _ ?_); · (first | (simp; done) | (simp; omega) | omega)) | (with_reducible refine bdrewN _ ?_) | ((with_reducible refine bcall ?_ (by assumption) ?_); · (first | (simp; done) | (simp; omega) | omega))))⟩
        · rw [h1] at HC
          have hA2 := HS.out
          rw [hA.out, h1] at hA2
          have HA2 := Lib.hid hA2
          go_wp2_with fail
          refine (HC.out _).mono ?_; rintro e w1 ⟨rfl, hb1⟩
          go_wp2
          go_roundw
          case rel => exact ⟨k + 1, by omega, by go_num, HA2, by (repeat (first | (with_reducible exact Below.refl _ _) | (with_reducible assumption) | (with_reducible refine Below.drew ?_) | ((with_reducible refine balloc ?_ _ ?_); · (first | (simp; done) | (simp; omega) | omega)) | ((with_reducible refine bset ?_ _ ?_); · (first | (simp; done) | (simp; omega) | omega)) | (with_reducible refine bdrewN _ ?_) | ((with_reducible refine bcall ?_ (by assumption) ?_); · (first | (simp; done) | (simp; omega) | omega))))⟩
          case measure => simp [intOf]; omega
      · have hA := hA.out
        rw [List.take_of_length_le (by rw [HL.out]; omega)] at hA
        have HA := Lib.hid hA
        clear hA
        go_wp2
        go_ret
        exact ⟨ret_bool HA.out.symm, hB⟩
  · have hv : pzB S = false := by simp [pzB, hll, h6]
    rw [hv]
    clear hll hv
    go_enter Tryd.func37, Tryd.ntmps37
    go_wp2
    go_ret
    exact ⟨rfl, by (repeat (first | (with_reducible exact Below.refl _ _) | (with_reducible assumption) | (with_reducible refine Below.drew ?_) | ((with_reducible refine balloc ?_ _ ?_); · (first | (simp; done) | (simp; omega) | omega)) | ((with_reducible refine bset ?_ _ ?_); · (first | (simp; done) | (simp; omega) | omega)) | (with_reducible refine bdrewN _ ?_) | ((with_reducible refine bcall ?_ (by assumption) ?_); · (first | (simp; done) | (simp; omega) | omega))))⟩

end Go.Proofs.YtghlgmbekgfmnabDoor
