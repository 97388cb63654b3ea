/-
  Contracts: Solutions, CountSolutions, FirstSolution, IsSolved of the model. Conditions: none.
-/
import Derived.Test.YtghlgmbekgfmnaaPzA
import Derived.Test.YtghlgmbekgfmnaaPzM
import Derived.Test.YtghlgmbekgfmnaaPzP
namespace Go.Proofs.Ytghlgmbekgfmnaa
open Go.RowKit Go.Maps
set_option linter.unusedVariables false
set_option linter.unusedSimpArgs false

set_option maxRecDepth 100000 in
set_option maxHeartbeats 2000000 in
theorem sSolutions_any (A : Option Addr) (n c : Nat) (S : List Clu) (w : World) (hr : Rd w 3 A n (boxCells S)) (hn : n ≤ 4000000000) :
    Calls Try.prog 30 #[puzV A n c] w fun e w' => ∃ A' n' c', e = .returned (.tuple #[.slice A' n' c', .bool (pzB S)]) ∧ (n' = (soR S).length ∧ n' ≤ 1000000) ∧ OwnSS w' w.heap.size (.slice A' n' c') n' (lsR (soR S)) ∧ Below w.heap.size w w' := by
  have HG := Lib.hid (fun wx h => pzGood_any A n c S wx h hn)
  cases hb : pzB S
  · rw [soR_no hb]
    rw [hb] at HG
    go_enter Try.func30, Try.ntmps30
    go_wp2_with fail
    refine (HG.out _ (hr.later (B := w.heap.size) (by (repeat (first | (with_reducible exact Below.refl _ _) | (with_reducible assumption) | (with_reducible refine Below.drew ?_) | ((with_reducible refine balloc ?_ _ ?_); · (first | (simp; done) | (simp; omega) | omega)) | ((with_reducible refine bset ?_ _ ?_); · (first | (simp; done) | (simp; omega) | omega)) | (with_reducible refine bdrewN _ ?_) | ((with_reducible refine bcall ?_ (by assumption) ?_); · (first | (simp; done) | (simp; omega) | omega))))) (Nat.le_refl _))).mono ?_; rintro e w1 ⟨rfl, hb1⟩
    go_wp2
    go_ret2
    exact ⟨none, 0, 0, rfl, ⟨rfl, by omega⟩, OwnSS.nil _ _ _, by (repeat (first | (with_reducible exact Below.refl _ _) | (with_reducible assumption) | (with_reducible refine Below.drew ?_) | ((with_reducible refine balloc ?_ _ ?_); · (first | (simp; done) | (simp; omega) | omega)) | ((with_reducible refine bset ?_ _ ?_); · (first | (simp; done) | (simp; omega) | omega)) | (with_reducible refine bdrewN _ ?_) | ((with_reducible refine bcall ?_ (by assumption) ?_); · (first | (simp; done) | (simp; omega) | omega))))⟩
  · rw [soR_yes hb]
    rw [hb] at HG
    obtain ⟨hl6, hcl⟩ := pzB_true hb
    have hll : S.length = n := by have := hr.1; rw [length_boxCells] at this; omega
    have HA := Lib.hid (fun wx h => pzAll_any A n c S wx hcl (by omega) h)
    have HR := Lib.hid hr
    clear hb hl6 hcl hll
    go_enter Try.func30, Try.ntmps30
    go_wp2_with fail
    refine (HG.out _ (hr.later (B := w.heap.size) (by (repeat (first | (with_reducible exact Below.refl _ _) | (with_reducible assumption) | (with_reducible refine Below.drew ?_) | ((with_reducible refine balloc ?_ _ ?_); · (first | (simp; done) | (simp; omega) | omega)) | ((with_reducible refine bset ?_ _ ?_); · (first | (simp; done) | (simp; omega) | omega)) | (with_reducible refine bdrewN _ ?_) | ((with_reducible refine bcall ?_ (by assumption) ?_); · (first | (simp; done) | (simp; omega) | omega))))) (Nat.le_refl _))).mono ?_; rintro e w1 ⟨rfl, hb1⟩
    have s1 := hb1.size
    simp at s1
    have d0 : w1.cell? ⟨w.heap.size, 0, none⟩ = some (.slice A n c) := (hb1.cell (p := ⟨w.heap.size, 0, none⟩) (by simp)).trans (by simp [go_sem])
    have hB1 : Below w.heap.size w w1 := by (repeat (first | (with_reducible exact Below.refl _ _) | (with_reducible assumption) | (with_reducible refine Below.drew ?_) | ((with_reducible refine balloc ?_ _ ?_); · (first | (simp; done) | (simp; omega) | omega)) | ((with_reducible refine bset ?_ _ ?_); · (first | (simp; done) | (simp; omega) | omega)) | (with_reducible refine bdrewN _ ?_) | ((with_reducible refine bcall ?_ (by assumption) ?_); · (first | (simp; done) | (simp; omega) | omega))))
    have HB1 := Lib.hid hB1
    clear hb1 hB1
    go_wp2_with fail
    refine (HA.out _ (HR.out.later HB1.out (Nat.le_refl _))).mono ?_; rintro e w2 ⟨A2, n2, c2, rfl, hn2, hss, hb2⟩
    have HB2 := Lib.hid (HB1.out.trans (hb2.mono HB1.out.size))
    have s2 := hb2.size
    have hle := solL_le S
    have HSS := Lib.hid (hss.base HB1.out.size)
    have HN := Lib.hid hn2
    clear hb2 hss hn2
    go_wp2
    go_ret2
    exact ⟨A2, n2, c2, rfl, ⟨HN.out, by rw [HN.out]; omega⟩, HSS.out, HB2.out⟩

set_option maxRecDepth 100000 in
set_option maxHeartbeats 2000000 in
theorem sCountSolutions_any (A : Option Addr) (n c : Nat) (S : List Clu) (w : World) (hr : Rd w 3 A n (boxCells S)) (hn : n ≤ 4000000000) :
    Calls Try.prog 36 #[puzV A n c] w fun e w' => e = .returned (.tuple #[.int .i64 ((soR S).length : Nat), .bool (pzB S)]) ∧ Below w.heap.size w w' := by
  have HG := Lib.hid (fun wx h => pzGood_any A n c S wx h hn)
  cases hb : pzB S
  · rw [soR_no hb]
    rw [hb] at HG
    go_enter Try.func36, Try.ntmps36
    go_wp2_with fail
    refine (HG.out _ (hr.later (B := w.heap.size) (by (repeat (first | (with_reducible exact Below.refl _ _) | (with_reducible assumption) | (with_reducible refine Below.drew ?_) | ((with_reducible refine balloc ?_ _ ?_); · (first | (simp; done) | (simp; omega) | omega)) | ((with_reducible refine bset ?_ _ ?_); · (first | (simp; done) | (simp; omega) | omega)) | (with_reducible refine bdrewN _ ?_) | ((with_reducible refine bcall ?_ (by assumption) ?_); · (first | (simp; done) | (simp; omega) | omega))))) (Nat.le_refl _))).mono ?_; rintro e w1 ⟨rfl, hb1⟩
    go_wp2
    go_ret2
    exact ⟨rfl, by (repeat (first | (with_reducible exact Below.refl _ _) | (with_reducible assumption) | (with_reducible refine Below.drew ?_) | ((with_reducible refine balloc ?_ _ ?_); · (first | (simp; done) | (simp; omega) | omega)) | ((with_reducible refine bset ?_ _ ?_); · (first | (simp; done) | (simp; omega) | omega)) | (with_reducible refine bdrewN _ ?_) | ((with_reducible refine bcall ?_ (by assumption) ?_); · (first | (simp; done) | (simp; omega) | omega))))⟩
  · rw [soR_yes hb]
    rw [hb] at HG
    obtain ⟨hl6, hcl⟩ := pzB_true hb
    have hll : S.length = n := by have := hr.1; rw [length_boxCells] at this; omega
    have HA := Lib.hid (fun wx h => pzAll_any A n c S wx hcl (by omega) h)
    have HR := Lib.hid hr
    clear hb hl6 hcl hll
    go_enter Try.func36, Try.ntmps36
    go_wp2_with fail
    refine (HG.out _ (hr.later (B := w.heap.size) (by (repeat (first | (with_reducible exact Below.refl _ _) | (with_reducible assumption) | (with_reducible refine Below.drew ?_) | ((with_reducible refine balloc ?_ _ ?_); · (first | (simp; done) | (simp; omega) | omega)) | ((with_reducible refine bset ?_ _ ?_); · (first | (simp; done) | (simp; omega) | omega)) | (with_reducible refine bdrewN _ ?_) | ((with_reducible refine bcall ?_ (by assumption) ?_); · (first | (simp; done) | (simp; omega) | omega))))) (Nat.le_refl _))).mono ?_; rintro e w1 ⟨rfl, hb1⟩
    have s1 := hb1.size
    simp at s1
    have d0 : w1.cell? ⟨w.heap.size, 0, none⟩ = some (.slice A n c) := (hb1.cell (p := ⟨w.heap.size, 0, none⟩) (by simp)).trans (by simp [go_sem])
    have hB1 : Below w.heap.size w w1 := by (repeat (first | (with_reducible exact Below.refl _ _) | (with_reducible assumption) | (with_reducible refine Below.drew ?_) | ((with_reducible refine balloc ?_ _ ?_); · (first | (simp; done) | (simp; omega) | omega)) | ((with_reducible refine bset ?_ _ ?_); · (first | (simp; done) | (simp; omega) | omega)) | (with_reducible refine bdrewN _ ?_) | ((with_reducible refine bcall ?_ (by assumption) ?_); · (first | (simp; done) | (simp; omega) | omega))))
    have HB1 := Lib.hid hB1
    clear hb1 hB1
    go_wp2_with fail
    refine (HA.out _ (HR.out.later HB1.out (Nat.le_refl _))).mono ?_; rintro e w2 ⟨A2, n2, c2, rfl, hn2, hss, hb2⟩
    have HB2 := Lib.hid (HB1.out.trans (hb2.mono HB1.out.size))
    have s2 := hb2.size
    clear hss hb2
    subst hn2
    go_wp2
    go_ret2
    exact ⟨rfl, HB2.out⟩

set_option maxRecDepth 100000 in
set_option maxHeartbeats 2000000 in
theorem sFirstSolution_any (A : Option Addr) (n c : Nat) (S : List Clu) (w : World) (hr : Rd w 3 A n (boxCells S)) (hn : n ≤ 4000000000) :
    Calls Try.prog 38 #[puzV A n c] w fun e w' => ∃ A' n' c', e = .returned (.tuple #[.slice A' n' c', .bool (fsoB S)]) ∧ w'.ownsRow w.heap.size 3 1 (.slice A' n' c') n' (intCells (fsoR S)) ∧ Below w.heap.size w w' := by
  have HG := Lib.hid (fun wx h => pzGood_any A n c S wx h hn)
  cases hb : pzB S
  · rw [show fsoB S = false by simp [fsoB, soR_no hb], show fsoR S = [] by simp [fsoR, soR_no hb]]
    rw [hb] at HG
    go_enter Try.func38, Try.ntmps38
    go_wp2_with fail
    refine (HG.out _ (hr.later (B := w.heap.size) (by (repeat (first | (with_reducible exact Below.refl _ _) | (with_reducible assumption) | (with_reducible refine Below.drew ?_) | ((with_reducible refine balloc ?_ _ ?_); · (first | (simp; done) | (simp; omega) | omega)) | ((with_reducible refine bset ?_ _ ?_); · (first | (simp; done) | (simp; omega) | omega)) | (with_reducible refine bdrewN _ ?_) | ((with_reducible refine bcall ?_ (by assumption) ?_); · (first | (simp; done) | (simp; omega) | omega))))) (Nat.le_refl _))).mono ?_; rintro e w1 ⟨rfl, hb1⟩
    go_wp2
    go_ret2
    exact ⟨none, 0, 0, rfl, World.ownsRow_nil _ _ _ _, by (repeat (first | (with_reducible exact Below.refl _ _) | (with_reducible assumption) | (with_reducible refine Below.drew ?_) | ((with_reducible refine balloc ?_ _ ?_); · (first | (simp; done) | (simp; omega) | omega)) | ((with_reducible refine bset ?_ _ ?_); · (first | (simp; done) | (simp; omega) | omega)) | (with_reducible refine bdrewN _ ?_) | ((with_reducible refine bcall ?_ (by assumption) ?_); · (first | (simp; done) | (simp; omega) | omega))))⟩
  · have e1 : fsoB S = decide (0 < (solL S).length) := by simp [fsoB, soR_yes hb]
    have e2 : fsoR S = (solL S).headD [] := by simp [fsoR, soR_yes hb]
    rw [e1, e2]
    clear e1 e2
    rw [hb] at HG
    obtain ⟨hl6, hcl⟩ := pzB_true hb
    have hll : S.length = n := by have := hr.1; rw [length_boxCells] at this; omega
    have HA := Lib.hid (fun wx h => pzAll_any A n c S wx hcl (by omega) h)
    have HR := Lib.hid hr
    clear hb hl6 hcl hll
    go_enter Try.func38, Try.ntmps38
    go_wp2_with fail
    refine (HG.out _ (hr.later (B := w.heap.size) (by (repeat (first | (with_reducible exact Below.refl _ _) | (with_reducible assumption) | (with_reducible refine Below.drew ?_) | ((with_reducible refine balloc ?_ _ ?_); · (first | (simp; done) | (simp; omega) | omega)) | ((with_reducible refine bset ?_ _ ?_); · (first | (simp; done) | (simp; omega) | omega)) | (with_reducible refine bdrewN _ ?_) | ((with_reducible refine bcall ?_ (by assumption) ?_); · (first | (simp; done) | (simp; omega) | omega))))) (Nat.le_refl _))).mono ?_; rintro e w1 ⟨rfl, hb1⟩
    have s1 := hb1.size
    simp at s1
    have d0 : w1.cell? ⟨w.heap.size, 0, none⟩ = some (.slice A n c) := (hb1.cell (p := ⟨w.heap.size, 0, none⟩) (by simp)).trans (by simp [go_sem])
    have hB1 : Below w.heap.size w w1 := by (repeat (first | (with_reducible exact Below.refl _ _) | (with_reducible assumption) | (with_reducible refine Below.drew ?_) | ((with_reducible refine balloc ?_ _ ?_); · (first | (simp; done) | (simp; omega) | omega)) | ((with_reducible refine bset ?_ _ ?_); · (first | (simp; done) | (simp; omega) | omega)) | (with_reducible refine bdrewN _ ?_) | ((with_reducible refine bcall ?_ (by assumption) ?_); · (first | (simp; done) | (simp; omega) | omega))))
    have HB1 := Lib.hid hB1
    clear hb1 hB1
    go_wp2_with fail
    refine (HA.out _ (HR.out.later HB1.out (Nat.le_refl _))).mono ?_; rintro e w2 ⟨A2, n2, c2, rfl, hn2, hss, hb2⟩
    have HB2 := Lib.hid (HB1.out.trans (hb2.mono HB1.out.size))
    have s2 := hb2.size
    by_cases h0 : n2 = 0
    · subst h0
      have H0 := Lib.hid (List.eq_nil_of_length_eq_zero hn2.symm)
      clear hb2 hss hn2
      go_wp2
      go_ret2
      exact ⟨none, 0, 0, by rw [H0.out]; rfl, by rw [H0.out]; exact World.ownsRow_nil _ _ _ _, HB2.out⟩
    · have hp0 : 0 < n2 := by omega
      obtain ⟨AC, CC, hac⟩ := hss
      obtain ⟨b, rfl, hb3, hbl⟩ := own_at hac.top hp0
      have pm := hac.top.cellAt 0 (by omega)
      rw [ssCells_at hp0] at pm
      have hrow := own_base (hac.row 0 hp0) HB1.out.size
      have e2 : (solL S).headD [] = lsR (solL S) 0 := by
        cases e : solL S with
        | nil => rw [e] at hn2; simp at hn2; omega
        | cons a r => simp [lsR]
      have HE1 : Hid (decide (0 < (solL S).length) = true) := by simp only [Hid]; rw [← hn2]; exact decide_eq_true hp0
      have HE2 := Lib.hid e2
      generalize lsR (solL S) 0 = l at *
      have HRW := Lib.hid hrow
      have hne : ((n2 : Int) == 0) = false := by simp; omega
      clear hac hrow hn2 hb2 e2
      go_wp2
      go_ret2
      exact ⟨_, _, _, by rw [HE1.out]; rfl, by rw [HE2.out]; exact HRW.out, HB2.out⟩

set_option maxHeartbeats 1000000 in
theorem pzSolved_any (A : Option Addr) (n c : Nat) (S : List Clu) (w : World) (hS : ∀ q ∈ S, cluB q = true) (hn : n ≤ 1000) (hr : Rd w 3 A n (boxCells S)) :
    Calls Try.prog 78 #[.slice A n c] w fun e w' => e = .returned (.bool (decide ((solL S).length = 1))) ∧ Below w.heap.size w w' := by
  have HA := Lib.hid (pzAll_any A n c S w hS hn hr)
  have hle := solL_le S
  have HE : Hid (decide ((solL S).length = 1) = (((solL S).length : Int) == 1)) := by
    simp only [Hid]; rw [Bool.eq_iff_iff]; simp; omega
  rw [HE.out]
  clear hS hr
  go_enter Try.func78, Try.ntmps78
  go_wp2_with fail
  refine (HA.out).mono ?_; rintro e w2 ⟨A2, n2, c2, rfl, hn2, hss, hb2⟩
  clear hss
  subst hn2
  go_wp2
  go_ret
  exact ⟨rfl, hb2⟩

set_option maxRecDepth 100000 in
set_option maxHeartbeats 2000000 in
theorem sIsSolved_any (A : Option Addr) (n c : Nat) (S : List Clu) (w : World) (hr : Rd w 3 A n (boxCells S)) (hn : n ≤ 4000000000) :
    Calls Try.prog 44 #[puzV A n c] w fun e w' => e = .returned (.tuple #[.bool (slvB S), .bool (pzB S)]) ∧ Below w.heap.size w w' := by
  have HG := Lib.hid (fun wx h => pzGood_any A n c S wx h hn)
  cases hb : pzB S
  · rw [show slvB S = false by simp [slvB, hb]]
    rw [hb] at HG
    go_enter Try.func44, Try.ntmps44
    go_wp2_with fail
    refine (HG.out _ (hr.later (B := w.heap.size) (by (repeat (first | (with_reducible exact Below.refl _ _) | (with_reducible assumption) | (with_reducible refine Below.drew ?_) | ((with_reducible refine balloc ?_ _ ?_); · (first | (simp; done) | (simp; omega) | omega)) | ((with_reducible refine bset ?_ _ ?_); · (first | (simp; done) | (simp; omega) | omega)) | (with_reducible refine bdrewN _ ?_) | ((with_reducible refine bcall ?_ (by assumption) ?_); · (first | (simp; done) | (simp; omega) | omega))))) (Nat.le_refl _))).mono ?_; rintro e w1 ⟨rfl, hb1⟩
    go_wp2
    go_ret2
    exact ⟨rfl, by (repeat (first | (with_reducible exact Below.refl _ _) | (with_reducible assumption) | (with_reducible refine Below.drew ?_) | ((with_reducible refine balloc ?_ _ ?_); · (first | (simp; done) | (simp; omega) | omega)) | ((with_reducible refine bset ?_ _ ?_); · (first | (simp; done) | (simp; omega) | omega)) | (with_reducible refine bdrewN _ ?_) | ((with_reducible refine bcall ?_ (by assumption) ?_); · (first | (simp; done) | (simp; omega) | omega))))⟩
  · rw [show slvB S = decide ((solL S).length = 1) by simp [slvB, hb]]
    rw [hb] at HG
    obtain ⟨hl6, hcl⟩ := pzB_true hb
    have hll : S.length = n := by have := hr.1; rw [length_boxCells] at this; omega
    have HA := Lib.hid (fun wx h => pzSolved_any A n c S wx hcl (by omega) h)
    have HR := Lib.hid hr
    clear hb hl6 hcl hll
    go_enter Try.func44, Try.ntmps44
    go_wp2_with fail
    refine (HG.out _ (hr.later (B := w.heap.size) (by (repeat (first | (with_reducible exact Below.refl _ _) | (with_reducible assumption) | (with_reducible refine Below.drew ?_) | ((with_reducible refine balloc ?_ _ ?_); · (first | (simp; done) | (simp; omega) | omega)) | ((with_reducible refine bset ?_ _ ?_); · (first | (simp; done) | (simp; omega) | omega)) | (with_reducible refine bdrewN _ ?_) | ((with_reducible refine bcall ?_ (by assumption) ?_); · (first | (simp; done) | (simp; omega) | omega))))) (Nat.le_refl _))).mono ?_; rintro e w1 ⟨rfl, hb1⟩
    have s1 := hb1.size
    simp at s1
    have d0 : w1.cell? ⟨w.heap.size, 0, none⟩ = some (.slice A n c) := (hb1.cell (p := ⟨w.heap.size, 0, none⟩) (by simp)).trans (by simp [go_sem])
    have hB1 : Below w.heap.size w w1 := by (repeat (first | (with_reducible exact Below.refl _ _) | (with_reducible assumption) | (with_reducible refine Below.drew ?_) | ((with_reducible refine balloc ?_ _ ?_); · (first | (simp; done) | (simp; omega) | omega)) | ((with_reducible refine bset ?_ _ ?_); · (first | (simp; done) | (simp; omega) | omega)) | (with_reducible refine bdrewN _ ?_) | ((with_reducible refine bcall ?_ (by assumption) ?_); · (first | (simp; done) | (simp; omega) | omega))))
    have HB1 := Lib.hid hB1
    clear hb1 hB1
    go_wp2_with fail
    refine (HA.out _ (HR.out.later HB1.out (Nat.le_refl _))).mono ?_; rintro e w2 ⟨rfl, hb2⟩
    have HB2 := Lib.hid (HB1.out.trans (hb2.mono HB1.out.size))
    have s2 := hb2.size
    go_wp2
    go_ret2
    exact ⟨rfl, HB2.out⟩
end Go.Proofs.Ytghlgmbekgfmnaa
