/-
  Contracts: Solutions, CountSolutions, FirstSolution, IsSolved of the program. Conditions: none.
-/
import Derived.Test.YtghlgmbekgfmnaaPzS
import Derived.Test.YtghlgmbekgfmnaaPzC
import Derived.Test.YtghlgmbekgfmnaaListS
namespace Go.Proofs.Ytghlgmbekgfmnaa
open Go.RowKit Go.Maps
set_option linter.unusedVariables false
set_option linter.unusedSimpArgs false

/-- a row that lies below what may change -/
theorem rd_chg {K : Nat → Prop} {w w1 w' : World} {z n : Nat} {A : Option Addr} {xs : List Value} (h : Rd w z A n xs) (hb : Below w.heap.size w w1) (hK : ∀ i, K i → w.heap.size ≤ i) (hch : Chg K w1 w') : Rd w' z A n xs := by
  refine ⟨h.1, fun hn => ?_⟩
  obtain ⟨b, o, rfl, hlt, hc⟩ := h.2 hn
  exact ⟨b, o, rfl, Nat.lt_of_lt_of_le hlt (Nat.le_trans hb.size hch.size), fun j u hj => hch.cell ((hb.cell (by simpa using hlt)).trans (hc j u hj)) (fun e => by have := hK _ e; simp at this; omega)⟩

/-- what Solutions returns -/
def soR (S : List Clu) : List (List Int) := if pzB S then solL S else []
theorem soR_no {S : List Clu} (h : pzB S = false) : soR S = [] := by simp [soR, h]
theorem soR_yes {S : List Clu} (h : pzB S = true) : soR S = solL S := by simp [soR, h]
theorem soR_le (S : List Clu) : (soR S).length ≤ 125 := by
  cases h : pzB S
  · rw [soR_no h]; exact Nat.zero_le _
  · rw [soR_yes h]; exact solL_le S
theorem soR_6 (S : List Clu) (i : Nat) : (lsR (soR S) i).length ≤ 6 := by
  unfold lsR
  by_cases hi : i < (soR S).length
  · rw [show (soR S).getD i [] = (soR S)[i] by simp [List.getD, hi]]
    have hm := List.getElem_mem hi
    generalize (soR S)[i] = l at *
    cases h : pzB S
    · rw [soR_no h] at hm; simp at hm
    · rw [soR_yes h] at hm
      exact (mem_solL hm).1.2.1
  · simp [List.getD, List.getElem?_eq_none (show (soR S).length ≤ i by omega)]

set_option maxRecDepth 100000 in
set_option maxHeartbeats 8000000 in
theorem solutions_any (A : Option Addr) (n c : Nat) (S : List Clu) (w : World) (hr : Rd w 3 A n (boxCells S)) (hn : n ≤ 4000000000) :
    Calls Try.prog 31 #[puzV A n c] w fun e w' => ∃ A' n' c', e = .returned (.tuple #[.slice A' n' c', .bool (pzB S)]) ∧ (n' = (soR S).length ∧ n' ≤ 1000000) ∧ OwnSS w' w.heap.size (.slice A' n' c') n' (lsR (soR S)) ∧ Below w.heap.size w w' := by
  have HG := Lib.hid (fun wx h => isPuzzle_any A n c S wx h hn)
  have hll : S.length = n := by have := hr.1; rw [length_boxCells] at this; omega
  cases hb : pzB S
  · rw [soR_no hb]
    have HB := Lib.hid hb
    clear hb
    go_enter Try.func31, Try.ntmps31
    go_wp2_with fail
    refine (HG.out _ (hr.later (B := w.heap.size) (by (repeat (first | (with_reducible exact Below.refl _ _) | (with_reducible assumption) | (with_reducible refine Below.drew ?_) | ((with_reducible refine balloc ?_ _ ?_); · (first | (simp; done) | (simp; omega) | omega)) | ((with_reducible refine bset ?_ _ ?_); · (first | (simp; done) | (simp; omega) | omega)) | (with_reducible refine bdrewN _ ?_) | ((with_reducible refine bcall ?_ (by assumption) ?_); · (first | (simp; done) | (simp; omega) | omega))))) (Nat.le_refl _))).mono ?_; rintro e w1 ⟨rfl, hb1⟩
    rw [HB.out]
    go_wp2
    go_ret2
    exact ⟨none, 0, 0, rfl, ⟨rfl, by omega⟩, OwnSS.nil _ _ _, by (repeat (first | (with_reducible exact Below.refl _ _) | (with_reducible assumption) | (with_reducible refine Below.drew ?_) | ((with_reducible refine balloc ?_ _ ?_); · (first | (simp; done) | (simp; omega) | omega)) | ((with_reducible refine bset ?_ _ ?_); · (first | (simp; done) | (simp; omega) | omega)) | (with_reducible refine bdrewN _ ?_) | ((with_reducible refine bcall ?_ (by assumption) ?_); · (first | (simp; done) | (simp; omega) | omega))))⟩
  · obtain ⟨i0, hi, hz0, hz1, hz2⟩ := info_parts ints_info
    rw [soR_yes hb]
    have HB := Lib.hid hb
    obtain ⟨hl6, hcl⟩ := pzB_true hb
    have HCL := Lib.hid hcl
    have n6 : n ≤ 6 := by omega
    clear hb hcl hll hl6
    go_enter Try.func31, Try.ntmps31
    go_wp2_with fail
    refine (HG.out _ (hr.later (B := w.heap.size) (by (repeat (first | (with_reducible exact Below.refl _ _) | (with_reducible assumption) | (with_reducible refine Below.drew ?_) | ((with_reducible refine balloc ?_ _ ?_); · (first | (simp; done) | (simp; omega) | omega)) | ((with_reducible refine bset ?_ _ ?_); · (first | (simp; done) | (simp; omega) | omega)) | (with_reducible refine bdrewN _ ?_) | ((with_reducible refine bcall ?_ (by assumption) ?_); · (first | (simp; done) | (simp; omega) | omega))))) (Nat.le_refl _))).mono ?_; rintro e w1 ⟨rfl, hb1⟩
    rw [HB.out]
    have s1 := hb1.size
    simp at s1
    have d0 : w1.cell? ⟨w.heap.size, 0, none⟩ = some (.slice A n c) := (hb1.cell (p := ⟨w.heap.size, 0, none⟩) (by simp)).trans (by simp [go_sem])
    have hB1 : Below w.heap.size w w1 := by (repeat (first | (with_reducible exact Below.refl _ _) | (with_reducible assumption) | (with_reducible refine Below.drew ?_) | ((with_reducible refine balloc ?_ _ ?_); · (first | (simp; done) | (simp; omega) | omega)) | ((with_reducible refine bset ?_ _ ?_); · (first | (simp; done) | (simp; omega) | omega)) | (with_reducible refine bdrewN _ ?_) | ((with_reducible refine bcall ?_ (by assumption) ?_); · (first | (simp; done) | (simp; omega) | omega))))
    have HB1 := Lib.hid hB1
    have hr1 := hr.later hB1 (Nat.le_refl _)
    have HR1 := Lib.hid hr1
    clear hb1 hB1 hr1
    go_wp2
    refine wp_region_held_drew (S := (fun w' => w'.cell? ⟨w.heap.size, 0, none⟩ = some (.slice A n c))) (by kernel_rfl) ?_ (fun hHeld => ?_)
    · ((try dsimp only); (repeat' apply And.intro); all_goals ((repeat (first | (with_reducible refine cell_drew ?_) | (with_reducible refine cell_drewN _ ?_) | ((with_reducible refine cell_alloc ?_ ?_); · first | omega | (simp; done) | (simp; omega) | assumption) | ((with_reducible refine cell_set ?_ ?_); · first | (intro e; injection e; omega) | (intro e; simp at e; done) | (intro e; simp at e; omega)))); first | assumption | (simp; done)))
    refine reg_on (i := 0) (d := 10) (v := ?rv1) rfl rfl (by kernel_rfl) (by kernel_rfl) (by kernel_rfl) (fun _ _ _ h => h) (by rfl) ?ry1 (by assumption) ?rr1
    case ry1 => (intro wz hSw; (try dsimp only at hSw); go_simp; try with_reducible rfl)
    (try simp only [Act.put, List.setIfInBounds_toArray, List.set_cons_zero, List.set_cons_succ])
    refine reg_on (i := 1) (d := 11) (v := ?rv2) rfl rfl (by kernel_rfl) (by kernel_rfl) (by kernel_rfl) (fun _ _ _ h => h) (by rfl) ?ry2 (by assumption) ?rr2
    case ry2 => (intro wz hSw; (try dsimp only at hSw); go_simp; try with_reducible rfl)
    (try simp only [Act.put, List.setIfInBounds_toArray, List.set_cons_zero, List.set_cons_succ])
    refine reg_on (i := 5) (d := 15) (v := ?rv3) rfl rfl (by kernel_rfl) (by kernel_rfl) (by kernel_rfl) (fun _ _ _ h => h) (by rfl) ?ry3 (by assumption) ?rr3
    case ry3 => (intro wz hSw; (try dsimp only at hSw); go_simp; try with_reducible rfl)
    (try simp only [Act.put, List.setIfInBounds_toArray, List.set_cons_zero, List.set_cons_succ])
    refine wpAnyH_ready (rs := [2]) (by kernel_rfl) (by simp) ?_
    refine AllReadyH.cons rfl (fun K hK => ?_) AllReadyH.nil
    go_simp
    go_at_call 72; refine (clueTeller_any _).mono ?_; rintro e w2 ⟨KK, h0, rfl, ht2, hb2, hK2⟩; have k0 : w2.cell? ⟨w.heap.size, 0, none⟩ = some (.slice A n c) := (hb2.cell (p := ⟨w.heap.size, 0, none⟩) (by first | omega | (simp; omega))).trans (by first | assumption | (go_split_ands; assumption))
    refine hK.out _ _ ?_ (fun hHeld => ?_)
    · ((try dsimp only); (repeat' apply And.intro); all_goals ((repeat (first | (with_reducible refine cell_drew ?_) | (with_reducible refine cell_drewN _ ?_) | ((with_reducible refine cell_alloc ?_ ?_); · first | omega | (simp; done) | (simp; omega) | assumption) | ((with_reducible refine cell_set ?_ ?_); · first | (intro e; injection e; omega) | (intro e; simp at e; done) | (intro e; simp at e; omega)))); first | assumption | (simp; done)))
    clear hK K
    (try simp only [Act.put, List.setIfInBounds_toArray, List.set_cons_zero, List.set_cons_succ])
    refine wpAnyH_ready (rs := [3]) (by kernel_rfl) (by simp) ?_
    refine AllReadyH.cons rfl (fun K hK => ?_) AllReadyH.nil
    go_simp
    go_at_call 74; refine (solutionsOf_any KK _ h0 A n c S w2 HCL.out (by omega) (fun w' h => rd_chg (Rd.later HR1.out (Below.refl _ _).drew (Nat.le_refl _)) hb2 hK2 h) ht2).mono ?_; rintro e w3 ⟨A3, m, c3, rfl, hL3, ho3, ht3, hch3⟩; have hb3 := Chg.below hch3 hb2 hK2; have k1 : w3.cell? ⟨w.heap.size, 0, none⟩ = some (.slice A n c) := (hb3.cell (p := ⟨w.heap.size, 0, none⟩) (by first | omega | (simp; omega))).trans (by first | assumption | (go_split_ands; assumption))
    refine hK.out _ _ ?_ (fun hHeld => ?_)
    · ((try dsimp only); (repeat' apply And.intro); all_goals ((repeat (first | (with_reducible refine cell_drew ?_) | (with_reducible refine cell_drewN _ ?_) | ((with_reducible refine cell_alloc ?_ ?_); · first | omega | (simp; done) | (simp; omega) | assumption) | ((with_reducible refine cell_set ?_ ?_); · first | (intro e; injection e; omega) | (intro e; simp at e; done) | (intro e; simp at e; omega)))); first | assumption | (simp; done)))
    clear hK K
    (try simp only [Act.put, List.setIfInBounds_toArray, List.set_cons_zero, List.set_cons_succ])
    refine reg_on (i := 4) (d := 14) (v := ?rv6) rfl rfl (by kernel_rfl) (by kernel_rfl) (by kernel_rfl) (fun _ _ _ h => h) (by rfl) ?ry6 (by assumption) ?rr6
    case ry6 => (intro wz hSw; (try dsimp only at hSw); go_simp; try with_reducible rfl)
    (try simp only [Act.put, List.setIfInBounds_toArray, List.set_cons_zero, List.set_cons_succ])
    refine wpAnyH_done (by kernel_rfl) ?_ _
    have hB3 : Below w.heap.size w w3 := HB1.out.drew.trans (hb3.mono HB1.out.drew.size)
    have HB3 := Lib.hid hB3
    have HO := Lib.hid (own_base ho3 (Nat.le_trans HB1.out.size (Nat.le_trans (by exact Nat.le_refl _) hb2.size)))
    have HLL := Lib.hid hL3
    have hm125 : m ≤ 125 := by rw [← hL3]; exact solL_le S
    have s3 := hB3.size
    have HQ : Hid (∀ k (hk : k < (solL S).length), ChOK (solL S)[k]) := fun k hk => (mem_solL (List.getElem_mem hk)).1
    clear hb2 hb3 hch3 ht2 ht3 hK2 k0 k1 d0 hL3 ho3 hB3 HB1 HR1
    generalize hCL : solL S = CL at *
    have HCL := Lib.hid hCL
    clear hCL
    go_wp2
    go_loopw [4, 15] (fun v i wr => ∃ (k : Nat) (A' : Option Addr) (c' : Nat), k ≤ m ∧ i = .int .i64 k ∧ v = .slice A' k c' ∧ OwnSS wr w3.heap.size (.slice A' k c') k (lsR (CL.take k)) ∧ Below w3.heap.size w3 wr) (fun _ i _ => m - (intOf i).toNat)
    case atStart => exact ⟨0, none, 0, Nat.zero_le _, rfl, rfl, OwnSS.nil _ _ _, Below.refl _ _⟩
    case round =>
      obtain ⟨k, A', c', hk, rfl, rfl, hss, hB⟩ := hrel
      have sB := hB.size
      by_cases hlt : k < m
      · have hkl : k < CL.length := by rw [HLL.out]; exact hlt
        have hob := own_later HO.out hB (Nat.le_refl _)
        obtain ⟨b, rfl, hb1', hbl⟩ := own_at hob (by omega)
        have a0 := (hob.cellAt (k * 6) (by omega)).trans (chCells_at _ k 0 hkl (by omega))
        have a1 := (hob.cellAt (k * 6 + 1) (by omega)).trans (chCells_at _ k 1 hkl (by omega))
        have a2 := (hob.cellAt (k * 6 + 2) (by omega)).trans (chCells_at _ k 2 hkl (by omega))
        have a3 := (hob.cellAt (k * 6 + 3) (by omega)).trans (chCells_at _ k 3 hkl (by omega))
        have a4 := (hob.cellAt (k * 6 + 4) (by omega)).trans (chCells_at _ k 4 hkl (by omega))
        have a5 := (hob.cellAt (k * 6 + 5) (by omega)).trans (chCells_at _ k 5 hkl (by omega))
        have hgd : CL.getD k [] = CL[k] := by simp [List.getD, hkl]
        have hok := HQ.out k hkl
        have hsn : CL.take (k + 1) = CL.take k ++ [CL[k]] := List.take_succ_eq_append_getElem hkl
        have htl : (CL.take k).length = k := by rw [List.length_take]; omega
        rw [hgd] at a0 a1 a2 a3 a4 a5
        generalize CL[k] = l at *
        have HSI := Lib.hid hsn
        have HTL := Lib.hid htl
        obtain ⟨f, hf⟩ : ∃ f : Nat → Int, f = fun j => l.getD j 0 := ⟨_, rfl⟩
        rw [show l.getD 0 0 = f 0 by rw [hf]] at a0
        rw [show l.getD 1 0 = f 1 by rw [hf]] at a1
        rw [show l.getD 2 0 = f 2 by rw [hf]] at a2
        rw [show l.getD 3 0 = f 3 by rw [hf]] at a3
        rw [show l.getD 4 0 = f 4 by rw [hf]] at a4
        rw [show l.getD 5 0 = f 5 by rw [hf]] at a5
        have HRW : Hid (rowsK f 6 = l) := by simp only [Hid]; rw [hf]; exact hok.rows hok.2.1
        have hll6 := hok.2.1
        have hba : Below wr.heap.size wr (wr.alloc (.cells #[.int .i64 (f 0), .int .i64 (f 1), .int .i64 (f 2), .int .i64 (f 3), .int .i64 (f 4), .int .i64 (f 5)] 73)) := (Below.refl _ _).alloc (Nat.le_refl _) _
        obtain ⟨y0, y1, y2, y3, y4, y5⟩ := (BoxF.new wr f).cells
        have HSS := Lib.hid (hss.later hba (Nat.le_refl _))
        have HBB := Lib.hid (hB.trans (hba.mono sB))
        have hc3 : k + 1 ≤ maxLen := by simp only [maxLen]; omega
        clear hok hgd hsn hf hba hob hkl hss hB htl
        go_wp2_with fail
        refine (rowsOf_any f _).mono ?_; rintro e w4 ⟨A4, n4, c4, rfl, o4, hb4⟩
        rw [HRW.out] at o4
        have hn4 : n4 = l.length := by have := o4.1; rw [length_intCells] at this; omega
        subst hn4
        have s4 := hb4.size
        have hB4 := HBB.out.trans (hb4.mono HBB.out.size)
        obtain ⟨AX, CX, hac0⟩ := HSS.out
        have hac := own_later hac0.top hb4 (Nat.le_refl _)
        have HAC0 := Lib.hid hac0
        have HWZ := Lib.hid (hb4.alloc (by exact s4) (.cells #[.slice A4 l.length c4] 39))
        have HAC := Lib.hid hac
        have HB4 := Lib.hid hB4
        have HOA := Lib.hid (own_alloc hac (.cells #[.slice A4 l.length c4] 39))
        have HO4 := Lib.hid o4
        have sW := HBB.out.size
        clear hac hac0 hB4 o4 hb4 y0 y1 y2 y3 y4 y5 a0 a1 a2 a3 a4 a5
        go_wp2_with (at_builtin; refine wpList_append_own _ rfl (.tmp 19) (.tmp 22) 45 rfl w3.heap.size 39 i0 (.slice none 0 0) 1 24 Try.underlying45 hi hz0 hz1 hz2 rfl (by decide) _ _ _ rfl HOA.out ⟨w4.heap.size, 0, none⟩ 1 1 [.slice A4 l.length c4] rfl rfl (new1 _ _ _) (by intro u hu; simp at hu; subst hu; rfl) hc3 (by omega) (by have := HB4.out.size; simp; omega) ?_)
        intro v' w5 hown' hgrow _
        obtain ⟨A5, c5, rfl⟩ := own_slice hown'
        have hss5 : OwnSS w5 w3.heap.size (.slice A5 (k + 1) c5) (k + 1) (fun i => if i = k then l else lsR (CL.take k) i) :=
          OwnAC.push HAC0.out HWZ.out (own_alloc HO4.out _) sW hgrow hown'
        have hb5 : Below w3.heap.size w3 w5 := gb_new (Nat.le_refl _) (HB4.out.alloc HB4.out.size (.cells #[.slice A4 l.length c4] 39)) hgrow (fun g hg => (HAC.out.lt g hg).1)
        have P := Lib.hid (show OwnSS w5 w3.heap.size (.slice A5 (k + 1) c5) (k + 1) (lsR (CL.take (k + 1))) ∧ Below w3.heap.size w3 w5 from ⟨hss5.congr (fun i hi => by rw [HSI.out]; exact lsR_snoc HTL.out l i hi), hb5⟩)
        clear hown' hgrow hb5 hss5 HOA HAC HAC0 HWZ HO4 HB4 hc3
        go_wp2
        go_roundw
        case rel => exact ⟨k + 1, A5, c5, by omega, by go_num, rfl, P.out⟩
        case measure => simp [intOf]; omega
      · have hkm : k = m := by omega
        have htk : CL.take k = CL := List.take_of_length_le (by rw [HLL.out]; omega)
        rw [htk] at hss
        have HSS := Lib.hid (hss.base s3)
        have HBF := Lib.hid (HB3.out.trans (hB.mono s3))
        clear htk hss hB
        go_wp2
        go_ret2
        exact ⟨A', k, c', rfl, ⟨by rw [HCL.out, HLL.out]; exact hkm, by omega⟩, by rw [HCL.out]; exact HSS.out, HBF.out⟩

set_option maxHeartbeats 1000000 in
theorem countSolutions_any (A : Option Addr) (n c : Nat) (S : List Clu) (w : World) (hr : Rd w 3 A n (boxCells S)) (hn : n ≤ 4000000000) :
    Calls Try.prog 37 #[puzV A n c] w fun e w' => e = .returned (.tuple #[.int .i64 ((soR S).length : Nat), .bool (pzB S)]) ∧ Below w.heap.size w w' := by
  have HG := Lib.hid (fun wx h => solutions_any A n c S wx h hn)
  go_enter Try.func37, Try.ntmps37
  go_wp2_with fail
  refine (HG.out _ (hr.later (B := w.heap.size) (by (repeat (first | (with_reducible exact Below.refl _ _) | (with_reducible assumption) | (with_reducible refine Below.drew ?_) | ((with_reducible refine balloc ?_ _ ?_); · (first | (simp; done) | (simp; omega) | omega)) | ((with_reducible refine bset ?_ _ ?_); · (first | (simp; done) | (simp; omega) | omega)) | (with_reducible refine bdrewN _ ?_) | ((with_reducible refine bcall ?_ (by assumption) ?_); · (first | (simp; done) | (simp; omega) | omega))))) (Nat.le_refl _))).mono ?_; rintro e w1 ⟨A', n', c', rfl, ⟨rfl, _⟩, ho, hb1⟩
  clear ho
  go_wp2
  go_ret2
  exact ⟨rfl, by (repeat (first | (with_reducible exact Below.refl _ _) | (with_reducible assumption) | (with_reducible refine Below.drew ?_) | ((with_reducible refine balloc ?_ _ ?_); · (first | (simp; done) | (simp; omega) | omega)) | ((with_reducible refine bset ?_ _ ?_); · (first | (simp; done) | (simp; omega) | omega)) | (with_reducible refine bdrewN _ ?_) | ((with_reducible refine bcall ?_ (by assumption) ?_); · (first | (simp; done) | (simp; omega) | omega))))⟩

/-- what IsSolved returns -/
def slvB (S : List Clu) : Bool := pzB S && decide ((solL S).length = 1)
theorem slvB_so (S : List Clu) : slvB S = decide (((soR S).length : Int) = 1) := by
  cases h : pzB S
  · rw [soR_no h]; simp [slvB, h]
  · rw [soR_yes h]; simp only [slvB, h, Bool.true_and]; congr 1; simp; omega
set_option maxHeartbeats 1000000 in
theorem isSolved_any (A : Option Addr) (n c : Nat) (S : List Clu) (w : World) (hr : Rd w 3 A n (boxCells S)) (hn : n ≤ 4000000000) :
    Calls Try.prog 45 #[puzV A n c] w fun e w' => e = .returned (.tuple #[.bool (slvB S), .bool (pzB S)]) ∧ Below w.heap.size w w' := by
  have HG := Lib.hid (fun wx h => countSolutions_any A n c S wx h hn)
  rw [slvB_so]
  generalize (soR S).length = v at *
  go_enter Try.func45, Try.ntmps45
  go_wp2_with fail
  refine (HG.out _ (hr.later (B := w.heap.size) (by (repeat (first | (with_reducible exact Below.refl _ _) | (with_reducible assumption) | (with_reducible refine Below.drew ?_) | ((with_reducible refine balloc ?_ _ ?_); · (first | (simp; done) | (simp; omega) | omega)) | ((with_reducible refine bset ?_ _ ?_); · (first | (simp; done) | (simp; omega) | omega)) | (with_reducible refine bdrewN _ ?_) | ((with_reducible refine bcall ?_ (by assumption) ?_); · (first | (simp; done) | (simp; omega) | omega))))) (Nat.le_refl _))).mono ?_; rintro e w1 ⟨rfl, hb1⟩
  go_wp2
  go_ret2
  exact ⟨rfl, by (repeat (first | (with_reducible exact Below.refl _ _) | (with_reducible assumption) | (with_reducible refine Below.drew ?_) | ((with_reducible refine balloc ?_ _ ?_); · (first | (simp; done) | (simp; omega) | omega)) | ((with_reducible refine bset ?_ _ ?_); · (first | (simp; done) | (simp; omega) | omega)) | (with_reducible refine bdrewN _ ?_) | ((with_reducible refine bcall ?_ (by assumption) ?_); · (first | (simp; done) | (simp; omega) | omega))))⟩

/-- what FirstSolution returns -/
def fsoR (S : List Clu) : List Int := (soR S).headD []
def fsoB (S : List Clu) : Bool := decide (0 < (soR S).length)
theorem length_fsoR (S : List Clu) : (fsoR S).length ≤ 6 := by
  have h := soR_6 S 0
  unfold fsoR
  cases e : soR S with
  | nil => simp
  | cons a r => rw [e] at h; simpa [lsR] using h

set_option maxRecDepth 100000 in
set_option maxHeartbeats 2000000 in
theorem firstSolution_any (A : Option Addr) (n c : Nat) (S : List Clu) (w : World) (hr : Rd w 3 A n (boxCells S)) (hn : n ≤ 4000000000) :
    Calls Try.prog 39 #[puzV A n c] w fun e w' => ∃ A' n' c', e = .returned (.tuple #[.slice A' n' c', .bool (fsoB S)]) ∧ w'.ownsRow w.heap.size 3 1 (.slice A' n' c') n' (intCells (fsoR S)) ∧ Below w.heap.size w w' := by
  have HG := Lib.hid (fun wx h => solutions_any A n c S wx h hn)
  have HPF : Hid (pzB S = false → (soR S).length = 0) := fun h => by rw [soR_no h]; rfl
  by_cases h0 : (soR S).length = 0
  · have e1 : fsoB S = false := by simp [fsoB, h0]
    have e2 : fsoR S = [] := by have := List.eq_nil_of_length_eq_zero h0; simp [fsoR, this]
    rw [e1, e2]
    have H0 := Lib.hid h0
    clear e1 e2 h0 HPF
    cases hp : pzB S
    · rw [hp] at HG
      go_enter Try.func39, Try.ntmps39
      go_wp2_with fail
      refine (HG.out _ (hr.later (B := w.heap.size) (by (repeat (first | (with_reducible exact Below.refl _ _) | (with_reducible assumption) | (with_reducible refine Below.drew ?_) | ((with_reducible refine balloc ?_ _ ?_); · (first | (simp; done) | (simp; omega) | omega)) | ((with_reducible refine bset ?_ _ ?_); · (first | (simp; done) | (simp; omega) | omega)) | (with_reducible refine bdrewN _ ?_) | ((with_reducible refine bcall ?_ (by assumption) ?_); · (first | (simp; done) | (simp; omega) | omega))))) (Nat.le_refl _))).mono ?_; rintro e w1 ⟨A', n', c', rfl, ⟨e3, _⟩, ho, hb1⟩
      clear ho
      go_wp2
      go_ret2
      exact ⟨none, 0, 0, rfl, World.ownsRow_nil _ _ _ _, by (repeat (first | (with_reducible exact Below.refl _ _) | (with_reducible assumption) | (with_reducible refine Below.drew ?_) | ((with_reducible refine balloc ?_ _ ?_); · (first | (simp; done) | (simp; omega) | omega)) | ((with_reducible refine bset ?_ _ ?_); · (first | (simp; done) | (simp; omega) | omega)) | (with_reducible refine bdrewN _ ?_) | ((with_reducible refine bcall ?_ (by assumption) ?_); · (first | (simp; done) | (simp; omega) | omega))))⟩
    · rw [hp] at HG
      go_enter Try.func39, Try.ntmps39
      go_wp2_with fail
      refine (HG.out _ (hr.later (B := w.heap.size) (by (repeat (first | (with_reducible exact Below.refl _ _) | (with_reducible assumption) | (with_reducible refine Below.drew ?_) | ((with_reducible refine balloc ?_ _ ?_); · (first | (simp; done) | (simp; omega) | omega)) | ((with_reducible refine bset ?_ _ ?_); · (first | (simp; done) | (simp; omega) | omega)) | (with_reducible refine bdrewN _ ?_) | ((with_reducible refine bcall ?_ (by assumption) ?_); · (first | (simp; done) | (simp; omega) | omega))))) (Nat.le_refl _))).mono ?_; rintro e w1 ⟨A', n', c', rfl, ⟨e3, _⟩, ho, hb1⟩
      clear ho
      rw [H0.out] at e3
      subst e3
      go_wp2
      go_ret2
      exact ⟨none, 0, 0, rfl, World.ownsRow_nil _ _ _ _, by (repeat (first | (with_reducible exact Below.refl _ _) | (with_reducible assumption) | (with_reducible refine Below.drew ?_) | ((with_reducible refine balloc ?_ _ ?_); · (first | (simp; done) | (simp; omega) | omega)) | ((with_reducible refine bset ?_ _ ?_); · (first | (simp; done) | (simp; omega) | omega)) | (with_reducible refine bdrewN _ ?_) | ((with_reducible refine bcall ?_ (by assumption) ?_); · (first | (simp; done) | (simp; omega) | omega))))⟩
  · have e1 : fsoB S = true := by simp [fsoB]; omega
    have e2 : fsoR S = lsR (soR S) 0 := by
      cases e : soR S with
      | nil => rw [e] at h0; simp at h0
      | cons a r => simp [fsoR, e, lsR]
    have hp : pzB S = true := by
      cases h : pzB S
      · exact absurd (HPF.out h) h0
      · rfl
    rw [e1, e2]
    rw [hp] at HG
    have H0 := Lib.hid (Nat.pos_of_ne_zero h0)
    clear e1 e2 h0 HPF hp
    go_enter Try.func39, Try.ntmps39
    go_wp2_with fail
    refine (HG.out _ (hr.later (B := w.heap.size) (by (repeat (first | (with_reducible exact Below.refl _ _) | (with_reducible assumption) | (with_reducible refine Below.drew ?_) | ((with_reducible refine balloc ?_ _ ?_); · (first | (simp; done) | (simp; omega) | omega)) | ((with_reducible refine bset ?_ _ ?_); · (first | (simp; done) | (simp; omega) | omega)) | (with_reducible refine bdrewN _ ?_) | ((with_reducible refine bcall ?_ (by assumption) ?_); · (first | (simp; done) | (simp; omega) | omega))))) (Nat.le_refl _))).mono ?_; rintro e w1 ⟨A', n', c', rfl, ⟨e3, h6⟩, ho, hb1⟩
    have hp0 := H0.out
    rw [← e3] at hp0
    obtain ⟨AC, CC, hac⟩ := ho
    obtain ⟨b, rfl, hb2, hbl⟩ := own_at hac.top hp0
    have pm := hac.top.cellAt 0 (by omega)
    rw [ssCells_at hp0] at pm
    have hrow := own_base (hac.row 0 hp0) (show w.heap.size ≤ _ by simp)
    generalize hl0 : lsR (soR S) 0 = l at *
    have HE0 := Lib.hid hl0
    have HRW := Lib.hid hrow
    clear hl0
    have hne : ((n' : Int) == 0) = false := by simp; omega
    clear hac hrow e3
    go_wp2
    go_ret2
    exact ⟨_, _, _, rfl, by rw [HE0.out]; exact HRW.out, by (repeat (first | (with_reducible exact Below.refl _ _) | (with_reducible assumption) | (with_reducible refine Below.drew ?_) | ((with_reducible refine balloc ?_ _ ?_); · (first | (simp; done) | (simp; omega) | omega)) | ((with_reducible refine bset ?_ _ ?_); · (first | (simp; done) | (simp; omega) | omega)) | (with_reducible refine bdrewN _ ?_) | ((with_reducible refine bcall ?_ (by assumption) ?_); · (first | (simp; done) | (simp; omega) | omega))))⟩
end Go.Proofs.Ytghlgmbekgfmnaa
