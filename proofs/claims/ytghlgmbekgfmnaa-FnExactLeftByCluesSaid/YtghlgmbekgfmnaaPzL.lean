/-
  Contracts: LeftByClues of the program and of the model. Conditions: none.
-/
import Derived.Test.YtghlgmbekgfmnaaPzQ
namespace Go.Proofs.Ytghlgmbekgfmnaa
open Go.RowKit Go.Maps
set_option linter.unusedVariables false
set_option linter.unusedSimpArgs false

/-- how many fit the first ones -/
def leK (S : List Clu) (k : Nat) : List Int := (List.range k).map fun i => ((solL (S.take i)).length : Int)
theorem leK_succ (S : List Clu) (k : Nat) : leK S (k + 1) = leK S k ++ [((solL (S.take k)).length : Int)] := by simp [leK, List.range_succ]
theorem length_leK (S : List Clu) (k : Nat) : (leK S k).length = k := by simp [leK]
/-- what LeftByClues returns -/
def leftR (S : List Clu) : List Int := if pzB S then leK S (S.length + 1) else []
theorem length_leftR (S : List Clu) : (leftR S).length ≤ 7 := by
  unfold leftR
  cases h : pzB S
  · simp
  · have := (pzB_true h).1; simp [length_leK]; omega
theorem boxCells_take : ∀ (S : List Clu) (k : Nat), boxCells (S.take k) = (boxCells S).take (k * 3)
  | [], k => by simp [boxCells]
  | p :: r, 0 => by simp [boxCells]
  | p :: r, k + 1 => by
    have h := boxCells_take r k
    rw [show (k + 1) * 3 = k * 3 + 1 + 1 + 1 by omega]
    simp [boxCells, h]
theorem rd_take3 {w : World} {A : Option Addr} {n k : Nat} {S : List Clu} (h : Rd w 3 A n (boxCells S)) (hk : k ≤ n) : Rd w 3 A k (boxCells (S.take k)) := by
  have hl := h.1
  refine ⟨by rw [length_boxCells] at hl ⊢; rw [List.length_take]; omega, fun h0 => ?_⟩
  obtain ⟨b, o, rfl, hlt, hc⟩ := h.2 (by omega)
  refine ⟨b, o, rfl, hlt, fun j u hj => hc j u ?_⟩
  rw [boxCells_take, List.getElem?_take] at hj
  split at hj
  · exact hj
  · cases hj

set_option maxRecDepth 100000 in
set_option maxHeartbeats 8000000 in
theorem leftByClues_any (A : Option Addr) (n c : Nat) (S : List Clu) (w : World) (hr : Rd w 3 A n (boxCells S)) (hn : n ≤ 4000000000) (hnc : n ≤ c) (hcm : c ≤ 4000000000) :
    Calls Try.prog 54 #[puzV A n c] w fun e w' => ∃ A' n' c', e = .returned (.tuple #[.slice A' n' c', .bool (pzB S)]) ∧ w'.ownsRow w.heap.size 3 1 (.slice A' n' c') n' (intCells (leftR S)) ∧ Below w.heap.size w w' := by
  have HG := Lib.hid (fun wx h => isPuzzle_any A n c S wx h hn)
  have hll : S.length = n := by have := hr.1; rw [length_boxCells] at this; omega
  cases hb : pzB S
  · rw [show leftR S = [] by simp [leftR, hb]]
    have HB := Lib.hid hb
    clear hb
    go_enter Try.func54, Try.ntmps54
    go_wp2_with fail
    refine (HG.out _ (hr.later (B := w.heap.size) (by (repeat (first | (with_reducible exact Below.refl _ _) | (with_reducible assumption) | (with_reducible refine Below.drew ?_) | ((with_reducible refine balloc ?_ _ ?_); · (first | (simp; done) | (simp; omega) | omega)) | ((with_reducible refine bset ?_ _ ?_); · (first | (simp; done) | (simp; omega) | omega)) | (with_reducible refine bdrewN _ ?_) | ((with_reducible refine bcall ?_ (by assumption) ?_); · (first | (simp; done) | (simp; omega) | omega))))) (Nat.le_refl _))).mono ?_; rintro e w1 ⟨rfl, hb1⟩
    rw [HB.out]
    go_wp2
    go_ret2
    exact ⟨none, 0, 0, rfl, World.ownsRow_nil _ _ _ _, by (repeat (first | (with_reducible exact Below.refl _ _) | (with_reducible assumption) | (with_reducible refine Below.drew ?_) | ((with_reducible refine balloc ?_ _ ?_); · (first | (simp; done) | (simp; omega) | omega)) | ((with_reducible refine bset ?_ _ ?_); · (first | (simp; done) | (simp; omega) | omega)) | (with_reducible refine bdrewN _ ?_) | ((with_reducible refine bcall ?_ (by assumption) ?_); · (first | (simp; done) | (simp; omega) | omega))))⟩
  · obtain ⟨i0, hi, hz0, hz1, hz2⟩ := info_parts int_info
    have HLR : Hid (leftR S = leK S (n + 1)) := by simp [Hid, leftR, hb, hll]
    have HB := Lib.hid hb
    obtain ⟨hl6, hcl⟩ := pzB_true hb
    have HCL := Lib.hid hcl
    have n6 : n ≤ 6 := by omega
    have HLL := Lib.hid hll
    have HR := Lib.hid hr
    clear hb hcl hll hl6
    go_enter Try.func54, Try.ntmps54
    go_wp2_with fail
    refine (HG.out _ (hr.later (B := w.heap.size) (by (repeat (first | (with_reducible exact Below.refl _ _) | (with_reducible assumption) | (with_reducible refine Below.drew ?_) | ((with_reducible refine balloc ?_ _ ?_); · (first | (simp; done) | (simp; omega) | omega)) | ((with_reducible refine bset ?_ _ ?_); · (first | (simp; done) | (simp; omega) | omega)) | (with_reducible refine bdrewN _ ?_) | ((with_reducible refine bcall ?_ (by assumption) ?_); · (first | (simp; done) | (simp; omega) | omega))))) (Nat.le_refl _))).mono ?_; rintro e w1 ⟨rfl, hb1⟩
    rw [HB.out]
    have s1 := hb1.size
    simp at s1
    have d0 : w1.cell? ⟨w.heap.size, 0, none⟩ = some (.slice A n c) := (hb1.cell (p := ⟨w.heap.size, 0, none⟩) (by simp)).trans (by simp [go_sem])
    have hB1 : Below w.heap.size w w1 := by (repeat (first | (with_reducible exact Below.refl _ _) | (with_reducible assumption) | (with_reducible refine Below.drew ?_) | ((with_reducible refine balloc ?_ _ ?_); · (first | (simp; done) | (simp; omega) | omega)) | ((with_reducible refine bset ?_ _ ?_); · (first | (simp; done) | (simp; omega) | omega)) | (with_reducible refine bdrewN _ ?_) | ((with_reducible refine bcall ?_ (by assumption) ?_); · (first | (simp; done) | (simp; omega) | omega))))
    have HB1 := Lib.hid hB1
    have HR1 := Lib.hid (hr.later hB1 (Nat.le_refl _))
    clear hb1 hB1 hr
    go_wp2_with fail
    refine (clueTeller_any _).mono ?_; rintro e w2 ⟨KK, h0, rfl, ht2, hb2, hK2⟩
    have d2 : w2.cell? ⟨w.heap.size, 0, none⟩ = some (.slice A n c) := (hb2.cell (p := ⟨w.heap.size, 0, none⟩) (by simp; omega)).trans d0
    have s2 := hb2.size
    have HT2 := Lib.hid ht2
    have HB2 := Lib.hid hb2
    have HK2 := Lib.hid hK2
    have HKN := Lib.hid ht2.kn
    have HD2 := Lib.hid d2
    clear ht2 hb2 hK2 d0 d2
    go_wp2
    go_loopw [5, 6] (fun v i wr => ∃ (k : Nat) (A' : Option Addr) (c' : Nat), k ≤ n + 1 ∧ i = .int .i64 k ∧ v = .slice A' k c' ∧ wr.ownsRow w2.heap.size 3 1 (.slice A' k c') k (intCells (leK S k)) ∧ TM KK w2.heap.size wr h0 ∧ Chg KK w2 wr) (fun _ i _ => n + 1 - (intOf i).toNat)
    case atStart => exact ⟨0, none, 0, Nat.zero_le _, rfl, rfl, World.ownsRow_nil _ _ _ _, HT2.out, Chg.refl _ _⟩
    case round =>
      obtain ⟨k, A', c', hk, rfl, rfl, hown, hm, hch⟩ := hrel
      have sw := hch.size
      have dr : wr.cell? ⟨w.heap.size, 0, none⟩ = some (.slice A n c) := hch.cell HD2.out (fun e => by have := HK2.out _ e; simp at this; omega)
      by_cases hlt : k ≤ n
      · have HSO := Lib.hid (solutionsOf_any KK w2.heap.size h0 A k k (S.take k) wr (fun q hq => HCL.out q (List.mem_of_mem_take hq)) (by omega) (fun w' h => rd_take3 (rd_chg HR1.out HB2.out HK2.out (hch.trans h)) hlt) hm)
        have HLK := Lib.hid (leK_succ S k)
        have hle := solL_le (S.take k)
        have HOW := Lib.hid hown
        have HCH := Lib.hid hch
        have hkc : k ≤ c := by omega
        have hc3 : k + 1 ≤ maxLen := by simp only [maxLen]; omega
        clear hown hm hch
        go_wp2_with fail
        refine (HSO.out).mono ?_; rintro e w4 ⟨A4, m4, c4, rfl, hL4, ho4, hm4, hch4⟩
        rw [hL4] at HLK hle
        have own4 := hch4.own HOW.out (fun q hq e => by have e2 := (HOW.out.lt q hq).1; have e3 := HKN.out q e; omega)
        have HO4 := Lib.hid own4
        have HM4 := Lib.hid hm4
        have HC4 := Lib.hid (HCH.out.trans hch4)
        have s4 := hch4.size
        clear own4 hm4 hch4 ho4 hL4 HSO dr
        go_wp2_with (at_builtin; refine wpList_append_own _ rfl (.tmp 18) (.tmp 27) 39 rfl w2.heap.size 3 i0 (.int .i64 0) 1 8 Try.underlying39 hi hz0 hz1 hz2 rfl (by decide) _ _ _ rfl (HO4.out.alloc _) ⟨w4.heap.size, 0, none⟩ 1 1 [.int .i64 (m4 : Int)] rfl rfl (new1 _ _ _) (int_oneCell [(m4 : Int)]) hc3 (by omega) (by simp; omega) ?_)
        intro v' w5 hown' hgrow _
        have hba : Below w4.heap.size w4 (w4.alloc (.cells #[.int .i64 (m4 : Int)] 3)) := (Below.refl _ _).alloc (Nat.le_refl _) _
        have hrow : ∀ q, (Value.slice A' k c').ownBlock = some q → w2.heap.size ≤ q := fun q hq => (HO4.out.lt q hq).1
        obtain ⟨A5, c5, rfl⟩ := own_slice hown'
        have P := Lib.hid (show w5.ownsRow w2.heap.size 3 1 (.slice A5 (k + 1) c5) (k + 1) (intCells (leK S (k + 1))) ∧ TM KK w2.heap.size w5 h0 ∧ Chg KK w2 w5 from ⟨by rw [HLK.out, intCells_append]; exact hown', (HM4.out.below hba (Nat.le_refl _)).grown hgrow hrow, (HC4.out.trans (Chg.of_below hba (Nat.le_refl _))).of_row hgrow hrow⟩)
        clear hown' hgrow hba hrow HO4 HM4 HC4 hc3
        go_wp2
        go_roundw
        case rel => exact ⟨k + 1, A5, c5, by omega, by go_num, rfl, P.out⟩
        case measure => simp [intOf]; omega
      · have hk1 : k = n + 1 := by omega
        subst hk1
        have HOF := Lib.hid (own_base hown (show w.heap.size ≤ _ by omega))
        have HBF := Lib.hid (Chg.below hch (HB1.out.trans (HB2.out.mono HB1.out.size)) (fun i hi => by have := HK2.out i hi; omega))
        clear hown hm hch
        go_wp2
        go_ret2
        exact ⟨A', n + 1, c', rfl, by rw [HLR.out]; exact HOF.out, HBF.out⟩

set_option maxRecDepth 100000 in
set_option maxHeartbeats 8000000 in
theorem sLeftByClues_any (A : Option Addr) (n c : Nat) (S : List Clu) (w : World) (hr : Rd w 3 A n (boxCells S)) (hn : n ≤ 4000000000) (hnc : n ≤ c) (hcm : c ≤ 4000000000) :
    Calls Try.prog 53 #[puzV A n c] w fun e w' => ∃ A' n' c', e = .returned (.tuple #[.slice A' n' c', .bool (pzB S)]) ∧ w'.ownsRow w.heap.size 3 1 (.slice A' n' c') n' (intCells (leftR S)) ∧ Below w.heap.size w w' := by
  have HG := Lib.hid (fun wx h => pzGood_any A n c S wx h hn)
  have hll : S.length = n := by have := hr.1; rw [length_boxCells] at this; omega
  cases hb : pzB S
  · rw [show leftR S = [] by simp [leftR, hb]]
    rw [hb] at HG
    clear hb
    go_enter Try.func53, Try.ntmps53
    go_wp2_with fail
    refine (HG.out _ (hr.later (B := w.heap.size) (by (repeat (first | (with_reducible exact Below.refl _ _) | (with_reducible assumption) | (with_reducible refine Below.drew ?_) | ((with_reducible refine balloc ?_ _ ?_); · (first | (simp; done) | (simp; omega) | omega)) | ((with_reducible refine bset ?_ _ ?_); · (first | (simp; done) | (simp; omega) | omega)) | (with_reducible refine bdrewN _ ?_) | ((with_reducible refine bcall ?_ (by assumption) ?_); · (first | (simp; done) | (simp; omega) | omega))))) (Nat.le_refl _))).mono ?_; rintro e w1 ⟨rfl, hb1⟩
    go_wp2
    go_ret2
    exact ⟨none, 0, 0, rfl, World.ownsRow_nil _ _ _ _, by (repeat (first | (with_reducible exact Below.refl _ _) | (with_reducible assumption) | (with_reducible refine Below.drew ?_) | ((with_reducible refine balloc ?_ _ ?_); · (first | (simp; done) | (simp; omega) | omega)) | ((with_reducible refine bset ?_ _ ?_); · (first | (simp; done) | (simp; omega) | omega)) | (with_reducible refine bdrewN _ ?_) | ((with_reducible refine bcall ?_ (by assumption) ?_); · (first | (simp; done) | (simp; omega) | omega))))⟩
  · obtain ⟨i0, hi, hz0, hz1, hz2⟩ := info_parts int_info
    have HLR : Hid (leftR S = leK S (n + 1)) := by simp [Hid, leftR, hb, hll]
    rw [hb] at HG
    obtain ⟨hl6, hcl⟩ := pzB_true hb
    have HCL := Lib.hid hcl
    have n6 : n ≤ 6 := by omega
    have HR := Lib.hid hr
    clear hb hcl hll hl6
    go_enter Try.func53, Try.ntmps53
    go_wp2_with fail
    refine (HG.out _ (hr.later (B := w.heap.size) (by (repeat (first | (with_reducible exact Below.refl _ _) | (with_reducible assumption) | (with_reducible refine Below.drew ?_) | ((with_reducible refine balloc ?_ _ ?_); · (first | (simp; done) | (simp; omega) | omega)) | ((with_reducible refine bset ?_ _ ?_); · (first | (simp; done) | (simp; omega) | omega)) | (with_reducible refine bdrewN _ ?_) | ((with_reducible refine bcall ?_ (by assumption) ?_); · (first | (simp; done) | (simp; omega) | omega))))) (Nat.le_refl _))).mono ?_; rintro e w1 ⟨rfl, hb1⟩
    have s1 := hb1.size
    simp at s1
    have d0 : w1.cell? ⟨w.heap.size, 0, none⟩ = some (.slice A n c) := (hb1.cell (p := ⟨w.heap.size, 0, none⟩) (by simp)).trans (by simp [go_sem])
    have hB1 : Below w.heap.size w w1 := by (repeat (first | (with_reducible exact Below.refl _ _) | (with_reducible assumption) | (with_reducible refine Below.drew ?_) | ((with_reducible refine balloc ?_ _ ?_); · (first | (simp; done) | (simp; omega) | omega)) | ((with_reducible refine bset ?_ _ ?_); · (first | (simp; done) | (simp; omega) | omega)) | (with_reducible refine bdrewN _ ?_) | ((with_reducible refine bcall ?_ (by assumption) ?_); · (first | (simp; done) | (simp; omega) | omega))))
    have HB1 := Lib.hid hB1
    have HR1 := Lib.hid (hr.later hB1 (Nat.le_refl _))
    have HD1 := Lib.hid d0
    clear hb1 hB1 hr d0
    go_wp2
    go_loopw [4, 5] (fun v i wr => ∃ (k : Nat) (A' : Option Addr) (c' : Nat), k ≤ n + 1 ∧ i = .int .i64 k ∧ v = .slice A' k c' ∧ wr.ownsRow w1.heap.size 3 1 (.slice A' k c') k (intCells (leK S k)) ∧ Below w1.heap.size w1 wr) (fun _ i _ => n + 1 - (intOf i).toNat)
    case atStart => exact ⟨0, none, 0, Nat.zero_le _, rfl, rfl, World.ownsRow_nil _ _ _ _, Below.refl _ _⟩
    case round =>
      obtain ⟨k, A', c', hk, rfl, rfl, hown, hB⟩ := hrel
      have sB := hB.size
      have dr : wr.cell? ⟨w.heap.size, 0, none⟩ = some (.slice A n c) := (hB.cell (p := ⟨w.heap.size, 0, none⟩) (by show w.heap.size < w1.heap.size; omega)).trans HD1.out
      by_cases hlt : k ≤ n
      · have HSO := Lib.hid (pzAll_any A k c (S.take k) wr (fun q hq => HCL.out q (List.mem_of_mem_take hq)) (by omega) (rd_take3 (HR1.out.later hB (Nat.le_refl _)) hlt))
        have HLK := Lib.hid (leK_succ S k)
        have hle := solL_le (S.take k)
        have HOW := Lib.hid hown
        have HBB := Lib.hid hB
        have hkc : k ≤ c := by omega
        have hc3 : k + 1 ≤ maxLen := by simp only [maxLen]; omega
        clear hown hB
        go_wp2_with fail
        refine (HSO.out).mono ?_; rintro e w4 ⟨A4, m4, c4, rfl, hL4, ho4, hb4⟩
        rw [← hL4] at HLK hle
        have HO4 := Lib.hid (own_later HOW.out hb4 (Nat.le_refl _))
        have HB4 := Lib.hid (HBB.out.trans (hb4.mono sB))
        have s4 := HB4.out.size
        clear hb4 ho4 hL4 HSO dr
        go_wp2_with (at_builtin; refine wpList_append_own _ rfl (.tmp 16) (.tmp 23) 39 rfl w1.heap.size 3 i0 (.int .i64 0) 1 8 Try.underlying39 hi hz0 hz1 hz2 rfl (by decide) _ _ _ rfl (HO4.out.alloc _) ⟨w4.heap.size, 0, none⟩ 1 1 [.int .i64 (m4 : Int)] rfl rfl (new1 _ _ _) (int_oneCell [(m4 : Int)]) hc3 (by omega) (by simp; omega) ?_)
        intro v' w5 hown' hgrow _
        have hb5 := gb_new (Nat.le_refl _) (HB4.out.alloc (by have := HB4.out.size; omega) (.cells #[.int .i64 (m4 : Int)] 3)) hgrow (fun g hg => (HO4.out.lt g hg).1)
        obtain ⟨A5, c5, rfl⟩ := own_slice hown'
        clear hgrow hc3
        go_wp2
        go_roundw
        case rel => exact ⟨k + 1, A5, c5, by omega, by go_num, rfl, by rw [HLK.out, intCells_append]; exact hown', hb5⟩
        case measure => simp [intOf]; omega
      · have hk1 : k = n + 1 := by omega
        subst hk1
        have HOF := Lib.hid (own_base hown HB1.out.size)
        have HBF := Lib.hid (HB1.out.trans (hB.mono HB1.out.size))
        clear hown hB
        go_wp2
        go_ret2
        exact ⟨A', n + 1, c', rfl, by rw [HLR.out]; exact HOF.out, HBF.out⟩
end Go.Proofs.Ytghlgmbekgfmnaa
