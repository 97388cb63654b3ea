/-
  Contracts: HarderPuzzle of the program and of the model. Conditions: none.
-/
import Derived.Test.YtghlgmbekgfmnaaPzQ
import Derived.Test.YtghlgmbekgfmnaaPzX
namespace Go.Proofs.Ytghlgmbekgfmnaa
open Go.RowKit Go.Maps
set_option linter.unusedVariables false
set_option linter.unusedSimpArgs false

/-- clues are taken out from the one with the index k on -/
def hrdK : Nat → List Clu → Nat → List Clu
  | 0, L, _ => L
  | f + 1, L, k => if (solL (woL L k)).length = 1 then hrdK f (woL L k) k else hrdK f L (k + 1)
theorem hrdK_len : ∀ (f : Nat) (L : List Clu) (k : Nat), (hrdK f L k).length ≤ L.length
  | 0, L, k => Nat.le_refl _
  | f + 1, L, k => by
    rw [hrdK]
    split
    · refine Nat.le_trans (hrdK_len f _ _) ?_
      unfold woL
      rw [List.length_append, List.length_take, List.length_drop]
      omega
    · exact hrdK_len f _ _
/-- what HarderPuzzle returns -/
def harR (S : List Clu) : List Clu := if slvB S then hrdK S.length S 0 else []
theorem length_harR (S : List Clu) : (harR S).length ≤ 6 := by
  unfold harR
  cases h : slvB S
  · simp
  · simp only [slvB, Bool.and_eq_true] at h
    have h6 := (pzB_true h.1).1
    have := hrdK_len S.length S 0
    simp only [if_true]
    omega
theorem solL_nil : (solL []).length = 125 := by
  have h : fits [] = fun _ => true := funext fun l => by simp [fits]
  unfold solL
  rw [h, List.filter_eq_self.2 (fun _ _ => rfl), chs45_len]
theorem slv_pos {S : List Clu} (h : slvB S = true) : 0 < S.length := by
  cases S with
  | nil =>
    simp only [slvB, Bool.and_eq_true, decide_eq_true_eq] at h
    rw [solL_nil] at h
    omega
  | cons a r => simp

set_option maxRecDepth 100000 in
set_option maxHeartbeats 2000000 in
theorem cloneC_any (b o n c : Nat) (S : List Clu) (w : World) (hr : Rd w 3 (some ⟨b, o, none⟩) n (boxCells S)) (hn : n ≤ 1000) :
    Calls Try.prog 85 #[.slice (some ⟨b, o, none⟩) n c] w fun e w' => ∃ A c', e = .returned (.slice A n c') ∧ w'.ownsRow w.heap.size 25 3 (.slice A n c') n (boxCells S) ∧ Below w.heap.size w w' := by
  obtain ⟨i0, hi, hz0, hz1, hz2⟩ := info_parts clue_info
  have hba : Below w.heap.size w (w.alloc (.cells #[] 25)) := (Below.refl _ _).alloc (Nat.le_refl _) _
  have HL1 := Lib.hid hr.1
  have HNW := Lib.hid (rd_newsG (hr.later hba (Nat.le_refl _)))
  have HOW := Lib.hid (own_new w 25 3 0 #[] rfl (by omega) (Nat.le_refl _))
  have hc3 : 0 + n ≤ maxLen := by simp only [maxLen]; omega
  have hnil : ∀ wx : World, (binOp .eql 33 (.slice (some ⟨b, o, none⟩) n c) (.slice none 0 0)).run Try.prog wx = .ok (.bool false) wx := fun _ => by kernel_rfl
  clear hr
  go_enter Try.func85, Try.ntmps85
  go_wp2_with (at_builtin; refine wpList_append_own _ rfl (.tmp 5) (.tmp 6) 33 rfl w.heap.size 25 i0 (bx3 0 0 0) 3 24 Try.underlying33 hi hz0 hz1 hz2 rfl (by decide) _ _ _ rfl HOW.out ⟨b, o, none⟩ n c (boxCells S) rfl HL1.out HNW.out (box_oneCell _) hc3 (by omega) (by simp) ?_)
  intro v1 w3 hown1 hgrow1 _
  have hb3 := gb_new (Nat.le_refl _) hba hgrow1 (fun g hg => by cases hg; exact Nat.le_refl _)
  obtain ⟨A3, c3, rfl⟩ := own_slice hown1
  (try simp only [Nat.zero_add] at hown1)
  (try rw [Nat.zero_add])
  have HOF := Lib.hid hown1
  have HBF := Lib.hid hb3
  clear hown1 hgrow1 hb3 HNW HOW
  go_wp2
  go_ret
  exact ⟨A3, c3, rfl, by simpa [boxCells] using HOF.out, HBF.out⟩

set_option maxRecDepth 100000 in
set_option maxHeartbeats 8000000 in
theorem harder_any (A : Option Addr) (n c : Nat) (S : List Clu) (w : World) (hr : Rd w 3 A n (boxCells S)) (hn : n ≤ 4000000000) (hnc : n ≤ c) (hcm : c ≤ 4000000000) :
    Calls Try.prog 58 #[puzV A n c] w fun e w' => ∃ A' n' c', e = .returned (.tuple #[puzV A' n' c', .bool (slvB S)]) ∧ w'.ownsRow w.heap.size 25 3 (.slice A' n' c') n' (boxCells (harR S)) ∧ Below w.heap.size w w' := by
  have HG := Lib.hid (fun wx h => isSolved_any A n c S wx h hn)
  have hll : S.length = n := by have := hr.1; rw [length_boxCells] at this; omega
  have hba : Below w.heap.size w ((w.alloc (.cells #[.slice A n c] 35)).alloc (.cells #[.slice none 0 0] 35)) := by (repeat (first | (with_reducible exact Below.refl _ _) | (with_reducible assumption) | (with_reducible refine Below.drew ?_) | ((with_reducible refine balloc ?_ _ ?_); · (first | (simp; done) | (simp; omega) | omega)) | ((with_reducible refine bset ?_ _ ?_); · (first | (simp; done) | (simp; omega) | omega)) | (with_reducible refine bdrewN _ ?_) | ((with_reducible refine bcall ?_ (by assumption) ?_); · (first | (simp; done) | (simp; omega) | omega))))
  cases hs : slvB S
  · rw [show harR S = [] by simp [harR, hs]]
    rw [hs] at HG
    clear hs hll
    cases hp : pzB S
    all_goals
      rw [hp] at HG
      clear hp
      go_enter Try.func58, Try.ntmps58
      go_wp2_with fail
      refine (HG.out _ (hr.later (B := w.heap.size) hba (Nat.le_refl _))).mono ?_; rintro e w1 ⟨rfl, hb1⟩
      have s1 := hb1.size
      simp at s1
      have d1 : w1.cell? ⟨w.heap.size + 1, 0, none⟩ = some (.slice none 0 0) := (hb1.cell (p := ⟨w.heap.size + 1, 0, none⟩) (by simp)).trans (by simp [go_sem])
      have f1 : w1.frozen? ⟨w.heap.size + 1, 0, none⟩ = false := (hb1.frozen (p := ⟨w.heap.size + 1, 0, none⟩) (by simp)).trans (by simp [go_sem])
      have hB1 := hba.trans (hb1.mono hba.size)
      clear hb1
      go_wp2
      refine bodyPost_ret (v := .tuple #[puzV none 0 0, .bool false]) (by simp [results, Try.results58, go_sem, d1]) rfl ⟨none, 0, 0, rfl, World.ownsRow_nil _ _ _ _, ?_⟩
      exact bset (p := ⟨w.heap.size + 1, 0, none⟩) (by simp) _ hB1
  · have hp : pzB S = true := by simp only [slvB, Bool.and_eq_true] at hs; exact hs.1
    have HLR : Hid (harR S = hrdK S.length S 0) := by simp [Hid, harR, hs]
    rw [hs, hp] at HG
    obtain ⟨hl6, hcl⟩ := pzB_true hp
    have HCL := Lib.hid hcl
    have n6 : n ≤ 6 := by omega
    have n0 : 0 < n := by have := slv_pos hs; omega
    have HLL := Lib.hid hll
    obtain ⟨bA, oA, rfl, hbA, _⟩ := hr.2 n0
    clear hs hp hcl hll hl6
    go_enter Try.func58, Try.ntmps58
    go_wp2_with fail
    refine (HG.out _ (hr.later (B := w.heap.size) hba (Nat.le_refl _))).mono ?_; rintro e w1 ⟨rfl, hb1⟩
    have s1 := hb1.size
    simp at s1
    have d0 : w1.cell? ⟨w.heap.size, 0, none⟩ = some (.slice (some ⟨bA, oA, none⟩) n c) := (hb1.cell (p := ⟨w.heap.size, 0, none⟩) (by first | (simp; done) | (simp; omega))).trans (by simp [go_sem])
    have d1 : w1.cell? ⟨w.heap.size + 1, 0, none⟩ = some (.slice none 0 0) := (hb1.cell (p := ⟨w.heap.size + 1, 0, none⟩) (by simp)).trans (by simp [go_sem])
    have f1 : w1.frozen? ⟨w.heap.size + 1, 0, none⟩ = false := (hb1.frozen (p := ⟨w.heap.size + 1, 0, none⟩) (by simp)).trans (by simp [go_sem])
    have hB1 := hba.trans (hb1.mono hba.size)
    have HB1 := Lib.hid hB1
    have HR1 := Lib.hid (hr.later hB1 (Nat.le_refl _))
    clear hb1 hB1 hr
    go_wp2_with fail
    refine (clueTeller_any _).mono ?_; rintro e w2 ⟨KK, h0, rfl, ht2, hb2, hK2⟩
    have s2 := hb2.size
    have d2 := (hb2.cell (p := ⟨w.heap.size, 0, none⟩) (by show w.heap.size < w1.heap.size; omega)).trans d0
    have d3 := (hb2.cell (p := ⟨w.heap.size + 1, 0, none⟩) (by show w.heap.size + 1 < w1.heap.size; omega)).trans d1
    have f3 := (hb2.frozen (p := ⟨w.heap.size + 1, 0, none⟩) (by show w.heap.size + 1 < w1.heap.size; omega)).trans f1
    have HT2 := Lib.hid ht2
    have HB2 := Lib.hid (HB1.out.trans (hb2.mono HB1.out.size))
    have HK2 := Lib.hid hK2
    have HKN := Lib.hid ht2.kn
    have HCN := Lib.hid (cloneC_any bA oA n c S w2 (HR1.out.later hb2 (Nat.le_refl _)) (by omega))
    clear ht2 hb2 hK2 d0 d1 f1
    go_wp2_with fail
    refine (HCN.out).mono ?_; rintro e w3 ⟨A3, c3, rfl, ho3, hb3⟩
    have s3 := hb3.size
    have d4 := (hb3.cell (p := ⟨w.heap.size + 1, 0, none⟩) (by show w.heap.size + 1 < w2.heap.size; omega)).trans d3
    have f4 := (hb3.frozen (p := ⟨w.heap.size + 1, 0, none⟩) (by show w.heap.size + 1 < w2.heap.size; omega)).trans f3
    have HD4 := Lib.hid d4
    have HF4 := Lib.hid f4
    have HM3 := Lib.hid (HT2.out.below hb3 (Nat.le_refl _))
    have HB3 := Lib.hid (HB2.out.trans (hb3.mono HB2.out.size))
    have HO3 := Lib.hid ho3
    clear hb3 ho3 d2 d3 f3 d4 f4 HCN HT2
    go_wp2
    go_loopw [7, 8] (fun v i wr => ∃ (k m : Nat) (A' : Option Addr) (c' : Nat) (L : List Clu), k ≤ m ∧ m ≤ n ∧ i = .int .i64 k ∧ v = .slice A' m c' ∧ Hid (L.length = m) ∧ Hid (∀ q ∈ L, cluB q = true) ∧ Hid (hrdK (m - k) L k = hrdK S.length S 0) ∧ wr.ownsRow w2.heap.size 25 3 (.slice A' m c') m (boxCells L) ∧ TM KK w2.heap.size wr h0 ∧ Chg KK w3 wr) (fun v i _ => (match v with | .slice _ m _ => m | _ => 0) - (intOf i).toNat)
    case atStart => exact ⟨0, n, A3, c3, S, Nat.zero_le _, Nat.le_refl _, rfl, rfl, HLL.out, HCL.out, by simp only [Hid]; rw [HLL.out, Nat.sub_zero], HO3.out, HM3.out, Chg.refl _ _⟩
    case round =>
      obtain ⟨k, m, A', c', L, hk, hmn, rfl, rfl, hL, hC, hH, hown, hm, hch⟩ := hrel
      have sw := hch.size
      by_cases hlt : k < m
      · obtain ⟨bL, rfl, hbL1, hbL⟩ := own_at hown (by omega)
        obtain ⟨hcap, hcap2⟩ := own_capG hown rfl
        have hcap3 : c' ≤ 9223372036854775807 := by simpa [maxLen] using hcap2
        have HWO := Lib.hid (withoutClue_any bL 0 m c' k L wr (Rd.of_own hown) hlt (by omega) hcap hcap3)
        have HSP : Hid (hrdK (m - k) L k = if (solL (woL L k)).length = 1 then hrdK (m - k - 1) (woL L k) k else hrdK (m - k - 1) L (k + 1)) := by
          simp only [Hid]
          rw [show m - k = (m - k - 1) + 1 by omega, hrdK]
          simp
        have HLW : Hid ((woL L k).length = m - 1) := by simp only [Hid]; rw [length_woL (by rw [hL.out]; exact hlt), hL.out]
        have HCW : Hid (∀ q ∈ woL L k, cluB q = true) := fun q hq => hC.out q (mem_woL hq)
        have hle := solL_le (woL L k)
        have HSO := Lib.hid (fun (A : Option Addr) (c' : Nat) (wx : World) (hr : ∀ w', Chg KK wx w' → Rd w' 3 A (m - 1) (boxCells (woL L k))) (ht : TM KK w2.heap.size wx h0) => solutionsOf_any KK w2.heap.size h0 A (m - 1) c' (woL L k) wx HCW.out (by omega) hr ht)
        have HOW := Lib.hid hown
        have HCH := Lib.hid hch
        have HMM := Lib.hid hm
        clear hown hm hch hcap2
        go_wp2_with fail
        refine (HWO.out).mono ?_; rintro e w4 ⟨A4, c4, rfl, ho4, hb4⟩
        have s4 := hb4.size
        have hown4 := own_later HOW.out hb4 (Nat.le_refl _)
        have hch4 := HCH.out.trans (Chg.of_below (K := KK) hb4 (Nat.le_refl _))
        have hm4 := HMM.out.below hb4 (Nat.le_refl _)
        have HS4 := Lib.hid (HSO.out A4 c4 w4 (fun w' h => h.rd (Rd.of_own ho4) (fun b o e hk => by
          have h1 := (ho4.lt b (by rw [e]; rfl)).1
          have h2 := HKN.out b hk
          omega)) hm4)
        have HO4 := Lib.hid hown4
        have HW4 := Lib.hid ho4
        have HC4 := Lib.hid hch4
        clear hb4 ho4 hown4 hch4 hm4 HWO HSO
        go_wp2_with fail
        refine (HS4.out).mono ?_; rintro e w5 ⟨A5, m5, c5, rfl, hL5, ho5, hm5, hch5⟩
        rw [hL5] at HSP hle
        have own5 := hch5.own HO4.out (fun q hq e => by have e2 := (HO4.out.lt q hq).1; have e3 := HKN.out q e; omega)
        have wown5 := own_base (hch5.own HW4.out (fun q hq e => by have e2 := (HW4.out.lt q hq).1; have e3 := HKN.out q e; omega)) (show w2.heap.size ≤ wr.heap.size by omega)
        have HO5 := Lib.hid own5
        have HW5 := Lib.hid wown5
        have HM5 := Lib.hid hm5
        have HC5 := Lib.hid (HC4.out.trans hch5)
        have s5 := hch5.size
        clear own5 wown5 hm5 hch5 ho5 hL5 HS4
        by_cases he : m5 = 1
        · have hd : ((m5 : Int) == 1) = true := by simp; omega
          have HN : Hid (hrdK (m - 1 - k) (woL L k) k = hrdK S.length S 0) := by
            simp only [Hid]
            rw [← hH.out, HSP.out, if_pos he, show m - 1 - k = m - k - 1 by omega]
          clear he HSP
          go_wp2
          go_roundw
          case rel => exact ⟨k, m - 1, A4, c4, woL L k, by omega, by omega, rfl, rfl, HLW.out, HCW.out, HN.out, HW5.out, HM5.out, HC5.out⟩
          case measure => simp [intOf]; omega
        · have hd : ((m5 : Int) == 1) = false := by simp; omega
          have HN : Hid (hrdK (m - (k + 1)) L (k + 1) = hrdK S.length S 0) := by
            simp only [Hid]
            rw [← hH.out, HSP.out, if_neg he, show m - (k + 1) = m - k - 1 by omega]
          clear he HSP
          go_wp2
          go_roundw
          case rel => exact ⟨k + 1, m, some ⟨bL, 0, none⟩, c', L, by omega, by omega, by go_num, rfl, hL.out, hC.out, HN.out, HO5.out, HM5.out, HC5.out⟩
          case measure => simp [intOf]; omega
      · have hk1 : k = m := by omega
        subst hk1
        have hLR : L = harR S := by
          have h := hH.out
          rw [Nat.sub_self] at h
          rw [HLR.out, ← h]
          rfl
        rw [hLR] at hown
        have dr : wr.cell? ⟨w.heap.size + 1, 0, none⟩ = some (.slice none 0 0) := hch.cell HD4.out (fun e => by have := HK2.out _ e; simp at this; omega)
        have fr : wr.frozen? ⟨w.heap.size + 1, 0, none⟩ = false := (World.frozen?_of_block (hch.block _ (by show w.heap.size + 1 < w3.heap.size; omega) (fun e => by have := HK2.out _ e; simp at this; omega))).trans HF4.out
        have hbF := Chg.below hch HB3.out (fun i hi => by have := HK2.out i hi; omega)
        have HO := Lib.hid (own_setO (b := w.heap.size + 1) (o := 0) hown (.slice A' k c') (fun e => by have := (hown.lt _ e).1; omega))
        have HOB := Lib.hid (own_base HO.out (show w.heap.size ≤ w2.heap.size by omega))
        have HBF := Lib.hid hbF
        clear hown hm hch hbF hLR
        go_wp2
        refine bodyPost_ret (v := .tuple #[puzV A' k c', .bool true]) (by simp [results, Try.results58, go_sem, dr]) rfl ⟨A', k, c', rfl, HOB.out, ?_⟩
        exact bset (p := ⟨w.heap.size + 1, 0, none⟩) (by simp) _ HBF.out

set_option maxRecDepth 100000 in
set_option maxHeartbeats 8000000 in
theorem sHarder_any (A : Option Addr) (n c : Nat) (S : List Clu) (w : World) (hr : Rd w 3 A n (boxCells S)) (hn : n ≤ 4000000000) (hnc : n ≤ c) (hcm : c ≤ 4000000000) :
    Calls Try.prog 57 #[puzV A n c] w fun e w' => ∃ A' n' c', e = .returned (.tuple #[puzV A' n' c', .bool (slvB S)]) ∧ w'.ownsRow w.heap.size 25 3 (.slice A' n' c') n' (boxCells (harR S)) ∧ Below w.heap.size w w' := by
  have HG := Lib.hid (fun wx h => pzGood_any A n c S wx h hn)
  have hll : S.length = n := by have := hr.1; rw [length_boxCells] at this; omega
  have hba : Below w.heap.size w ((w.alloc (.cells #[.slice A n c] 35)).alloc (.cells #[.slice none 0 0] 35)) := by (repeat (first | (with_reducible exact Below.refl _ _) | (with_reducible assumption) | (with_reducible refine Below.drew ?_) | ((with_reducible refine balloc ?_ _ ?_); · (first | (simp; done) | (simp; omega) | omega)) | ((with_reducible refine bset ?_ _ ?_); · (first | (simp; done) | (simp; omega) | omega)) | (with_reducible refine bdrewN _ ?_) | ((with_reducible refine bcall ?_ (by assumption) ?_); · (first | (simp; done) | (simp; omega) | omega))))
  cases hp : pzB S
  · have hs : slvB S = false := by simp [slvB, hp]
    rw [show harR S = [] by simp [harR, hs], hs]
    rw [hp] at HG
    clear hp hll hs
    go_enter Try.func57, Try.ntmps57
    go_wp2_with fail
    refine (HG.out _ (hr.later (B := w.heap.size) hba (Nat.le_refl _))).mono ?_; rintro e w1 ⟨rfl, hb1⟩
    have s1 := hb1.size
    simp at s1
    have d1 : w1.cell? ⟨w.heap.size + 1, 0, none⟩ = some (.slice none 0 0) := (hb1.cell (p := ⟨w.heap.size + 1, 0, none⟩) (by simp)).trans (by simp [go_sem])
    have f1 : w1.frozen? ⟨w.heap.size + 1, 0, none⟩ = false := (hb1.frozen (p := ⟨w.heap.size + 1, 0, none⟩) (by simp)).trans (by simp [go_sem])
    have hB1 := hba.trans (hb1.mono hba.size)
    clear hb1
    go_wp2
    refine bodyPost_ret (v := .tuple #[puzV none 0 0, .bool false]) (by simp [results, Try.results57, go_sem, d1]) rfl ⟨none, 0, 0, rfl, World.ownsRow_nil _ _ _ _, ?_⟩
    exact bset (p := ⟨w.heap.size + 1, 0, none⟩) (by simp) _ hB1
  obtain ⟨hl6, hcl⟩ := pzB_true hp
  have HCL := Lib.hid hcl
  have n6 : n ≤ 6 := by omega
  have HSV := Lib.hid (fun wx h => pzSolved_any A n c S wx HCL.out (by omega) h)
  have hsd : slvB S = decide ((solL S).length = 1) := by simp [slvB, hp]
  cases hs : slvB S
  · rw [show harR S = [] by simp [harR, hs]]
    rw [hp] at HG
    rw [← hsd, hs] at HSV
    clear hp hll hs hsd hl6 hcl
    go_enter Try.func57, Try.ntmps57
    go_wp2_with fail
    refine (HG.out _ (hr.later (B := w.heap.size) hba (Nat.le_refl _))).mono ?_; rintro e w1 ⟨rfl, hb1⟩
    have s1 := hb1.size
    simp at s1
    have d0 : w1.cell? ⟨w.heap.size, 0, none⟩ = some (.slice A n c) := (hb1.cell (p := ⟨w.heap.size, 0, none⟩) (by first | (simp; done) | (simp; omega))).trans (by simp [go_sem])
    have d1 : w1.cell? ⟨w.heap.size + 1, 0, none⟩ = some (.slice none 0 0) := (hb1.cell (p := ⟨w.heap.size + 1, 0, none⟩) (by simp)).trans (by simp [go_sem])
    have f1 : w1.frozen? ⟨w.heap.size + 1, 0, none⟩ = false := (hb1.frozen (p := ⟨w.heap.size + 1, 0, none⟩) (by simp)).trans (by simp [go_sem])
    have hB1 := hba.trans (hb1.mono hba.size)
    have HR1 := Lib.hid (hr.later hB1 (Nat.le_refl _))
    clear hb1
    go_wp2_with fail
    refine (HSV.out _ HR1.out).mono ?_; rintro e w2 ⟨rfl, hb2⟩
    have d2 := (hb2.cell (p := ⟨w.heap.size + 1, 0, none⟩) (by show w.heap.size + 1 < w1.heap.size; omega)).trans d1
    have f2 := (hb2.frozen (p := ⟨w.heap.size + 1, 0, none⟩) (by show w.heap.size + 1 < w1.heap.size; omega)).trans f1
    have hB2 := hB1.trans (hb2.mono hB1.size)
    clear hb2
    go_wp2
    refine bodyPost_ret (v := .tuple #[puzV none 0 0, .bool false]) (by simp [results, Try.results57, go_sem, d2]) rfl ⟨none, 0, 0, rfl, World.ownsRow_nil _ _ _ _, ?_⟩
    exact bset (p := ⟨w.heap.size + 1, 0, none⟩) (by simp) _ hB2
  · obtain ⟨i0, hi, hz0, hz1, hz2⟩ := info_parts clue_info
    have HLR : Hid (harR S = hrdK S.length S 0) := by simp [Hid, harR, hs]
    rw [hp] at HG
    rw [← hsd, hs] at HSV
    have n0 : 0 < n := by have := slv_pos hs; omega
    have HLL := Lib.hid hll
    obtain ⟨bA, oA, rfl, hbA, _⟩ := hr.2 n0
    clear hs hp hcl hll hl6 hsd
    go_enter Try.func57, Try.ntmps57
    go_wp2_with fail
    refine (HG.out _ (hr.later (B := w.heap.size) hba (Nat.le_refl _))).mono ?_; rintro e w1 ⟨rfl, hb1⟩
    have s1 := hb1.size
    simp at s1
    have d0 : w1.cell? ⟨w.heap.size, 0, none⟩ = some (.slice (some ⟨bA, oA, none⟩) n c) := (hb1.cell (p := ⟨w.heap.size, 0, none⟩) (by first | (simp; done) | (simp; omega))).trans (by simp [go_sem])
    have d1 : w1.cell? ⟨w.heap.size + 1, 0, none⟩ = some (.slice none 0 0) := (hb1.cell (p := ⟨w.heap.size + 1, 0, none⟩) (by simp)).trans (by simp [go_sem])
    have f1 : w1.frozen? ⟨w.heap.size + 1, 0, none⟩ = false := (hb1.frozen (p := ⟨w.heap.size + 1, 0, none⟩) (by simp)).trans (by simp [go_sem])
    have hB1 := hba.trans (hb1.mono hba.size)
    have HB1 := Lib.hid hB1
    have HR1 := Lib.hid (hr.later hB1 (Nat.le_refl _))
    clear hb1 hB1 hr
    go_wp2_with fail
    refine (HSV.out _ HR1.out).mono ?_; rintro e w2 ⟨rfl, hb2⟩
    have s2 := hb2.size
    have d2 := (hb2.cell (p := ⟨w.heap.size, 0, none⟩) (by show w.heap.size < w1.heap.size; omega)).trans d0
    have d3 := (hb2.cell (p := ⟨w.heap.size + 1, 0, none⟩) (by show w.heap.size + 1 < w1.heap.size; omega)).trans d1
    have f3 := (hb2.frozen (p := ⟨w.heap.size + 1, 0, none⟩) (by show w.heap.size + 1 < w1.heap.size; omega)).trans f1
    have HB2 := Lib.hid (HB1.out.trans (hb2.mono HB1.out.size))
    have HR2 := Lib.hid (HR1.out.later hb2 (Nat.le_refl _))
    have hba2 : Below w2.heap.size w2 (w2.alloc (.cells #[] 25)) := (Below.refl _ _).alloc (Nat.le_refl _) _
    have HL1 := Lib.hid HR2.out.1
    have HNW := Lib.hid (rd_newsG (HR2.out.later hba2 (Nat.le_refl _)))
    have HOW := Lib.hid (own_new w2 25 3 0 #[] rfl (by omega) (Nat.le_refl _))
    have hc3 : 0 + n ≤ maxLen := by simp only [maxLen]; omega
    have z2 : w.heap.size < w2.heap.size := by omega
    clear hb2 d0 d1 f1
    go_wp2_with (at_builtin; refine wpList_append_own _ rfl (.tmp 17) (.tmp 19) 33 rfl w2.heap.size 25 i0 (bx3 0 0 0) 3 24 Try.underlying33 hi hz0 hz1 hz2 rfl (by decide) _ _ _ rfl HOW.out ⟨bA, oA, none⟩ n c (boxCells S) rfl HL1.out HNW.out (box_oneCell _) hc3 (by omega) (by simp) ?_)
    intro v1 w3 hown1 hgrow1 _
    have hb3 := gb_new (Nat.le_refl _) hba2 hgrow1 (fun g hg => by cases hg; exact Nat.le_refl _)
    obtain ⟨A3, c3, rfl⟩ := own_slice hown1
    (try simp only [Nat.zero_add] at hown1)
    (try rw [Nat.zero_add])
    have s3 := hb3.size
    have d4 := (hb3.cell (p := ⟨w.heap.size + 1, 0, none⟩) (by show w.heap.size + 1 < w2.heap.size; omega)).trans d3
    have f4 := (hb3.frozen (p := ⟨w.heap.size + 1, 0, none⟩) (by show w.heap.size + 1 < w2.heap.size; omega)).trans f3
    have HD4 := Lib.hid d4
    have HF4 := Lib.hid f4
    have HB3 := Lib.hid (HB2.out.trans (hb3.mono HB2.out.size))
    have HO3 : Hid (w3.ownsRow w2.heap.size 25 3 (.slice A3 n c3) n (boxCells S)) := by simpa [Hid, boxCells] using hown1
    clear hb3 hown1 hgrow1 d2 d3 f3 d4 f4 HNW HOW hba2
    go_wp2
    go_loopw [4, 5] (fun v i wr => ∃ (k m : Nat) (A' : Option Addr) (c' : Nat) (L : List Clu), k ≤ m ∧ m ≤ n ∧ i = .int .i64 k ∧ v = .slice A' m c' ∧ Hid (L.length = m) ∧ Hid (∀ q ∈ L, cluB q = true) ∧ Hid (hrdK (m - k) L k = hrdK S.length S 0) ∧ wr.ownsRow w2.heap.size 25 3 (.slice A' m c') m (boxCells L) ∧ Below w3.heap.size w3 wr) (fun v i _ => (match v with | .slice _ m _ => m | _ => 0) - (intOf i).toNat)
    case atStart => exact ⟨0, n, A3, c3, S, Nat.zero_le _, Nat.le_refl _, rfl, rfl, HLL.out, HCL.out, by simp only [Hid]; rw [HLL.out, Nat.sub_zero], HO3.out, Below.refl _ _⟩
    case round =>
      obtain ⟨k, m, A', c', L, hk, hmn, rfl, rfl, hL, hC, hH, hown, hB⟩ := hrel
      have sB := hB.size
      by_cases hlt : k < m
      · obtain ⟨bL, rfl, hbL1, hbL⟩ := own_at hown (by omega)
        obtain ⟨hcap, hcap2⟩ := own_capG hown rfl
        have hcap3 : c' ≤ 9223372036854775807 := by simpa [maxLen] using hcap2
        have HWO := Lib.hid (pzWithout_any bL 0 m c' k L wr (Rd.of_own hown) hlt (by omega) hcap hcap3)
        have HSP : Hid (hrdK (m - k) L k = if (solL (woL L k)).length = 1 then hrdK (m - k - 1) (woL L k) k else hrdK (m - k - 1) L (k + 1)) := by
          simp only [Hid]
          rw [show m - k = (m - k - 1) + 1 by omega, hrdK]
          simp
        have HLW : Hid ((woL L k).length = m - 1) := by simp only [Hid]; rw [length_woL (by rw [hL.out]; exact hlt), hL.out]
        have HCW : Hid (∀ q ∈ woL L k, cluB q = true) := fun q hq => hC.out q (mem_woL hq)
        have HSO := Lib.hid (fun (A : Option Addr) (c' : Nat) (wx : World) (hr : Rd wx 3 A (m - 1) (boxCells (woL L k))) => pzSolved_any A (m - 1) c' (woL L k) wx HCW.out (by omega) hr)
        have HOW := Lib.hid hown
        have HBB := Lib.hid hB
        clear hown hB hcap2
        go_wp2_with fail
        refine (HWO.out).mono ?_; rintro e w4 ⟨A4, c4, rfl, ho4, hb4⟩
        have s4 := hb4.size
        have HO4 := Lib.hid (own_later HOW.out hb4 (Nat.le_refl _))
        have HW4 := Lib.hid ho4
        have HB4 := Lib.hid (HBB.out.trans (hb4.mono sB))
        have HS4 := Lib.hid (HSO.out A4 c4 w4 (Rd.of_own ho4))
        clear hb4 ho4 HWO HSO
        go_wp2_with fail
        refine (HS4.out).mono ?_; rintro e w5 ⟨rfl, hb5⟩
        have HO5 := Lib.hid (own_later HO4.out hb5 (Nat.le_refl _))
        have HW5 := Lib.hid (own_base (own_later HW4.out hb5 (Nat.le_refl _)) (show w2.heap.size ≤ wr.heap.size by omega))
        have HB5 := Lib.hid (HB4.out.trans (hb5.mono HB4.out.size))
        clear hb5 HS4
        by_cases he : (solL (woL L k)).length = 1
        · have hd : decide ((solL (woL L k)).length = 1) = true := decide_eq_true he
          rw [hd]
          have HN : Hid (hrdK (m - 1 - k) (woL L k) k = hrdK S.length S 0) := by
            simp only [Hid]
            rw [← hH.out, HSP.out, if_pos he, show m - 1 - k = m - k - 1 by omega]
          clear he HSP hd
          go_wp2
          go_roundw
          case rel => exact ⟨k, m - 1, A4, c4, woL L k, by omega, by omega, rfl, rfl, HLW.out, HCW.out, HN.out, HW5.out, HB5.out⟩
          case measure => simp [intOf]; omega
        · have hd : decide ((solL (woL L k)).length = 1) = false := decide_eq_false he
          rw [hd]
          have HN : Hid (hrdK (m - (k + 1)) L (k + 1) = hrdK S.length S 0) := by
            simp only [Hid]
            rw [← hH.out, HSP.out, if_neg he, show m - (k + 1) = m - k - 1 by omega]
          clear he HSP hd
          go_wp2
          go_roundw
          case rel => exact ⟨k + 1, m, some ⟨bL, 0, none⟩, c', L, by omega, by omega, by go_num, rfl, hL.out, hC.out, HN.out, HO5.out, HB5.out⟩
          case measure => simp [intOf]; omega
      · have hk1 : k = m := by omega
        subst hk1
        have hLR : L = harR S := by
          have h := hH.out
          rw [Nat.sub_self] at h
          rw [HLR.out, ← h]
          rfl
        rw [hLR] at hown
        have dr : wr.cell? ⟨w.heap.size + 1, 0, none⟩ = some (.slice none 0 0) := (hB.cell (p := ⟨w.heap.size + 1, 0, none⟩) (by show w.heap.size + 1 < w3.heap.size; omega)).trans HD4.out
        have fr : wr.frozen? ⟨w.heap.size + 1, 0, none⟩ = false := (hB.frozen (p := ⟨w.heap.size + 1, 0, none⟩) (by show w.heap.size + 1 < w3.heap.size; omega)).trans HF4.out
        have hbF := HB3.out.trans (hB.mono HB3.out.size)
        have HO := Lib.hid (own_setO (b := w.heap.size + 1) (o := 0) hown (.slice A' k c') (fun e => by have := (hown.lt _ e).1; omega))
        have HOB := Lib.hid (own_base HO.out (show w.heap.size ≤ w2.heap.size by omega))
        have HBF := Lib.hid hbF
        clear hown hB hbF hLR
        go_wp2
        refine bodyPost_ret (v := .tuple #[puzV A' k c', .bool true]) (by simp [results, Try.results57, go_sem, dr]) rfl ⟨A', k, c', rfl, HOB.out, ?_⟩
        exact bset (p := ⟨w.heap.size + 1, 0, none⟩) (by simp) _ HBF.out
end Go.Proofs.Ytghlgmbekgfmnaa
