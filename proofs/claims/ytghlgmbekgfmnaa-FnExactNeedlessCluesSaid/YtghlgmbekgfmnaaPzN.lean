/-
  Contracts: NeedlessClues of the program and of the model. Conditions: none.
-/
import Derived.Test.YtghlgmbekgfmnaaPzQ
import Derived.Test.YtghlgmbekgfmnaaPzX
namespace Go.Proofs.Ytghlgmbekgfmnaa
open Go.RowKit Go.Maps
set_option linter.unusedVariables false
set_option linter.unusedSimpArgs false

/-- without this one there are as many -/
def neP (S : List Clu) (i : Nat) : Bool := decide ((solL (woL S i)).length = (solL S).length)
def neK (S : List Clu) (k : Nat) : List Int := ((List.range k).filter (neP S)).map fun (i : Nat) => (i : Int)
theorem neK_yes {S : List Clu} {k : Nat} (h : neP S k = true) : neK S (k + 1) = neK S k ++ [(k : Int)] := by simp [neK, List.range_succ, List.filter_append, h]
theorem neK_no {S : List Clu} {k : Nat} (h : neP S k = false) : neK S (k + 1) = neK S k := by simp [neK, List.range_succ, List.filter_append, h]
theorem length_neK (S : List Clu) (k : Nat) : (neK S k).length ≤ k := by
  unfold neK
  rw [List.length_map]
  have := List.length_filter_le (neP S) (List.range k)
  simpa using this
/-- what NeedlessClues returns -/
def needR (S : List Clu) : List Int := if pzB S then neK S S.length else []
theorem length_needR (S : List Clu) : (needR S).length ≤ 6 := by
  unfold needR
  cases h : pzB S
  · simp
  · have h6 := (pzB_true h).1
    have := length_neK S S.length
    simp only [if_true]
    omega

set_option maxRecDepth 100000 in
set_option maxHeartbeats 8000000 in
theorem needless_any (A : Option Addr) (n c : Nat) (S : List Clu) (w : World) (hr : Rd w 3 A n (boxCells S)) (hn : n ≤ 4000000000) (hnc : n ≤ c) (hcm : c ≤ 4000000000) :
    Calls Try.prog 47 #[puzV A n c] w fun e w' => ∃ A' n' c', e = .returned (.tuple #[.slice A' n' c', .bool (pzB S)]) ∧ w'.ownsRow w.heap.size 3 1 (.slice A' n' c') n' (intCells (needR S)) ∧ Below w.heap.size w w' := by
  have HG := Lib.hid (fun wx h => isPuzzle_any A n c S wx h hn)
  have hll : S.length = n := by have := hr.1; rw [length_boxCells] at this; omega
  cases hb : pzB S
  · rw [show needR S = [] by simp [needR, hb]]
    have HB := Lib.hid hb
    clear hb
    go_enter Try.func47, Try.ntmps47
    go_wp2_with fail
    refine (HG.out _ (hr.later (B := w.heap.size) (by (repeat (first | (with_reducible exact Below.refl _ _) | (with_reducible assumption) | (with_reducible refine Below.drew ?_) | ((with_reducible refine balloc ?_ _ ?_); · (first | (simp; done) | (simp; omega) | omega)) | ((with_reducible refine bset ?_ _ ?_); · (first | (simp; done) | (simp; omega) | omega)) | (with_reducible refine bdrewN _ ?_) | ((with_reducible refine bcall ?_ (by assumption) ?_); · (first | (simp; done) | (simp; omega) | omega))))) (Nat.le_refl _))).mono ?_; rintro e w1 ⟨rfl, hb1⟩
    rw [HB.out]
    go_wp2
    go_ret2
    exact ⟨none, 0, 0, rfl, World.ownsRow_nil _ _ _ _, by (repeat (first | (with_reducible exact Below.refl _ _) | (with_reducible assumption) | (with_reducible refine Below.drew ?_) | ((with_reducible refine balloc ?_ _ ?_); · (first | (simp; done) | (simp; omega) | omega)) | ((with_reducible refine bset ?_ _ ?_); · (first | (simp; done) | (simp; omega) | omega)) | (with_reducible refine bdrewN _ ?_) | ((with_reducible refine bcall ?_ (by assumption) ?_); · (first | (simp; done) | (simp; omega) | omega))))⟩
  · obtain ⟨i0, hi, hz0, hz1, hz2⟩ := info_parts int_info
    have HLR : Hid (needR S = neK S n) := by simp [Hid, needR, hb, hll]
    have HB := Lib.hid hb
    obtain ⟨hl6, hcl⟩ := pzB_true hb
    have HCL := Lib.hid hcl
    have n6 : n ≤ 6 := by omega
    have HLL := Lib.hid hll
    have HNP : Hid (∀ i, neP S i = decide ((solL (woL S i)).length = (solL S).length)) := fun _ => rfl
    have hleS := solL_le S
    clear hb hcl hll hl6
    go_enter Try.func47, Try.ntmps47
    go_wp2_with fail
    refine (HG.out _ (hr.later (B := w.heap.size) (by (repeat (first | (with_reducible exact Below.refl _ _) | (with_reducible assumption) | (with_reducible refine Below.drew ?_) | ((with_reducible refine balloc ?_ _ ?_); · (first | (simp; done) | (simp; omega) | omega)) | ((with_reducible refine bset ?_ _ ?_); · (first | (simp; done) | (simp; omega) | omega)) | (with_reducible refine bdrewN _ ?_) | ((with_reducible refine bcall ?_ (by assumption) ?_); · (first | (simp; done) | (simp; omega) | omega))))) (Nat.le_refl _))).mono ?_; rintro e w1 ⟨rfl, hb1⟩
    rw [HB.out]
    have s1 := hb1.size
    simp at s1
    have d0 : w1.cell? ⟨w.heap.size, 0, none⟩ = some (.slice A n c) := (hb1.cell (p := ⟨w.heap.size, 0, none⟩) (by simp)).trans (by simp [go_sem])
    have hB1 : Below w.heap.size w w1 := by (repeat (first | (with_reducible exact Below.refl _ _) | (with_reducible assumption) | (with_reducible refine Below.drew ?_) | ((with_reducible refine balloc ?_ _ ?_); · (first | (simp; done) | (simp; omega) | omega)) | ((with_reducible refine bset ?_ _ ?_); · (first | (simp; done) | (simp; omega) | omega)) | (with_reducible refine bdrewN _ ?_) | ((with_reducible refine bcall ?_ (by assumption) ?_); · (first | (simp; done) | (simp; omega) | omega))))
    have HB1 := Lib.hid hB1
    have HR1 := Lib.hid (hr.later hB1 (Nat.le_refl _))
    clear hb1 hB1 hr
    go_wp2_with fail
    refine (clueTeller_any _).mono ?_; rintro e w2 ⟨KK, h0, rfl, ht2, hb2, hK2⟩
    have d2 : w2.cell? ⟨w.heap.size, 0, none⟩ = some (.slice A n c) := (hb2.cell (p := ⟨w.heap.size, 0, none⟩) (by simp; omega)).trans d0
    have s2 := hb2.size
    have HT2 := Lib.hid ht2
    have HB2 := Lib.hid hb2
    have HK2 := Lib.hid hK2
    have HKN := Lib.hid ht2.kn
    have HD2 := Lib.hid d2
    have HS2 := Lib.hid (solutionsOf_any KK w2.heap.size h0 A n c S w2 HCL.out (by omega) (fun w' h => rd_chg HR1.out hb2 hK2 h) ht2)
    clear ht2 hb2 hK2 d0
    go_wp2_with fail
    refine (HS2.out).mono ?_; rintro e w3 ⟨A3, m3, c3, rfl, hL3, ho3, hm3, hch3⟩
    rw [hL3] at HNP hleS
    have d3 : w3.cell? ⟨w.heap.size, 0, none⟩ = some (.slice A n c) := hch3.cell HD2.out (fun e => by have := HK2.out _ e; simp at this; omega)
    have HM3 := Lib.hid hm3
    have HC3 := Lib.hid hch3
    have s3 := hch3.size
    have HD3 := Lib.hid d3
    clear hm3 hch3 ho3 hL3 d2
    go_wp2
    go_loopw [6, 20] (fun v i wr => ∃ (k j : Nat) (A' : Option Addr) (c' : Nat), k ≤ n ∧ j ≤ k ∧ i = .int .i64 k ∧ v = .slice A' j c' ∧ Hid ((neK S k).length = j) ∧ wr.ownsRow w3.heap.size 3 1 (.slice A' j c') j (intCells (neK S k)) ∧ TM KK w2.heap.size wr h0 ∧ Chg KK w3 wr) (fun _ i _ => n - (intOf i).toNat)
    case atStart => exact ⟨0, 0, none, 0, Nat.zero_le _, Nat.le_refl _, rfl, rfl, rfl, World.ownsRow_nil _ _ _ _, HM3.out, Chg.refl _ _⟩
    case round =>
      obtain ⟨k, j, A', c', hk, hjk, rfl, rfl, hj, hown, hm, hch⟩ := hrel
      have sw := hch.size
      have dr : wr.cell? ⟨w.heap.size, 0, none⟩ = some (.slice A n c) := hch.cell HD3.out (fun e => by have := HK2.out _ e; simp at this; omega)
      by_cases hlt : k < n
      · obtain ⟨bA, oA, rfl, hbA, _⟩ := HR1.out.2 (by omega)
        have hrw := rd_chg HR1.out HB2.out HK2.out (HC3.out.trans hch)
        have HWO := Lib.hid (withoutClue_any bA oA n c k S wr hrw hlt (by omega) hnc (by omega))
        have HPK := Lib.hid (HNP.out k)
        have hle := solL_le (woL S k)
        have HYE : Hid (neP S k = true → neK S (k + 1) = neK S k ++ [(k : Int)]) := neK_yes
        have HNO : Hid (neP S k = false → neK S (k + 1) = neK S k) := neK_no
        have HSO := Lib.hid (fun (A : Option Addr) (c' : Nat) (wx : World) (hr : ∀ w', Chg KK wx w' → Rd w' 3 A (n - 1) (boxCells (woL S k))) (ht : TM KK w2.heap.size wx h0) => solutionsOf_any KK w2.heap.size h0 A (n - 1) c' (woL S k) wx (fun q hq => HCL.out q (mem_woL hq)) (by omega) hr ht)
        have HOW := Lib.hid hown
        have HCH := Lib.hid hch
        have HMM := Lib.hid hm
        clear hown hm hch hrw
        go_wp2_with fail
        refine (HWO.out).mono ?_; rintro e w4 ⟨A4, c4, rfl, ho4, hb4⟩
        have s4 := hb4.size
        have hown4 := own_later HOW.out hb4 (Nat.le_refl _)
        have hch4 := HCH.out.trans (Chg.of_below (K := KK) hb4 (Nat.le_refl _))
        have hm4 := HMM.out.below hb4 (Nat.le_refl _)
        have HS4 := Lib.hid (HSO.out A4 c4 w4 (fun w' h => h.rd (Rd.of_own ho4) (fun b o e hk => by
          have h1 := (ho4.lt b (by rw [e]; rfl)).1
          have h2 := HKN.out b hk
          omega)) hm4)
        have HO4 := Lib.hid hown4
        have HC4 := Lib.hid hch4
        clear hb4 ho4 hown4 hch4 hm4 HWO HSO dr
        go_wp2_with fail
        refine (HS4.out).mono ?_; rintro e w5 ⟨A5, m5, c5, rfl, hL5, ho5, hm5, hch5⟩
        rw [hL5] at HPK hle
        have own5 := hch5.own HO4.out (fun q hq e => by have e2 := (HO4.out.lt q hq).1; have e3 := HKN.out q e; omega)
        have HO5 := Lib.hid own5
        have HM5 := Lib.hid hm5
        have HC5 := Lib.hid (HC4.out.trans hch5)
        have s5 := hch5.size
        clear own5 hm5 hch5 ho5 hL5 HS4
        by_cases he : m5 = m3
        · have hd : ((m5 : Int) == (m3 : Int)) = true := by simp; omega
          have HN := Lib.hid (HYE.out (by rw [HPK.out]; exact decide_eq_true he))
          have hc3 : j + 1 ≤ maxLen := by simp only [maxLen]; omega
          clear he HPK
          go_wp2_with (at_builtin; refine wpList_append_own _ rfl (.tmp 32) (.tmp 34) 39 rfl w3.heap.size 3 i0 (.int .i64 0) 1 8 Try.underlying39 hi hz0 hz1 hz2 rfl (by decide) _ _ _ rfl (HO5.out.alloc _) ⟨w5.heap.size, 0, none⟩ 1 1 [.int .i64 (k : Int)] rfl rfl (new1 _ _ _) (int_oneCell [(k : Int)]) hc3 (by omega) (by simp; omega) ?_)
          intro v' w6 hown' hgrow _
          have hba : Below w5.heap.size w5 (w5.alloc (.cells #[.int .i64 (k : Int)] 3)) := (Below.refl _ _).alloc (Nat.le_refl _) _
          have hrow : ∀ q, (Value.slice A' j c').ownBlock = some q → w3.heap.size ≤ q := fun q hq => (HO5.out.lt q hq).1
          obtain ⟨A6, c6, rfl⟩ := own_slice hown'
          have P := Lib.hid (show Hid ((neK S (k + 1)).length = j + 1) ∧ w6.ownsRow w3.heap.size 3 1 (.slice A6 (j + 1) c6) (j + 1) (intCells (neK S (k + 1))) ∧ TM KK w2.heap.size w6 h0 ∧ Chg KK w3 w6 from ⟨by simp only [Hid]; rw [HN.out, List.length_append, hj.out]; rfl, by rw [HN.out, intCells_append]; exact hown', (HM5.out.below hba (Nat.le_refl _)).grown hgrow (fun q hq => Nat.le_trans s3 (hrow q hq)), (HC5.out.trans (Chg.of_below hba (Nat.le_refl _))).of_row hgrow hrow⟩)
          clear hown' hgrow hba hrow HO5 HM5 HC5 hc3
          go_wp2
          go_roundw
          case rel => exact ⟨k + 1, j + 1, A6, c6, by omega, by omega, by go_num, rfl, P.out⟩
          case measure => simp [intOf]; omega
        · have hd : ((m5 : Int) == (m3 : Int)) = false := by simp; omega
          have HN := Lib.hid (HNO.out (by rw [HPK.out]; exact decide_eq_false he))
          have P := Lib.hid (show Hid ((neK S (k + 1)).length = j) ∧ w5.ownsRow w3.heap.size 3 1 (.slice A' j c') j (intCells (neK S (k + 1))) ∧ TM KK w2.heap.size w5 h0 ∧ Chg KK w3 w5 from ⟨by simp only [Hid]; rw [HN.out]; exact hj.out, by rw [HN.out]; exact HO5.out, HM5.out, HC5.out⟩)
          clear he HPK HO5 HM5 HC5
          go_wp2
          go_roundw
          case rel => exact ⟨k + 1, j, A', c', by omega, by omega, by go_num, rfl, P.out⟩
          case measure => simp [intOf]; omega
      · have hk1 : k = n := by omega
        subst hk1
        have HOF := Lib.hid (own_base hown (show w.heap.size ≤ _ by omega))
        have HBF := Lib.hid (Chg.below (HC3.out.trans hch) (HB1.out.trans (HB2.out.mono HB1.out.size)) (fun i hi => by have := HK2.out i hi; omega))
        clear hown hm hch
        go_wp2
        go_ret2
        exact ⟨A', j, c', rfl, by rw [HLR.out]; exact HOF.out, HBF.out⟩

set_option maxRecDepth 100000 in
set_option maxHeartbeats 8000000 in
theorem sNeedless_any (A : Option Addr) (n c : Nat) (S : List Clu) (w : World) (hr : Rd w 3 A n (boxCells S)) (hn : n ≤ 4000000000) (hnc : n ≤ c) (hcm : c ≤ 4000000000) :
    Calls Try.prog 46 #[puzV A n c] w fun e w' => ∃ A' n' c', e = .returned (.tuple #[.slice A' n' c', .bool (pzB S)]) ∧ w'.ownsRow w.heap.size 3 1 (.slice A' n' c') n' (intCells (needR S)) ∧ Below w.heap.size w w' := by
  have HG := Lib.hid (fun wx h => pzGood_any A n c S wx h hn)
  have hll : S.length = n := by have := hr.1; rw [length_boxCells] at this; omega
  cases hb : pzB S
  · rw [show needR S = [] by simp [needR, hb]]
    rw [hb] at HG
    clear hb
    go_enter Try.func46, Try.ntmps46
    go_wp2_with fail
    refine (HG.out _ (hr.later (B := w.heap.size) (by (repeat (first | (with_reducible exact Below.refl _ _) | (with_reducible assumption) | (with_reducible refine Below.drew ?_) | ((with_reducible refine balloc ?_ _ ?_); · (first | (simp; done) | (simp; omega) | omega)) | ((with_reducible refine bset ?_ _ ?_); · (first | (simp; done) | (simp; omega) | omega)) | (with_reducible refine bdrewN _ ?_) | ((with_reducible refine bcall ?_ (by assumption) ?_); · (first | (simp; done) | (simp; omega) | omega))))) (Nat.le_refl _))).mono ?_; rintro e w1 ⟨rfl, hb1⟩
    go_wp2
    go_ret2
    exact ⟨none, 0, 0, rfl, World.ownsRow_nil _ _ _ _, by (repeat (first | (with_reducible exact Below.refl _ _) | (with_reducible assumption) | (with_reducible refine Below.drew ?_) | ((with_reducible refine balloc ?_ _ ?_); · (first | (simp; done) | (simp; omega) | omega)) | ((with_reducible refine bset ?_ _ ?_); · (first | (simp; done) | (simp; omega) | omega)) | (with_reducible refine bdrewN _ ?_) | ((with_reducible refine bcall ?_ (by assumption) ?_); · (first | (simp; done) | (simp; omega) | omega))))⟩
  · obtain ⟨i0, hi, hz0, hz1, hz2⟩ := info_parts int_info
    have HLR : Hid (needR S = neK S n) := by simp [Hid, needR, hb, hll]
    rw [hb] at HG
    obtain ⟨hl6, hcl⟩ := pzB_true hb
    have HCL := Lib.hid hcl
    have n6 : n ≤ 6 := by omega
    have HNP : Hid (∀ i, neP S i = decide ((solL (woL S i)).length = (solL S).length)) := fun _ => rfl
    have hleS := solL_le S
    clear hb hcl hll hl6
    go_enter Try.func46, Try.ntmps46
    go_wp2_with fail
    refine (HG.out _ (hr.later (B := w.heap.size) (by (repeat (first | (with_reducible exact Below.refl _ _) | (with_reducible assumption) | (with_reducible refine Below.drew ?_) | ((with_reducible refine balloc ?_ _ ?_); · (first | (simp; done) | (simp; omega) | omega)) | ((with_reducible refine bset ?_ _ ?_); · (first | (simp; done) | (simp; omega) | omega)) | (with_reducible refine bdrewN _ ?_) | ((with_reducible refine bcall ?_ (by assumption) ?_); · (first | (simp; done) | (simp; omega) | omega))))) (Nat.le_refl _))).mono ?_; rintro e w1 ⟨rfl, hb1⟩
    have s1 := hb1.size
    simp at s1
    have d0 : w1.cell? ⟨w.heap.size, 0, none⟩ = some (.slice A n c) := (hb1.cell (p := ⟨w.heap.size, 0, none⟩) (by simp)).trans (by simp [go_sem])
    have hB1 : Below w.heap.size w w1 := by (repeat (first | (with_reducible exact Below.refl _ _) | (with_reducible assumption) | (with_reducible refine Below.drew ?_) | ((with_reducible refine balloc ?_ _ ?_); · (first | (simp; done) | (simp; omega) | omega)) | ((with_reducible refine bset ?_ _ ?_); · (first | (simp; done) | (simp; omega) | omega)) | (with_reducible refine bdrewN _ ?_) | ((with_reducible refine bcall ?_ (by assumption) ?_); · (first | (simp; done) | (simp; omega) | omega))))
    have HB1 := Lib.hid hB1
    have HR1 := Lib.hid (hr.later hB1 (Nat.le_refl _))
    have HS2 := Lib.hid (pzAll_any A n c S w1 HCL.out (by omega) HR1.out)
    clear hb1 hB1 hr
    go_wp2_with fail
    refine (HS2.out).mono ?_; rintro e w3 ⟨A3, m3, c3, rfl, hL3, ho3, hb3⟩
    rw [← hL3] at HNP hleS
    have d3 : w3.cell? ⟨w.heap.size, 0, none⟩ = some (.slice A n c) := (hb3.cell (p := ⟨w.heap.size, 0, none⟩) (by show w.heap.size < w1.heap.size; omega)).trans d0
    have HD3 := Lib.hid d3
    have HB3 := Lib.hid (HB1.out.trans (hb3.mono HB1.out.size))
    have HR3 := Lib.hid (HR1.out.later hb3 (Nat.le_refl _))
    have s3 := hb3.size
    clear hb3 ho3 hL3 d0 HS2
    go_wp2
    go_loopw [4, 17] (fun v i wr => ∃ (k j : Nat) (A' : Option Addr) (c' : Nat), k ≤ n ∧ j ≤ k ∧ i = .int .i64 k ∧ v = .slice A' j c' ∧ Hid ((neK S k).length = j) ∧ wr.ownsRow w3.heap.size 3 1 (.slice A' j c') j (intCells (neK S k)) ∧ Below w3.heap.size w3 wr) (fun _ i _ => n - (intOf i).toNat)
    case atStart => exact ⟨0, 0, none, 0, Nat.zero_le _, Nat.le_refl _, rfl, rfl, rfl, World.ownsRow_nil _ _ _ _, Below.refl _ _⟩
    case round =>
      obtain ⟨k, j, A', c', hk, hjk, rfl, rfl, hj, hown, hB⟩ := hrel
      have sB := hB.size
      have dr : wr.cell? ⟨w.heap.size, 0, none⟩ = some (.slice A n c) := (hB.cell (p := ⟨w.heap.size, 0, none⟩) (by show w.heap.size < w3.heap.size; omega)).trans HD3.out
      by_cases hlt : k < n
      · obtain ⟨bA, oA, rfl, hbA, _⟩ := HR1.out.2 (by omega)
        have HWO := Lib.hid (pzWithout_any bA oA n c k S wr (HR3.out.later hB (Nat.le_refl _)) hlt (by omega) hnc (by omega))
        have HPK := Lib.hid (HNP.out k)
        have hle := solL_le (woL S k)
        have HYE : Hid (neP S k = true → neK S (k + 1) = neK S k ++ [(k : Int)]) := neK_yes
        have HNO : Hid (neP S k = false → neK S (k + 1) = neK S k) := neK_no
        have HSO := Lib.hid (fun (A : Option Addr) (c' : Nat) (wx : World) (hr : Rd wx 3 A (n - 1) (boxCells (woL S k))) => pzAll_any A (n - 1) c' (woL S k) wx (fun q hq => HCL.out q (mem_woL hq)) (by omega) hr)
        have HOW := Lib.hid hown
        have HBB := Lib.hid hB
        clear hown hB
        go_wp2_with fail
        refine (HWO.out).mono ?_; rintro e w4 ⟨A4, c4, rfl, ho4, hb4⟩
        have s4 := hb4.size
        have HO4 := Lib.hid (own_later HOW.out hb4 (Nat.le_refl _))
        have HB4 := Lib.hid (HBB.out.trans (hb4.mono sB))
        have HS4 := Lib.hid (HSO.out A4 c4 w4 (Rd.of_own ho4))
        clear hb4 ho4 HWO HSO dr
        go_wp2_with fail
        refine (HS4.out).mono ?_; rintro e w5 ⟨A5, m5, c5, rfl, hL5, ho5, hb5⟩
        rw [← hL5] at HPK hle
        have HO5 := Lib.hid (own_later HO4.out hb5 (Nat.le_refl _))
        have HB5 := Lib.hid (HB4.out.trans (hb5.mono HB4.out.size))
        have s5 := HB5.out.size
        clear ho5 hL5 HS4 hb5
        by_cases he : m5 = m3
        · have hd : ((m5 : Int) == (m3 : Int)) = true := by simp; omega
          have HN := Lib.hid (HYE.out (by rw [HPK.out]; exact decide_eq_true he))
          have hc3 : j + 1 ≤ maxLen := by simp only [maxLen]; omega
          clear he HPK
          go_wp2_with (at_builtin; refine wpList_append_own _ rfl (.tmp 28) (.tmp 30) 39 rfl w3.heap.size 3 i0 (.int .i64 0) 1 8 Try.underlying39 hi hz0 hz1 hz2 rfl (by decide) _ _ _ rfl (HO5.out.alloc _) ⟨w5.heap.size, 0, none⟩ 1 1 [.int .i64 (k : Int)] rfl rfl (new1 _ _ _) (int_oneCell [(k : Int)]) hc3 (by omega) (by simp; omega) ?_)
          intro v' w6 hown' hgrow _
          have hb6 := gb_new (Nat.le_refl _) (HB5.out.alloc (by have := HB5.out.size; omega) (.cells #[.int .i64 (k : Int)] 3)) hgrow (fun g hg => (HO5.out.lt g hg).1)
          obtain ⟨A6, c6, rfl⟩ := own_slice hown'
          have HJ : Hid ((neK S (k + 1)).length = j + 1) := by simp only [Hid]; rw [HN.out, List.length_append, hj.out]; rfl
          clear hgrow hc3
          go_wp2
          go_roundw
          case rel => exact ⟨k + 1, j + 1, A6, c6, by omega, by omega, by go_num, rfl, HJ, by rw [HN.out, intCells_append]; exact hown', hb6⟩
          case measure => simp [intOf]; omega
        · have hd : ((m5 : Int) == (m3 : Int)) = false := by simp; omega
          have HN := Lib.hid (HNO.out (by rw [HPK.out]; exact decide_eq_false he))
          have HJ : Hid ((neK S (k + 1)).length = j) := by simp only [Hid]; rw [HN.out]; exact hj.out
          clear he HPK
          go_wp2
          go_roundw
          case rel => exact ⟨k + 1, j, A', c', by omega, by omega, by go_num, rfl, HJ, by rw [HN.out]; exact HO5.out, HB5.out⟩
          case measure => simp [intOf]; omega
      · have hk1 : k = n := by omega
        subst hk1
        have HOF := Lib.hid (own_base hown HB3.out.size)
        have HBF := Lib.hid (HB3.out.trans (hB.mono HB3.out.size))
        clear hown hB
        go_wp2
        go_ret2
        exact ⟨A', j, c', rfl, by rw [HLR.out]; exact HOF.out, HBF.out⟩
end Go.Proofs.Ytghlgmbekgfmnaa
