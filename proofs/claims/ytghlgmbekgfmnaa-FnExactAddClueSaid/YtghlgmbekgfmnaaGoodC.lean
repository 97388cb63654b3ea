/-
  Words and contracts: good bites of a chomp, of the program (goodBites).
-/
import Derived.Test.YtghlgmbekgfmnaaHeapC
namespace Go.Proofs.Ytghlgmbekgfmnaa
open Go.RowKit
set_option linter.unusedVariables false

/-- a bite behind which the chomp is lost -/
def gbB (l : List Int) (p : Int × Int) : Bool := !decide (0 < grI (biteL l p.1 p.2))
def gbK (l : List Int) (k : Nat) : List (Int × Int) := ((mvL l).take k).filter (gbB l)
/-- all good bites -/
def gbL (l : List Int) : List (Int × Int) := (mvL l).filter (gbB l)
theorem gbK_zero (l : List Int) : gbK l 0 = [] := rfl
theorem gbK_succ {l : List Int} {k : Nat} (h : k < (mvL l).length) : gbK l (k + 1) = gbK l k ++ (if gbB l (mvL l)[k] then [(mvL l)[k]] else []) := by
  unfold gbK
  rw [List.take_succ_eq_append_getElem h, List.filter_append]
  congr 1
  by_cases e : gbB l (mvL l)[k]
  · rw [if_pos e]; simp [e]
  · rw [if_neg e]; simp [e]
theorem gbK_all {l : List Int} {k : Nat} (h : (mvL l).length ≤ k) : gbK l k = gbL l := by unfold gbK gbL; rw [List.take_of_length_le h]
theorem gbK_le (l : List Int) (k : Nat) : (gbK l k).length ≤ k := by
  unfold gbK
  have h1 := List.length_filter_le (gbB l) ((mvL l).take k)
  have h2 := List.length_take_le k (mvL l)
  omega
theorem tb_nc : (116 : Nat) ≠ 73 := by decide

theorem Chg.more {K K' : Nat → Prop} {w w' : World} (h : Chg K w w') (hk : ∀ i, K i → K' i) : Chg K' w w' := ⟨h.os, h.tape, h.output, h.size, fun i hi hq => h.block i hi (fun q => hq (hk i q))⟩

set_option maxRecDepth 100000 in
set_option maxHeartbeats 8000000 in
theorem goodBites_any (K : Nat → Prop) (km q1 q2 q3 : Nat) (l : List Int) (f : Nat → Int) (S : List (List Int)) (w : World) (hl : ChOK l) (hf : f = fl l) (hm : HM K w km q1 q2 q3 heapV grI S) :
    Calls Try.prog 105 #[arrF f, numV q1 q2 q3] w fun e w' => ∃ A' n' c', e = .returned (.slice A' n' c') ∧ (gbL l).length = n' ∧ n' ≤ 36 ∧ w'.ownsRow w.heap.size 116 2 (.slice A' n' c') n' (pairCells (gbL l)) ∧ (∃ S', HM K w' km q1 q2 q3 heapV grI S') ∧ Chg K w w' := by
  obtain ⟨i0, hi, hz0, hz1, hz2⟩ := info_parts bite_info
  have hfl : Fall f := by rw [hf]; exact hl.fall
  have hf1 : 1 ≤ f 0 := by rw [hf]; exact hl.ge1 hl.1
  have hbl : Below w.heap.size w (w.alloc (.cells #[.int .i64 (f 0), .int .i64 (f 1), .int .i64 (f 2), .int .i64 (f 3), .int .i64 (f 4), .int .i64 (f 5)] 73)) := (Below.refl _ _).alloc (Nat.le_refl _) _
  have hbx := BoxF.new w f
  have HKB := Lib.hid hm.kb
  have HQ := Lib.hid (show km < w.heap.size ∧ q1 < w.heap.size ∧ q2 < w.heap.size ∧ q3 < w.heap.size from ⟨hm.map.lt, World.block_lt_of_cell? w _ hm.c1, World.block_lt_of_cell? w _ hm.c2, World.block_lt_of_cell? w _ hm.c3⟩)
  have HL := Lib.hid hl
  have HF := Lib.hid hf
  have HFL := Lib.hid hfl
  have HF1 := Lib.hid hf1
  have HBX := Lib.hid hbx
  have HBL := Lib.hid hbl
  have HMM := Lib.hid hm
  clear hfl hf1 hbl hm hl hf
  obtain ⟨c0, c1, c2, c3, c4, c5⟩ := hbx.cells
  clear hbx
  go_enter Try.func105, Try.ntmps105
  go_wp2_with fail
  refine (bitesOf_any f _ HFL.out HF1.out).mono ?_; rintro e w1 ⟨Ab, n, cb, rfl, h35, hL, hown, hb1⟩
  have HBL1 := Lib.hid (HBL.out.trans (hb1.mono HBL.out.size))
  have HX1 := Lib.hid (HBX.out.below hb1 (Nat.le_refl _))
  have HM1 := Lib.hid (HMM.out.below HBL1.out (Nat.le_refl _))
  have HLL := Lib.hid hL
  have HOB := Lib.hid (own_base hown HBL.out.size)
  have s01 := HBL1.out.size
  have HKN : Hid (∀ q, w.heap.size ≤ q → ¬ K q) := fun q hq e => by have := HKB.out q e; omega
  have hQ1 : km < w.heap.size ∧ q1 < w.heap.size ∧ q2 < w.heap.size ∧ q3 < w.heap.size := HQ.out
  clear hL hown hb1 c0 c1 c2 c3 c4 c5 HBX HMM HBL
  generalize hM : mv f 6 = M at *
  have HMV := Lib.hid hM
  have hlM : M.length = n := HLL.out
  clear hM
  go_wp2
  go_loopw [5, 11] (fun v i wr => ∃ (k j : Nat) (A' : Option Addr) (c' : Nat), k ≤ n ∧ j ≤ k ∧ i = .int .i64 k ∧ v = .slice A' j c' ∧ Hid ((gbK l k).length = j) ∧ wr.ownsRow w1.heap.size 116 2 (.slice A' j c') j (pairCells (gbK l k)) ∧ (∃ S', HM K wr km q1 q2 q3 heapV grI S') ∧ Chg K w1 wr) (fun _ i _ => n - (intOf i).toNat)
  case atStart => exact ⟨0, 0, none, 0, Nat.zero_le _, Nat.le_refl _, rfl, rfl, rfl, World.ownsRow_nil _ _ _ _, ⟨S, HM1.out⟩, Chg.refl _ _⟩
  case round =>
    obtain ⟨k, j, A', c', hk, hjk, rfl, rfl, hj, hown, ⟨S', hm⟩, hch⟩ := hrel
    have sw := hch.size
    have hob : wr.ownsRow w.heap.size 116 2 (.slice Ab n cb) n (pairCells M) := hch.own HOB.out (fun q hq => HKN.out q (HOB.out.lt q hq).1)
    have hbx : BoxF wr w.heap.size f := hch.own HX1.out (fun q hq => by cases hq; exact HKN.out _ (Nat.le_refl _))
    by_cases hlt : k < n
    · obtain ⟨b, o, rfl, hbl, hx, p0, p1⟩ := (Rd.of_own hob).pair hlt
      have hmem : M[k] ∈ mvL l := by
        have h := List.getElem_mem hx
        have e : mvL l = M := by rw [← HMV.out, HF.out]; rfl
        rw [e]; exact h
      have hcan := mvL_can HL.out hmem
      have HGA : Hid (gbK l (k + 1) = gbK l k ++ (if gbB l M[k] then [M[k]] else [])) := by
        have e : mvL l = M := by rw [← HMV.out, HF.out]; rfl
        have h := gbK_succ (l := l) (k := k) (by rw [e]; exact hx)
        simp only [e] at h
        exact h
      have hgb : gbB l M[k] = !decide (0 < grI (biteL l (M[k]).1 (M[k]).2)) := rfl
      obtain ⟨⟨x, y⟩, hxy⟩ : ∃ p : Int × Int, M[k] = p := ⟨_, rfl⟩
      rw [hxy] at p0 p1 hcan hgb
      have HGX : Hid (gbK l (k + 1) = gbK l k ++ (if gbB l (x, y) then [(x, y)] else [])) := by
        have h := HGA.out
        rw [hxy] at h
        exact h
      clear HGA hmem hxy hx
      dsimp only at p0 p1 hcan hgb
      have h5 := canC_true hcan
      obtain ⟨yn, rfl⟩ : ∃ yn : Nat, y = yn := ⟨y.toNat, by omega⟩
      have yn6 : yn < 6 := by omega
      have HEF : Hid (eatF f x yn = fl (biteL l x yn)) := by
        have h := biteL_fun' HL.out hcan
        simp only [Int.toNat_natCast] at h
        simp only [Hid]
        rw [HF.out]
        exact h
      have HBOK := Lib.hid (biteL_ok HL.out hcan)
      have HEA := Lib.hid (fun wx => eat_any f x yn wx yn6)
      have HGB := Lib.hid hgb
      clear hcan h5 hgb
      have hba : Below wr.heap.size wr (wr.alloc (.cells #[.int .i64 x, .int .i64 (yn : Int)] 116)) := (Below.refl _ _).alloc (Nat.le_refl _) _
      have hbxa := hbx.below hba (Nat.le_refl _)
      obtain ⟨c0, c1, c2, c3, c4, c5⟩ := hbxa.cells
      obtain ⟨y0, y1⟩ := (BoxB.new wr x yn).cells
      have HBA := Lib.hid hba
      have HYB := Lib.hid (BoxB.new wr x yn)
      have HOW := Lib.hid hown
      have HMR := Lib.hid hm
      have HCH := Lib.hid hch
      clear hba hbxa hown hob hbx hm hch
      go_wp2_with fail
      refine (HEA.out _).mono ?_; rintro e w3 ⟨rfl, hb3⟩
      have hb30 : Below wr.heap.size wr w3 := HBA.out.trans (hb3.mono HBA.out.size)
      have HNU := Lib.hid (isWon_any K km q1 q2 q3 (biteL l x yn) (eatF f x yn) S' w3 HBOK.out HEF.out (HMR.out.below hb30 (Nat.le_refl _)))
      have HB30 := Lib.hid hb30
      have HYB3 := Lib.hid (BoxB.below HYB.out hb3 (Nat.le_refl _))
      clear hb3 hb30 c0 c1 c2 c3 c4 c5 y0 y1 HEA HYB HBA
      generalize decide (0 < grI (biteL l x yn)) = wn at *
      go_wp2_with fail
      refine (HNU.out).mono ?_; rintro e w4 ⟨rfl, ⟨S4, hm4⟩, hch4⟩
      have s4 := hch4.size
      have s3 := HB30.out.size
      have own4 := hch4.own (own_later HOW.out HB30.out (Nat.le_refl _)) (fun q hq => HKN.out q (by have := (HOW.out.lt q hq).1; omega))
      have hyb4 : BoxB w4 wr.heap.size x yn := hch4.own HYB3.out (fun q hq => by cases hq; exact HKN.out wr.heap.size (by omega))
      have hc4 := (HCH.out.trans (Chg.of_below HB30.out (Nat.le_refl _))).trans hch4
      cases wn with
      | true =>
        have HGN : Hid (gbK l (k + 1) = gbK l k) := by
          have h := HGX.out
          rw [HGB.out] at h
          simpa [Hid] using h
        have P := Lib.hid (show Hid ((gbK l (k + 1)).length = j) ∧ w4.ownsRow w1.heap.size 116 2 (.slice A' j c') j (pairCells (gbK l (k + 1))) ∧ (∃ S', HM K w4 km q1 q2 q3 heapV grI S') ∧ Chg K w1 w4 from ⟨by simp only [Hid]; rw [HGN.out]; exact hj.out, by rw [HGN.out]; exact own4, ⟨S4, hm4⟩, hc4⟩)
        clear own4 hyb4 hc4 hm4 hch4 HNU
        go_wp2
        go_roundw
        case rel => exact ⟨k + 1, j, A', c', by omega, by omega, by go_num, rfl, P.out⟩
        case measure => simp [intOf]; omega
      | false =>
        have HGN : Hid (gbK l (k + 1) = gbK l k ++ [(x, (yn : Int))]) := by
          have h := HGX.out
          rw [HGB.out] at h
          simpa [Hid] using h
        obtain ⟨y0, y1⟩ := hyb4.cells
        have hc3 : j + 1 ≤ maxLen := by simp only [maxLen]; omega
        have HO4 := Lib.hid own4
        have HM4 := Lib.hid hm4
        have HC4 := Lib.hid hc4
        have HOA := Lib.hid (own_alloc own4 (.cells #[.int .i64 x, .int .i64 (yn : Int)] 116))
        clear own4 hyb4 hc4 hm4 hch4 HNU
        go_wp2_with (at_builtin; refine wpList_append_own _ rfl (.tmp 21) (.tmp 23) 104 rfl w1.heap.size 116 i0 (bar2 0 0) 2 16 Try.underlying104 hi hz0 hz1 hz2 rfl (by decide) _ _ _ rfl HOA.out ⟨w4.heap.size, 0, none⟩ 1 1 [.int .i64 x, .int .i64 (yn : Int)] rfl rfl (new2 _ _ _ _) (two_oneCell _ _ _ _) hc3 (by omega) (by simp; omega) ?_)
        intro v' w5 hown' hgrow _
        obtain ⟨A2, c2', rfl⟩ := own_slice hown'
        have hba4 : Below w4.heap.size w4 (w4.alloc (.cells #[.int .i64 x, .int .i64 (yn : Int)] 116)) := (Below.refl _ _).alloc (Nat.le_refl _) _
        have hrow : ∀ q, (Value.slice A' j c').ownBlock = some q → w1.heap.size ≤ q := fun q hq => (HO4.out.lt q hq).1
        have hm5 := (HM4.out.below hba4 (Nat.le_refl _)).grown hgrow (fun q hq => by have := hrow q hq; omega)
        have hch5 := (HC4.out.trans (Chg.of_below hba4 (Nat.le_refl _))).of_row hgrow hrow
        have P := Lib.hid (show Hid ((gbK l (k + 1)).length = j + 1) ∧ w5.ownsRow w1.heap.size 116 2 (.slice A2 (j + 1) c2') (j + 1) (pairCells (gbK l (k + 1))) ∧ (∃ S', HM K w5 km q1 q2 q3 heapV grI S') ∧ Chg K w1 w5 from ⟨by simp only [Hid]; rw [HGN.out, List.length_append, hj.out]; rfl, by rw [HGN.out, pairCells_append]; exact hown', ⟨S4, hm5⟩, hch5⟩)
        clear hown' hgrow hba4 hrow hm5 hch5 HO4 HM4 HC4 HOA hc3 y0 y1
        go_wp2
        go_roundw
        case rel => exact ⟨k + 1, j + 1, A2, c2', by omega, by omega, by go_num, rfl, P.out⟩
        case measure => simp [intOf]; omega
    · have hkn : k = n := by omega
      have htk : gbK l k = gbL l := gbK_all (by have e : mvL l = M := by rw [← HMV.out, HF.out]; rfl
                                                rw [e]; omega)
      have P := Lib.hid (show Hid ((gbL l).length = j) ∧ wr.ownsRow w.heap.size 116 2 (.slice A' j c') j (pairCells (gbL l)) ∧ (∃ S', HM K wr km q1 q2 q3 heapV grI S') ∧ Chg K w wr from ⟨by rw [← htk]; exact hj, by rw [← htk]; exact own_base hown s01, ⟨S', hm⟩, (Chg.of_below HBL1.out (Nat.le_refl _)).trans hch⟩)
      clear hkn htk hown hob hbx hm hch
      go_wp2
      go_ret
      exact ⟨A', j, c', rfl, P.out.1.out, by omega, P.out.2.1, P.out.2.2.1, P.out.2.2.2⟩

/-- what GoodChomps returns -/
def goR (l : List Int) : List (Int × Int) := if chB l then gbL l else []
theorem goR_no {l : List Int} (h : chB l = false) : goR l = [] := by simp [goR, h]
theorem goR_yes {l : List Int} (h : chB l = true) : goR l = gbL l := by simp [goR, h]


end Go.Proofs.Ytghlgmbekgfmnaa
