/-
  Contracts: QuickestWin of the model.
-/
import Derived.Test.YtclkddehaomdjaaQuickI
import Derived.Test.YtclkddehaomdjaaSel
namespace Go.Proofs.Ytclkddehaomdjaa
open Go.RowKit
set_option linter.unusedVariables false

/-- a bite of a chomp comes before it in the list -/
theorem bite_index {H W p : Nat} (hH : H ≤ 6) (hW : W ≤ 6) (hp : p < (chs H W []).length) {x y : Int} (hc : canC (chs H W [])[p] x y = true) : ∃ i, ∃ hi : i < (chs H W []).length, i < p ∧ (chs H W [])[i] = biteL (chs H W [])[p] x y := by
  have hm := (mem_all hH hW).1 (List.getElem_mem hp)
  generalize hl : (chs H W [])[p] = l at *
  have hb := biteL_ok hm.1 hc
  have hmem : biteL l x y ∈ chs H W [] := by
    refine (mem_all hH hW).2 ⟨hb, ?_, ?_⟩
    · have h1 := (canC_true hc).1
      by_cases hle : (biteL l x y).length ≤ l.length
      · omega
      · exfalso
        have k := hb.ge1 (k := l.length) (by omega)
        rw [biteL_at hm.1 hc] at k
        have e : l.getD l.length 0 = 0 := getD_past (Nat.le_refl _)
        unfold eatF at k
        simp only [e] at k
        split at k
        · split at k <;> omega
        · omega
    · rw [biteL_at hm.1 hc]
      have := hm.2.2
      show (if y.toNat ≤ 0 then (if x < l.getD 0 0 then x else l.getD 0 0) else l.getD 0 0) ≤ (W : Int)
      split
      · split <;> omega
      · exact this
  obtain ⟨i, hi, e⟩ := List.getElem_of_mem hmem
  have hk := biteL_key hm.1 hc
  refine ⟨i, hi, ?_, e⟩
  by_cases hlt : i < p
  · exact hlt
  · exfalso
    by_cases e2 : i = p
    · subst e2; rw [hl] at e; rw [← e] at hk; omega
    · have hs := List.pairwise_iff_getElem.1 (keys_sorted hH hW) p i hp hi (by omega)
      rw [hl, e] at hs
      omega
/-- the table of lengths is right for the first p chomps of a list -/
def TabQ (tbl : List Int) (L : List (List Int)) (p : Nat) : Prop := ∀ i (h : i < L.length), i < p → tbl.getD (keyI L[i]).toNat 0 = (qn L[i] : Nat)
theorem TabQ.put {tbl : List Int} {H W p : Nat} (hH : H ≤ 6) (hW : W ≤ 6) (h : TabQ tbl (chs H W []) p) (hp : p < (chs H W []).length) (hn : tbl.length = 117649) :
    TabQ (tbl.set (keyI (chs H W [])[p]).toNat (qn (chs H W [])[p] : Nat)) (chs H W []) (p + 1) := by
  intro i hi hip
  have ok : ∀ (j : Nat) (hj : j < (chs H W []).length), ChOK (chs H W [])[j] := fun j hj => ((mem_all hH hW).1 (List.getElem_mem hj)).1
  have kb := fun (j : Nat) (hj : j < (chs H W []).length) => keyI_in (ok j hj)
  have hb := kb p hp
  rw [getD_set (by omega)]
  by_cases e : i = p
  · subst e; rw [if_pos rfl]
  · have hlt : i < p := by omega
    have hs := List.pairwise_iff_getElem.1 (keys_sorted hH hW) i p hi hp hlt
    have := kb i hi
    rw [if_neg (by omega)]
    exact h i hi hlt
theorem TabQ.bite {tbl : List Int} {H W p : Nat} (hH : H ≤ 6) (hW : W ≤ 6) (hp : p < (chs H W []).length) (h : TabQ tbl (chs H W []) p) {x y : Int} (hc : canC (chs H W [])[p] x y = true) : tbl.getD (keyI (biteL (chs H W [])[p] x y)).toNat 0 = (qn (biteL (chs H W [])[p] x y) : Nat) := by
  obtain ⟨i, hi, hip, e⟩ := bite_index hH hW hp hc
  have := h i hi hip
  rwa [e] at this

/-- what the bites count, the first j -/
def vQ (l : List Int) (j : Nat) : List Nat := (((mvL l).take j).filter (swB l)).map fun p => qn (biteL l p.1 p.2) + 1
/-- b is the best of the first j bites -/
def BestQ (l : List Int) (j : Nat) (b : Int) : Prop := (vQ l j = [] ∧ b = -1) ∨ (vQ l j ≠ [] ∧ b = (foldQ l (vQ l j) : Nat))
theorem vQ_succ {l : List Int} {j : Nat} (h : j < (mvL l).length) : vQ l (j + 1) = vQ l j ++ (if swB l (mvL l)[j] then [qn (biteL l ((mvL l)[j]).1 ((mvL l)[j]).2) + 1] else []) := by
  unfold vQ
  rw [List.take_succ_eq_append_getElem h, List.filter_append, List.map_append]
  congr 1
  by_cases e : swB l (mvL l)[j]
  · rw [if_pos e]; simp [e]
  · rw [if_neg e]; simp [e]
theorem BestQ.zero (l : List Int) : BestQ l 0 (-1) := .inl ⟨rfl, rfl⟩
theorem BestQ.skip {l : List Int} {j : Nat} {b : Int} (h : j < (mvL l).length) (hs : swB l (mvL l)[j] = false) (hb : BestQ l j b) : BestQ l (j + 1) b := by
  have e : vQ l (j + 1) = vQ l j := by rw [vQ_succ h, hs]; simp
  unfold BestQ
  rw [e]
  exact hb
theorem BestQ.low {l : List Int} {j : Nat} {b : Int} (hb : BestQ l j b) : -1 ≤ b := by
  rcases hb with ⟨_, e⟩ | ⟨_, e⟩ <;> omega
theorem foldQ_one {l : List Int} {n : Nat} (hn : n ≤ 35) : foldQ l [n] = n := by
  unfold foldQ
  split <;> simp <;> omega
theorem BestQ.first {l : List Int} {j n : Nat} {b : Int} (h : j < (mvL l).length) (hs : swB l (mvL l)[j] = true) (hv : qn (biteL l ((mvL l)[j]).1 ((mvL l)[j]).2) + 1 = n) (hn : n ≤ 35) (hb : BestQ l j b) (h0 : b < 0) : BestQ l (j + 1) n := by
  have e : vQ l (j + 1) = vQ l j ++ [n] := by rw [vQ_succ h, hs, hv]; simp
  rcases hb with ⟨e1, _⟩ | ⟨_, e2⟩
  · right
    rw [e, e1]
    exact ⟨by simp, by rw [List.nil_append, foldQ_one hn]⟩
  · omega
theorem BestQ.more {l : List Int} {j n : Nat} {b : Int} (h : j < (mvL l).length) (hs : swB l (mvL l)[j] = true) (hv : qn (biteL l ((mvL l)[j]).1 ((mvL l)[j]).2) + 1 = n) (hb : BestQ l j b) (h0 : 0 ≤ b) : BestQ l (j + 1) (if gr l = 0 then max b n else min b n) := by
  have e : vQ l (j + 1) = vQ l j ++ [n] := by rw [vQ_succ h, hs, hv]; simp
  rcases hb with ⟨_, e2⟩ | ⟨_, e2⟩
  · omega
  · right
    refine ⟨by rw [e]; simp, ?_⟩
    rw [e]
    unfold foldQ at *
    by_cases hg : gr l = 0
    · rw [if_pos hg] at e2
      rw [if_pos hg, if_pos hg, fold_snoc_max]
      omega
    · rw [if_neg hg] at e2
      rw [if_neg hg, if_neg hg, fold_snoc_min]
      omega
theorem BestQ.last {l : List Int} {j : Nat} {b : Int} (hl : ChOK l) (h : (mvL l).length ≤ j) (hb : BestQ l j b) : (if (0 : Int) < b then b else 0) = (qn l : Nat) := by
  have e : vQ l j = qV l := by unfold vQ qV selM; rw [List.take_of_length_le h]
  rw [qn_step hl]
  rcases hb with ⟨e1, e2⟩ | ⟨_, e2⟩
  · rw [e] at e1
    have hg : gr l = 0 := by
      apply Classical.byContradiction
      intro q
      obtain ⟨p, hp⟩ := won_good hl q
      rw [← selM_won q] at hp
      have hm : qn (biteL l p.1 p.2) + 1 ∈ qV l := List.mem_map.2 ⟨p, hp, rfl⟩
      rw [e1] at hm
      simp at hm
    rw [e1, e2]
    unfold foldQ
    rw [if_pos hg]
    simp
  · rw [e] at e2
    rw [e2]
    split <;> omega

set_option maxHeartbeats 400000 in
theorem l1Most_any (a b : Int) (w : World) :
    Calls Try.prog 72 #[.int .i64 a, .int .i64 b] w fun e w' => e = .returned (.int .i64 (if a < b then b else a)) ∧ w = w' := by
  rcases Int.lt_trichotomy a b with h | h | h
  · rw [if_pos h]
    go_enter Try.func72, Try.ntmps72
    go_wp2
    go_ret
    exact ⟨rfl, rfl⟩
  · subst h
    rw [if_neg (by omega)]
    go_enter Try.func72, Try.ntmps72
    go_wp2
    go_ret
    exact ⟨rfl, rfl⟩
  · rw [if_neg (by omega)]
    go_enter Try.func72, Try.ntmps72
    go_wp2
    go_ret
    exact ⟨rfl, rfl⟩

set_option maxRecDepth 100000 in
set_option maxHeartbeats 16000000 in
theorem sQuickest_any (A : Option Addr) (n c : Nat) (l0 : List Int) (w : World) (hr : Rd w 1 A n (intCells l0)) (hn : n ≤ 1000000000) :
    Calls Try.prog 44 #[.slice A n c] w fun e w' => e = .returned (.tuple #[.int .i64 (qwV l0), .bool (winR l0)]) ∧ Below w.heap.size w w' := by
  have HG := Lib.hid (fun wx h => cmGood_any A n c l0 wx h hn)
  cases hb : chB l0
  · have hw : winR l0 = false := by simp [winR, hb]
    rw [show qwV l0 = 0 by simp [qwV, hw], hw]
    have HB := Lib.hid hb
    clear hb hw
    go_enter Try.func44, Try.ntmps44
    go_wp2_with fail
    refine (HG.out _ hr).mono ?_; rintro e w1 ⟨rfl, hb1⟩
    rw [HB.out]
    go_wp2
    go_ret2
    exact ⟨rfl, hb1⟩
  · obtain ⟨i0, hi, hz0, hz1, hz2⟩ := info_parts int_info
    have hl0 := chB_true.1 hb
    have HL0 := Lib.hid hl0
    have HWI := Lib.hid (winR_iff hb)
    have HB := Lib.hid hb
    have hll := hr.ilen
    have n6 : n ≤ 6 := by have := hl0.2.1; omega
    have n1 : 1 ≤ n := by have := hl0.1; omega
    obtain ⟨b, o, rfl, hbl, hx, p0⟩ := hr.num n1
    obtain ⟨W, hW⟩ : ∃ W : Nat, l0[0] = W := ⟨(l0[0]).toNat, by have := hl0.ge0 0; rw [getD_lt hx] at this; omega⟩
    have hW6 : W ≤ 6 := by have := hl0.le6 0; rw [getD_lt hx] at this; omega
    have hWl : l0.getD 0 0 ≤ W := by rw [getD_lt hx, hW]; omega
    rw [hW, Nat.add_zero] at p0
    obtain ⟨p00, hp00, hpe⟩ := List.getElem_of_mem ((mem_all (H := n) (W := W) n6 hW6).2 ⟨hl0, by omega, hWl⟩)
    obtain ⟨kl, hkl⟩ : ∃ kl : Nat, keyI l0 = kl := ⟨(keyI l0).toNat, by have := (keyI_in hl0).1; omega⟩
    have hkl6 : kl < 117649 := by have := (keyI_in hl0).2; omega
    have hkli : (kl : Int) < 117649 := by omega
    obtain ⟨G0, hG0⟩ : ∃ G0 : Nat, gr l0 = G0 := ⟨_, rfl⟩
    have hG36 : G0 ≤ 36 := by have := gr_le hl0; omega
    have HTH : Hid (∀ tbl, TabC tbl (chs n W []) (chs n W []).length → tbl.getD kl 0 = (G0 : Int) + 1) := fun tbl h => by
      have q := TabC.look n6 hW6 h hl0 (by omega) hWl
      rw [hkl, hG0] at q
      simpa using q
    have HTQ : Hid (∀ tbl, TabQ tbl (chs n W []) (chs n W []).length → tbl.getD kl 0 = qI l0) := fun tbl h => by
      have q := h p00 hp00 hp00
      rw [hpe, hkl] at q
      simpa [qI] using q
    have HKC0 : Hid (∀ (wx : World), Rd wx 1 (some ⟨b, o, none⟩) n (intCells l0) → Calls Try.prog 69 #[.slice (some ⟨b, o, none⟩) n c] wx fun e w' => e = .returned (.int .i64 (kl : Int)) ∧ wx = w') := fun wx hr => by
      have q := cmKey_any (some ⟨b, o, none⟩) n c l0 wx hr hl0
      rw [hkl] at q
      exact q
    have HCH := Lib.hid (fun wx => cmHeaps_any W n wx hW6 n6)
    have HA := Lib.hid (fun wx => cmAll_any W n wx hW6 n6)
    have HG0 := Lib.hid hG0
    have HQW : Hid (qwV l0 = if G0 = 0 then 0 else qI l0) := by
      simp only [Hid, qwV, winR_iff hb, hG0]
      by_cases e : G0 = 0 <;> simp [e]
    have hm923 : (chs n W []).length ≤ 923 := by rw [length_chs]; exact cntC_le n6 hW6
    clear hW hx hWl hll hl0 hb hkl hG0 hpe hp00
    go_enter Try.func44, Try.ntmps44
    go_wp2_with fail
    refine (HG.out _ hr).mono ?_; rintro e w0 ⟨rfl, hb0⟩
    rw [HB.out]
    have hr0 := hr.later hb0 (Nat.le_refl _)
    have s0 := hb0.size
    have HB0 := Lib.hid hb0
    have p01 : w0.cell? ⟨b, o, none⟩ = some (.int .i64 (W : Int)) := (hb0.cell (p := ⟨b, o, none⟩) hbl).trans p0
    clear hb0
    go_wp2_with fail
    refine (HCH.out _).mono ?_; rintro e w1 ⟨g, tbl, rfl, ho, htab, hb1⟩
    have HR1 := Lib.hid (hr0.later hb1 (Nat.le_refl _))
    have s1 := hb1.size
    have HB1 := Lib.hid (HB0.out.trans (hb1.mono s0))
    have htc := ho.cellAt kl (by omega)
    have hlen : tbl.length = 117649 := by have := ho.1; rw [length_intCells] at this; omega
    have htv := HTH.out tbl htab
    rw [show (intCells tbl)[kl]? = some (.int .i64 ((G0 : Int) + 1)) by
      have hk2 : kl < tbl.length := by omega
      simp only [intCells, List.getElem?_map, List.getElem?_eq_getElem hk2, Option.map_some]
      rw [← htv, getD_lt hk2]] at htc
    generalize hT1 : (G0 : Int) + 1 = tv0 at htc
    have HO := Lib.hid ho
    have HT := Lib.hid htab
    have hgt := (ho.lt g rfl)
    clear ho htab hb1 HCH HTH htv
    by_cases hz : G0 = 0
    · have hd : (tv0 == 1) = true := by rw [← hT1, hz]; rfl
      have HE : Hid (qwV l0 = 0 ∧ winR l0 = false) := ⟨by rw [HQW.out, if_pos hz], by rw [HWI.out, HG0.out, hz]; rfl⟩
      go_wp2_with fail
      refine (HKC0.out _ HR1.out).mono ?_; rintro e wx ⟨rfl, rfl⟩
      go_wp2
      go_ret2
      exact ⟨by rw [HE.out.1, HE.out.2]; rfl, HB1.out⟩
    · have hd : (tv0 == 1) = false := by rw [← hT1]; simp; omega
      have HE : Hid (qwV l0 = qI l0 ∧ winR l0 = true) := ⟨by rw [HQW.out, if_neg hz], by rw [HWI.out, HG0.out]; simp [hz]⟩
      have p02 : w1.cell? ⟨b, o, none⟩ = some (.int .i64 (W : Int)) := by
        have q := HR1.out.num n1
        obtain ⟨b', o', e', _, hx', pp⟩ := q
        cases e'
        have : l0[0] = (W : Int) := by
          have e1 := hr.num n1
          obtain ⟨b2, o2, e2, _, hx2, pp2⟩ := e1
          cases e2
          rw [Nat.add_zero, p0] at pp2
          simpa using pp2.symm
        rw [this, Nat.add_zero] at pp
        exact pp
      go_wp2_with fail
      refine (HKC0.out _ HR1.out).mono ?_; rintro e wx ⟨rfl, rfl⟩
      go_wp2_with (at_make; refine wpList_make_full _ rfl (.tmp 30) (.tmp 30) 22 rfl w1.heap.size 3 i0 (.int .i64 0) 1 Try.underlying22 hi hz0 hz1 .i64 .i64 _ _ 117649 rfl rfl rfl rfl ?b2 ?b3 (Nat.le_refl _) ?_)
      case b2 => rw [hz2]; omega
      case b3 => simp only [maxLen]; omega
      intro wt hownT hgrowT
      have hbT : Below w1.heap.size w1 wt := (Below.refl _ _).grown hgrowT (Nat.le_refl _) (fun k hk => by cases hk)
      obtain ⟨lg0, ht0, hown0⟩ : ∃ lg0 : List Int, lg0.length = 117649 ∧ wt.ownsRow w1.heap.size 3 1 (.slice (some ⟨w1.heap.size, 0, none⟩) 117649 117649) 117649 (intCells lg0) := by
        refine ⟨List.replicate 117649 0, List.length_replicate, ?_⟩
        have e : (madeCells #[Value.int IntKind.i64 0] 117649).toList = intCells (List.replicate 117649 0) := by
          rw [toList_madeCells_one]
          unfold intCells
          rw [List.map_replicate]
        rw [← e]
        exact hownT
      have HT0 := Lib.hid ht0
      have HO0 := Lib.hid hown0
      have HBT := Lib.hid (HB1.out.trans (hbT.mono HB1.out.size))
      have HOT := Lib.hid (own_later HO.out hbT (Nat.le_refl _))
      have HRT := Lib.hid (HR1.out.later hbT (Nat.le_refl _))
      have sT := (hown0.lt w1.heap.size rfl).2
      have p03 : wt.cell? ⟨b, o, none⟩ = some (.int .i64 (W : Int)) := (hbT.cell (p := ⟨b, o, none⟩) (by show b < w1.heap.size; omega)).trans p02
      clear hownT hgrowT ht0 hown0 hbT HO HR1 p02 htc p01
      go_wp2_with fail
      refine (HA.out _).mono ?_; rintro e w2 ⟨A1, m, c1, rfl, hL, hss, hb2⟩
      have HO2 := Lib.hid (own_later HO0.out hb2 (Nat.le_refl _))
      have HOT2 := Lib.hid (own_later HOT.out hb2 (Nat.le_refl _))
      have HR2 := Lib.hid (HRT.out.later hb2 (Nat.le_refl _))
      have HB2 := Lib.hid (HBT.out.trans (hb2.mono HBT.out.size))
      obtain ⟨AC, CC, hac⟩ := hss
      have HAC := Lib.hid hac
      have HLL := Lib.hid hL
      have s2 := hb2.size
      have hm9 : m ≤ 923 := by omega
      have hgw : g < w1.heap.size := hgt.2
      clear hac hL hb2 HA HO0 HOT HRT p03 HBT
      have HBQ : Hid (∀ p (hp : p < (chs n W []).length) lg, TabQ lg (chs n W []) p → ∀ x y, canC (chs n W [])[p] x y = true → lg.getD (keyI (biteL (chs n W [])[p] x y)).toNat 0 = (qn (biteL (chs n W [])[p] x y) : Nat)) := fun p hp lg h x y hc => TabQ.bite n6 hW6 hp h hc
      have HBH : Hid (∀ p (hp : p < (chs n W []).length), ∀ x y, canC (chs n W [])[p] x y = true → tbl.getD (keyI (biteL (chs n W [])[p] x y)).toNat 0 = (gr (biteL (chs n W [])[p] x y) : Nat) + 1) := fun p hp x y hc => TabC.bite n6 hW6 HT.out (List.getElem_mem hp) hc
      have HNH : Hid (∀ p (hp : p < (chs n W []).length), tbl.getD (keyI (chs n W [])[p]).toNat 0 = (gr (chs n W [])[p] : Nat) + 1) := fun p hp => HT.out p hp hp
      have HPQ : Hid (∀ p (hp : p < (chs n W []).length) lg, lg.length = 117649 → TabQ lg (chs n W []) p → TabQ (lg.set (keyI (chs n W [])[p]).toNat (qn (chs n W [])[p] : Nat)) (chs n W []) (p + 1)) := fun p hp lg hn h => TabQ.put n6 hW6 h hp hn
      have HOKS : Hid (∀ p (hp : p < (chs n W []).length), ChOK (chs n W [])[p]) := fun p hp => ((mem_all n6 hW6).1 (List.getElem_mem hp)).1
      clear HT
      generalize hLs : chs n W [] = Ls at *
      clear hLs
      go_wp2
      go_loopw [39] (fun i wr => ∃ (p : Nat) (lg : List Int), p ≤ m ∧ i = .int .i64 p ∧ Hid (lg.length = 117649) ∧ wr.ownsRow w1.heap.size 3 1 (.slice (some ⟨w1.heap.size, 0, none⟩) 117649 117649) 117649 (intCells lg) ∧ Hid (TabQ lg Ls p) ∧ Chg (fun i => i = w1.heap.size) w2 wr) (fun i _ => m - (intOf i).toNat)
      case atStart => exact ⟨0, lg0, Nat.zero_le _, rfl, HT0.out, HO2.out, fun i _ hi => absurd hi (by omega), Chg.refl _ _⟩
      case round =>
        clear HO2
        obtain ⟨p, lg, hp, rfl, hlg, hown, htq, hch⟩ := hrel
        have sC := hch.size
        by_cases hlt : p < m
        · have hpl : p < Ls.length := by rw [HLL.out]; exact hlt
          have htop := hch.own HAC.out.top (fun q hq e => by have := (HAC.out.top.lt q hq).1; have e2 : q = w1.heap.size := e; omega)
          obtain ⟨bm, rfl, hbm1, hbm⟩ := own_at htop (by omega)
          have pm := htop.cellAt p (by omega)
          rw [ssCells_at hlt] at pm
          have hrow := hch.own (HAC.out.row p hlt) (fun q hq e => by have := ((HAC.out.row p hlt).lt q hq).1; have e2 : q = w1.heap.size := e; omega)
          have hht := hch.own HOT2.out (fun q hq e => by cases hq; have e2 : g = w1.heap.size := e; omega)
          have hln : lsR Ls p = Ls[p] := by simp [lsR, List.getD, List.getElem?_eq_getElem hpl]
          have HOK := Lib.hid (HOKS.out p hpl)
          have HBQL := Lib.hid (HBQ.out p hpl lg htq.out)
          have HBHL := Lib.hid (HBH.out p hpl)
          have hnh := HNH.out p hpl
          have HPL := Lib.hid (HPQ.out p hpl lg hlg.out htq.out)
          rw [hln] at pm hrow
          generalize Ls[p] = l at *
          clear hln hpl htop
          obtain ⟨ks, hks⟩ : ∃ ks : Nat, keyI l = ks := ⟨(keyI l).toNat, by have := (keyI_in HOK.out).1; omega⟩
          have hks6 : ks < 117649 := by have := (keyI_in HOK.out).2; omega
          have hksi : (ks : Int) < 117649 := by omega
          obtain ⟨G, hG⟩ : ∃ G : Nat, gr l = G := ⟨_, rfl⟩
          have hG36 : G ≤ 36 := by have := gr_le HOK.out; omega
          rw [hks, hG] at hnh
          simp only [Int.toNat_natCast] at hnh
          have HGG := Lib.hid hG
          have hll6 := HOK.out.2.1
          obtain ⟨a, ha⟩ : ∃ a, AC p = a := ⟨_, rfl⟩
          obtain ⟨cc, hcc⟩ : ∃ cc, CC p = cc := ⟨_, rfl⟩
          rw [ha, hcc] at pm hrow
          have HKC : Hid (∀ (wx : World), Rd wx 1 a l.length (intCells l) → Calls Try.prog 69 #[.slice a l.length cc] wx fun e w' => e = .returned (.int .i64 (ks : Int)) ∧ wx = w') := fun wx hr => by
            have q := cmKey_any a l.length cc l wx hr HOK.out
            rw [hks] at q
            exact q
          have HCM := Lib.hid (fun wx h => cmMoves_any a l.length cc l wx h HOK.out)
          have htc := hht.cellAt ks (by omega)
          rw [show (intCells tbl)[ks]? = some (.int .i64 ((G : Int) + 1)) by
            have hk2 : ks < tbl.length := by rw [hlen]; exact hks6
            simp only [intCells, List.getElem?_map, List.getElem?_eq_getElem hk2, Option.map_some]
            rw [← hnh, getD_lt hk2]] at htc
          have hglt := (hht.lt g rfl).2
          have hg2lt := (hown.lt w1.heap.size rfl).2
          have HKS := Lib.hid hks
          have HRW := Lib.hid hrow
          have HHT := Lib.hid hht
          have HOW := Lib.hid hown
          have HCHG := Lib.hid hch
          have hML : mv (fun j => l.getD j 0) l.length = mvL l := mv_len HOK.out
          have HML := Lib.hid hML
          clear hML hks hG hnh ha hcc hrow hht hown hch htq HPQ HBQ HBH HNH HOKS
          by_cases hgz : G = 0
          · have HGZ := Lib.hid hgz
            go_wp2_with fail
            refine (HKC.out _ (Rd.of_own HRW.out)).mono ?_; rintro e wx ⟨rfl, rfl⟩
            go_wp2_with fail
            refine (HCM.out _ (Rd.of_own HRW.out)).mono ?_; rintro e w5 ⟨A5, n5, c5, rfl, h36, hL5, hs5, hb5⟩
            rw [HML.out] at hL5 hs5
            obtain ⟨AM, CM, hac5⟩ := hs5
            have HA5 := Lib.hid hac5
            have HL5 := Lib.hid hL5
            have HOW5 := Lib.hid (own_later HOW.out hb5 (Nat.le_refl _))
            have HHT5 := Lib.hid (own_later HHT.out hb5 (Nat.le_refl _))
            have HRW5 := Lib.hid (own_later HRW.out hb5 (Nat.le_refl _))
            have HCH5 := Lib.hid (HCHG.out.trans (Chg.of_below hb5 (Nat.le_refl _)))
            have s5 := hb5.size
            clear hac5 hL5 hb5 HOW HHT HRW HCHG HCM htc hgz
            go_wp2
            go_loopw [9, 52] (fun v i wq => ∃ (j : Nat) (bst : Int), j ≤ n5 ∧ i = .int .i64 j ∧ v = .int .i64 bst ∧ bst ≤ 36 ∧ Hid (BestQ l j bst) ∧ Below w5.heap.size w5 wq) (fun _ i _ => n5 - (intOf i).toNat)
            case atStart => exact ⟨0, -1, Nat.zero_le _, rfl, rfl, by omega, BestQ.zero l, Below.refl _ _⟩
            case round =>
              obtain ⟨j, bst, hj, rfl, rfl, hb36, hbq, hB⟩ := hrel
              have sB := hB.size
              by_cases hjl : j < n5
              · have hjM : j < (mvL l).length := by rw [HL5.out]; exact hjl
                have htop5 := own_later HA5.out.top hB (Nat.le_refl _)
                obtain ⟨b5, rfl, hb51, hb52⟩ := own_at htop5 (by omega)
                have pm5 := htop5.cellAt j (by omega)
                rw [ssCells_at hjl] at pm5
                have hrow5 := own_later (HA5.out.row j hjl) hB (Nat.le_refl _)
                have hpr := prR_at hjM
                have hcan := mvL_can HOK.out (List.getElem_mem hjM)
                have hswb : swB l (mvL l)[j] = (decide (gr l = 0) || !decide (0 < grI (biteL l ((mvL l)[j]).1 ((mvL l)[j]).2))) := rfl
                have HSK := Lib.hid (fun h => BestQ.skip (l := l) (b := bst) hjM h hbq.out)
                have HFI := Lib.hid (fun n hs hv hn h0 => BestQ.first (l := l) (n := n) (b := bst) hjM hs hv hn hbq.out h0)
                have HMO := Lib.hid (fun n hs hv h0 => BestQ.more (l := l) (n := n) (b := bst) hjM hs hv hbq.out h0)
                have hlow := hbq.out.low
                rw [hpr] at pm5 hrow5
                generalize swB l (mvL l)[j] = sw at *
                generalize ((mvL l)[j]).1 = x at *
                generalize ((mvL l)[j]).2 = y at *
                have h5 := canC_true hcan
                obtain ⟨yn, rfl⟩ : ∃ yn : Nat, y = yn := ⟨y.toNat, by omega⟩
                have HBOK := Lib.hid (biteL_ok HOK.out hcan)
                obtain ⟨kn, hkn⟩ : ∃ kn : Nat, keyI (biteL l x yn) = kn := ⟨(keyI (biteL l x yn)).toNat, by have := (keyI_in HBOK.out).1; omega⟩
                have hkn6 : kn < 117649 := by have := (keyI_in HBOK.out).2; omega
                obtain ⟨gv, hgv⟩ : ∃ gv : Nat, gr (biteL l x yn) = gv := ⟨_, rfl⟩
                have hgv6 : gv < 37 := by have := gr_le HBOK.out; omega
                obtain ⟨qv, hqv⟩ : ∃ qv : Nat, qn (biteL l x yn) = qv := ⟨_, rfl⟩
                have hqv6 : qv + 1 ≤ 35 := by have := qn_bite HOK.out hcan; omega
                have htv := HBHL.out x yn hcan
                rw [hkn, hgv] at htv
                simp only [Int.toNat_natCast] at htv
                have hqt := HBQL.out x yn hcan
                rw [hkn, hqv] at hqt
                simp only [Int.toNat_natCast] at hqt
                have hgi : grI (biteL l x yn) = (gv : Int) := by simp [grI, hgv]
                rw [hgi, HGG.out] at hswb
                rw [hqv] at HFI HMO
                have HSW := Lib.hid hswb
                have HBI := Lib.hid (fun wx h => cmBite_any a l.length cc l x yn wx h HOK.out h5.1 (by omega))
                have HKB : Hid (∀ (A : Option Addr) (n c : Nat) (wx : World), Rd wx 1 A n (intCells (biteL l x yn)) → Calls Try.prog 69 #[.slice A n c] wx fun e w' => e = .returned (.int .i64 (kn : Int)) ∧ wx = w') := fun A n c wx h => by
                  have q := cmKey_any A n c (biteL l x yn) wx h HBOK.out
                  rw [hkn] at q
                  exact q
                obtain ⟨bx, e1, hbx1, hbx⟩ := own_at hrow5 (by simp)
                rw [e1] at pm5 hrow5
                have q0 : wr.cell? ⟨bx, 0, none⟩ = some (.int .i64 x) := (hrow5.cellAt 0 (by simp)).trans rfl
                have q1 : wr.cell? ⟨bx, 1, none⟩ = some (.int .i64 (yn : Int)) := (hrow5.cellAt 1 (by simp)).trans rfl
                have pm' : wr.cell? ⟨b5, j, none⟩ = some (.slice (some ⟨bx, 0, none⟩) 2 (CM j)) := pm5
                have hkni : (kn : Int) < 117649 := by omega
                have hhq := own_later HHT5.out hB (Nat.le_refl _)
                have hlq := own_later HOW5.out hB (Nat.le_refl _)
                have tc1 := hhq.cellAt kn (by omega)
                rw [show (intCells tbl)[kn]? = some (.int .i64 ((gv : Int) + 1)) by
                  have hk2 : kn < tbl.length := by rw [hlen]; exact hkn6
                  simp only [intCells, List.getElem?_map, List.getElem?_eq_getElem hk2, Option.map_some]
                  rw [← htv, getD_lt hk2]] at tc1
                have tc2 := hlq.cellAt kn (by omega)
                have hlgl := hlg.out
                rw [show (intCells lg)[kn]? = some (.int .i64 (qv : Int)) by
                  have hk2 : kn < lg.length := by rw [hlgl]; exact hkn6
                  simp only [intCells, List.getElem?_map, List.getElem?_eq_getElem hk2, Option.map_some]
                  rw [← hqt, getD_lt hk2]] at tc2
                have hgt5 := (hhq.lt g rfl).2
                have hg25 := (hlq.lt w1.heap.size rfl).2
                have HRQ := Lib.hid (Rd.of_own (own_later HRW5.out hB (Nat.le_refl _)))
                have HBB := Lib.hid hB
                clear hpr hcan h5 hrow5 e1 pm5 hhq hlq hlgl htv hqt hkn hgv hqv hgi hjM htop5 hswb hbq hB
                go_wp2
                refine wp_region_held_drew (S := (fun w' => w'.cell? ⟨bx, 0, none⟩ = some (.int .i64 x) ∧ w'.cell? ⟨bx, 1, none⟩ = some (.int .i64 (yn : Int)) ∧ w'.cell? ⟨g, kn, none⟩ = some (.int .i64 ((gv : Int) + 1)) ∧ w'.cell? ⟨w1.heap.size, kn, none⟩ = some (.int .i64 (qv : Int)))) (by kernel_rfl) ?_ (fun hHeld => ?_)
                · ((try dsimp only); (repeat' apply And.intro); all_goals ((repeat (first | (with_reducible refine cell_drew ?_) | (with_reducible refine cell_drewN _ ?_) | ((with_reducible refine cell_alloc ?_ ?_); · first | omega | (simp; done) | (simp; omega) | assumption) | ((with_reducible refine cell_set ?_ ?_); · first | (intro e; injection e; omega) | (intro e; simp at e; done) | (intro e; simp at e; omega)))); first | assumption | (simp; done)))
                refine reg_on (i := 0) (d := 56) (v := ?rv1) rfl rfl (by kernel_rfl) (by kernel_rfl) (by kernel_rfl) (fun _ _ _ h => h) (by rfl) ?ry1 (by assumption) ?rr1
                case ry1 => (intro wz hSw; (try dsimp only at hSw); go_simp; try with_reducible rfl)
                (try simp only [Act.put, List.setIfInBounds_toArray, List.set_cons_zero, List.set_cons_succ])
                refine reg_on (i := 1) (d := 57) (v := ?rv2) rfl rfl (by kernel_rfl) (by kernel_rfl) (by kernel_rfl) (fun _ _ _ h => h) (by rfl) ?ry2 (by assumption) ?rr2
                case ry2 => (intro wz hSw; (try dsimp only at hSw); go_simp; try with_reducible rfl)
                (try simp only [Act.put, List.setIfInBounds_toArray, List.set_cons_zero, List.set_cons_succ])
                refine reg_on (i := 2) (d := 58) (v := ?rv3) rfl rfl (by kernel_rfl) (by kernel_rfl) (by kernel_rfl) (fun _ _ _ h => h) (by rfl) ?ry3 (by assumption) ?rr3
                case ry3 => (intro wz hSw; (try dsimp only at hSw); go_simp; try with_reducible rfl)
                (try simp only [Act.put, List.setIfInBounds_toArray, List.set_cons_zero, List.set_cons_succ])
                refine reg_on (i := 3) (d := 59) (v := ?rv4) rfl rfl (by kernel_rfl) (by kernel_rfl) (by kernel_rfl) (fun _ _ _ h => h) (by rfl) ?ry4 (by assumption) ?rr4
                case ry4 => (intro wz hSw; (try dsimp only at hSw); go_simp; try with_reducible rfl)
                (try simp only [Act.put, List.setIfInBounds_toArray, List.set_cons_zero, List.set_cons_succ])
                refine reg_on (i := 4) (d := 60) (v := ?rv5) rfl rfl (by kernel_rfl) (by kernel_rfl) (by kernel_rfl) (fun _ _ _ h => h) (by rfl) ?ry5 (by assumption) ?rr5
                case ry5 => (intro wz hSw; (try dsimp only at hSw); go_simp; try with_reducible rfl)
                (try simp only [Act.put, List.setIfInBounds_toArray, List.set_cons_zero, List.set_cons_succ])
                refine reg_on (i := 5) (d := 61) (v := ?rv6) rfl rfl (by kernel_rfl) (by kernel_rfl) (by kernel_rfl) (fun _ _ _ h => h) (by rfl) ?ry6 (by assumption) ?rr6
                case ry6 => (intro wz hSw; (try dsimp only at hSw); go_simp; try with_reducible rfl)
                (try simp only [Act.put, List.setIfInBounds_toArray, List.set_cons_zero, List.set_cons_succ])
                refine reg_on (i := 6) (d := 62) (v := ?rv7) rfl rfl (by kernel_rfl) (by kernel_rfl) (by kernel_rfl) (fun _ _ _ h => h) (by rfl) ?ry7 (by assumption) ?rr7
                case ry7 => (intro wz hSw; (try dsimp only at hSw); go_simp; try with_reducible rfl)
                (try simp only [Act.put, List.setIfInBounds_toArray, List.set_cons_zero, List.set_cons_succ])
                refine wpAnyH_ready (rs := [7]) (by kernel_rfl) (by simp) ?_
                refine AllReadyH.cons rfl (fun K hK => ?_) AllReadyH.nil
                go_simp
                go_at_call 56; refine (HBI.out _ (by exact HRQ.out)).mono ?_; rintro e w3 ⟨A3, n3, c3, rfl, o3, hb3⟩; have k0 : w3.cell? ⟨bx, 0, none⟩ = some (.int .i64 x) := (hb3.cell (p := ⟨bx, 0, none⟩) (by exact hbx)).trans (by first | assumption | (go_split_ands; assumption)); have k1 : w3.cell? ⟨bx, 1, none⟩ = some (.int .i64 (yn : Int)) := (hb3.cell (p := ⟨bx, 1, none⟩) (by exact hbx)).trans (by first | assumption | (go_split_ands; assumption)); have k2 : w3.cell? ⟨g, kn, none⟩ = some (.int .i64 ((gv : Int) + 1)) := (hb3.cell (p := ⟨g, kn, none⟩) (by exact hgt5)).trans (by first | assumption | (go_split_ands; assumption)); have k3 : w3.cell? ⟨w1.heap.size, kn, none⟩ = some (.int .i64 (qv : Int)) := (hb3.cell (p := ⟨w1.heap.size, kn, none⟩) (by exact hg25)).trans (by first | assumption | (go_split_ands; assumption))
                refine hK.out _ _ ?_ (fun hHeld => ?_)
                · ((try dsimp only); (repeat' apply And.intro); all_goals ((repeat (first | (with_reducible refine cell_drew ?_) | (with_reducible refine cell_drewN _ ?_) | ((with_reducible refine cell_alloc ?_ ?_); · first | omega | (simp; done) | (simp; omega) | assumption) | ((with_reducible refine cell_set ?_ ?_); · first | (intro e; injection e; omega) | (intro e; simp at e; done) | (intro e; simp at e; omega)))); first | assumption | (simp; done)))
                clear hK K
                (try simp only [Act.put, List.setIfInBounds_toArray, List.set_cons_zero, List.set_cons_succ])
                refine wpAnyH_ready (rs := [8]) (by kernel_rfl) (by simp) ?_
                refine AllReadyH.cons rfl (fun K hK => ?_) AllReadyH.nil
                go_simp
                go_at_call 69; refine (HKB.out _ _ _ _ (Rd.of_own o3)).mono ?_; rintro e wx ⟨rfl, rfl⟩
                refine hK.out _ _ ?_ (fun hHeld => ?_)
                · ((try dsimp only); (repeat' apply And.intro); all_goals ((repeat (first | (with_reducible refine cell_drew ?_) | (with_reducible refine cell_drewN _ ?_) | ((with_reducible refine cell_alloc ?_ ?_); · first | omega | (simp; done) | (simp; omega) | assumption) | ((with_reducible refine cell_set ?_ ?_); · first | (intro e; injection e; omega) | (intro e; simp at e; done) | (intro e; simp at e; omega)))); first | assumption | (simp; done)))
                clear hK K
                (try simp only [Act.put, List.setIfInBounds_toArray, List.set_cons_zero, List.set_cons_succ])
                refine reg_on (i := 9) (d := 12) (v := ?rv10) rfl rfl (by kernel_rfl) (by kernel_rfl) (by kernel_rfl) (fun _ _ _ h => h) (by rfl) ?ry10 (by assumption) ?rr10
                case ry10 => (intro wz hSw; (try dsimp only at hSw); go_simp; try with_reducible rfl)
                (try simp only [Act.put, List.setIfInBounds_toArray, List.set_cons_zero, List.set_cons_succ])
                refine wpAnyH_done (by kernel_rfl) ?_ _
                have hb3w : Below wr.heap.size wr w3 := (Below.refl wr.heap.size wr).drew.trans hb3
                have HB3 := Lib.hid (HBB.out.trans (hb3w.mono sB))
                clear hb3 hb3w o3 tc1 tc2 q0 q1 HBI HKB HBB
                have HSWT : Hid (sw = true) := by simp only [Hid]; rw [HSW.out, HGZ.out]; rfl
                by_cases hneg : bst < 0
                · have HN := Lib.hid (HFI.out (qv + 1) HSWT.out rfl hqv6 hneg)
                  go_wp2
                  go_roundw
                  case rel => exact ⟨j + 1, _, by omega, by go_num, by go_num, by omega, HN.out, HB3.out⟩
                  case measure => simp [intOf]; omega
                · have HN := Lib.hid (HMO.out (qv + 1) HSWT.out rfl (by omega))
                  rw [HGG.out, if_pos HGZ.out] at HN
                  by_cases hgr : bst < (qv : Int) + 1
                  · have HN2 : Hid (BestQ l (j + 1) ((qv : Int) + 1)) := by
                      have h := HN.out
                      rwa [show max bst ((qv + 1 : Nat) : Int) = (qv : Int) + 1 by omega] at h
                    go_wp2
                    go_roundw
                    case rel => exact ⟨j + 1, _, by omega, by go_num, by go_num, by omega, HN2.out, HB3.out⟩
                    case measure => simp [intOf]; omega
                  · have HN2 : Hid (BestQ l (j + 1) bst) := by
                      have h := HN.out
                      rwa [show max bst ((qv + 1 : Nat) : Int) = bst by omega] at h
                    go_wp2
                    go_roundw
                    case rel => exact ⟨j + 1, bst, by omega, by go_num, rfl, by omega, HN2.out, HB3.out⟩
                    case measure => simp [intOf]; omega
              · have HLA := Lib.hid (BestQ.last HOK.out (j := j) (by rw [HL5.out]; omega) hbq.out)
                have hlq := own_later HOW5.out hB (Nat.le_refl _)
                have htl2 : ks < lg.length := by have := hlg.out; omega
                have tc2 := hlq.cellAt ks (by omega)
                rw [show (intCells lg)[ks]? = some (.int .i64 lg[ks]) by simp [intCells, htl2]] at tc2
                have tf2 := hlq.frozenAt ks
                have st := hlq.stored ks (.int .i64 (qn l : Nat))
                rw [set_intCells] at st
                have HPQ2 : Hid (TabQ (lg.set ks (qn l : Nat)) Ls (p + 1)) := by
                  have h := HPL.out
                  rw [HKS.out] at h
                  simpa [Hid] using h
                have HTL2 : Hid ((lg.set ks ((qn l : Nat) : Int)).length = 117649) := by simp only [Hid, List.length_set]; exact hlg.out
                have hcq := HCH5.out.trans (Chg.of_below hB (Nat.le_refl _))
                have hcs := hcq.trans (Chg.of_grown (K := fun i => i = w1.heap.size) st.2 (fun q hq => by cases hq; rfl))
                have P := Lib.hid (show (wr.setCell ⟨w1.heap.size, ks, none⟩ (.int .i64 (qn l : Nat))).ownsRow w1.heap.size 3 1 (.slice (some ⟨w1.heap.size, 0, none⟩) 117649 117649) 117649 (intCells (lg.set ks (qn l : Nat))) ∧ Hid (TabQ (lg.set ks (qn l : Nat)) Ls (p + 1)) ∧ Chg (fun i => i = w1.heap.size) w2 (wr.setCell ⟨w1.heap.size, ks, none⟩ (.int .i64 (qn l : Nat))) from ⟨st.1, HPQ2, hcs⟩)
                have HRQ := Lib.hid (Rd.of_own (own_later HRW5.out hB (Nat.le_refl _)))
                generalize lg[ks] = ov at *
                clear hlq htl2 st HPQ2 hcq hcs hbq HPL HBQL HBHL hB
                go_wp2_with fail
                refine (HKC.out _ HRQ.out).mono ?_; rintro e wx ⟨rfl, rfl⟩
                go_wp2_with fail
                refine (l1Most_any _ _ _).mono ?_; rintro e wx ⟨rfl, rfl⟩
                rw [HLA.out]
                go_wp2
                go_roundw
                case rel => exact ⟨p + 1, _, by omega, by go_num, HTL2.out, P.out⟩
                case measure => simp [intOf]; omega
          · have HGZ := Lib.hid hgz
            go_wp2_with fail
            refine (HKC.out _ (Rd.of_own HRW.out)).mono ?_; rintro e wx ⟨rfl, rfl⟩
            go_wp2_with fail
            rw [show decide ((1 : Int) < (G : Int) + 1) = true from decide_eq_true (by have := HGZ.out; omega)]
            refine (HCM.out _ (Rd.of_own HRW.out)).mono ?_; rintro e w5 ⟨A5, n5, c5, rfl, h36, hL5, hs5, hb5⟩
            rw [HML.out] at hL5 hs5
            obtain ⟨AM, CM, hac5⟩ := hs5
            have HA5 := Lib.hid hac5
            have HL5 := Lib.hid hL5
            have HOW5 := Lib.hid (own_later HOW.out hb5 (Nat.le_refl _))
            have HHT5 := Lib.hid (own_later HHT.out hb5 (Nat.le_refl _))
            have HRW5 := Lib.hid (own_later HRW.out hb5 (Nat.le_refl _))
            have HCH5 := Lib.hid (HCHG.out.trans (Chg.of_below hb5 (Nat.le_refl _)))
            have s5 := hb5.size
            clear hac5 hL5 hb5 HOW HHT HRW HCHG HCM htc hgz
            go_wp2
            go_loopw [9, 52] (fun v i wq => ∃ (j : Nat) (bst : Int), j ≤ n5 ∧ i = .int .i64 j ∧ v = .int .i64 bst ∧ bst ≤ 36 ∧ Hid (BestQ l j bst) ∧ Below w5.heap.size w5 wq) (fun _ i _ => n5 - (intOf i).toNat)
            case atStart => exact ⟨0, -1, Nat.zero_le _, rfl, rfl, by omega, BestQ.zero l, Below.refl _ _⟩
            case round =>
              obtain ⟨j, bst, hj, rfl, rfl, hb36, hbq, hB⟩ := hrel
              have sB := hB.size
              by_cases hjl : j < n5
              · have hjM : j < (mvL l).length := by rw [HL5.out]; exact hjl
                have htop5 := own_later HA5.out.top hB (Nat.le_refl _)
                obtain ⟨b5, rfl, hb51, hb52⟩ := own_at htop5 (by omega)
                have pm5 := htop5.cellAt j (by omega)
                rw [ssCells_at hjl] at pm5
                have hrow5 := own_later (HA5.out.row j hjl) hB (Nat.le_refl _)
                have hpr := prR_at hjM
                have hcan := mvL_can HOK.out (List.getElem_mem hjM)
                have hswb : swB l (mvL l)[j] = (decide (gr l = 0) || !decide (0 < grI (biteL l ((mvL l)[j]).1 ((mvL l)[j]).2))) := rfl
                have HSK := Lib.hid (fun h => BestQ.skip (l := l) (b := bst) hjM h hbq.out)
                have HFI := Lib.hid (fun n hs hv hn h0 => BestQ.first (l := l) (n := n) (b := bst) hjM hs hv hn hbq.out h0)
                have HMO := Lib.hid (fun n hs hv h0 => BestQ.more (l := l) (n := n) (b := bst) hjM hs hv hbq.out h0)
                have hlow := hbq.out.low
                rw [hpr] at pm5 hrow5
                generalize swB l (mvL l)[j] = sw at *
                generalize ((mvL l)[j]).1 = x at *
                generalize ((mvL l)[j]).2 = y at *
                have h5 := canC_true hcan
                obtain ⟨yn, rfl⟩ : ∃ yn : Nat, y = yn := ⟨y.toNat, by omega⟩
                have HBOK := Lib.hid (biteL_ok HOK.out hcan)
                obtain ⟨kn, hkn⟩ : ∃ kn : Nat, keyI (biteL l x yn) = kn := ⟨(keyI (biteL l x yn)).toNat, by have := (keyI_in HBOK.out).1; omega⟩
                have hkn6 : kn < 117649 := by have := (keyI_in HBOK.out).2; omega
                obtain ⟨gv, hgv⟩ : ∃ gv : Nat, gr (biteL l x yn) = gv := ⟨_, rfl⟩
                have hgv6 : gv < 37 := by have := gr_le HBOK.out; omega
                obtain ⟨qv, hqv⟩ : ∃ qv : Nat, qn (biteL l x yn) = qv := ⟨_, rfl⟩
                have hqv6 : qv + 1 ≤ 35 := by have := qn_bite HOK.out hcan; omega
                have htv := HBHL.out x yn hcan
                rw [hkn, hgv] at htv
                simp only [Int.toNat_natCast] at htv
                have hqt := HBQL.out x yn hcan
                rw [hkn, hqv] at hqt
                simp only [Int.toNat_natCast] at hqt
                have hgi : grI (biteL l x yn) = (gv : Int) := by simp [grI, hgv]
                rw [hgi, HGG.out] at hswb
                rw [hqv] at HFI HMO
                have HSW := Lib.hid hswb
                have HBI := Lib.hid (fun wx h => cmBite_any a l.length cc l x yn wx h HOK.out h5.1 (by omega))
                have HKB : Hid (∀ (A : Option Addr) (n c : Nat) (wx : World), Rd wx 1 A n (intCells (biteL l x yn)) → Calls Try.prog 69 #[.slice A n c] wx fun e w' => e = .returned (.int .i64 (kn : Int)) ∧ wx = w') := fun A n c wx h => by
                  have q := cmKey_any A n c (biteL l x yn) wx h HBOK.out
                  rw [hkn] at q
                  exact q
                obtain ⟨bx, e1, hbx1, hbx⟩ := own_at hrow5 (by simp)
                rw [e1] at pm5 hrow5
                have q0 : wr.cell? ⟨bx, 0, none⟩ = some (.int .i64 x) := (hrow5.cellAt 0 (by simp)).trans rfl
                have q1 : wr.cell? ⟨bx, 1, none⟩ = some (.int .i64 (yn : Int)) := (hrow5.cellAt 1 (by simp)).trans rfl
                have pm' : wr.cell? ⟨b5, j, none⟩ = some (.slice (some ⟨bx, 0, none⟩) 2 (CM j)) := pm5
                have hkni : (kn : Int) < 117649 := by omega
                have hhq := own_later HHT5.out hB (Nat.le_refl _)
                have hlq := own_later HOW5.out hB (Nat.le_refl _)
                have tc1 := hhq.cellAt kn (by omega)
                rw [show (intCells tbl)[kn]? = some (.int .i64 ((gv : Int) + 1)) by
                  have hk2 : kn < tbl.length := by rw [hlen]; exact hkn6
                  simp only [intCells, List.getElem?_map, List.getElem?_eq_getElem hk2, Option.map_some]
                  rw [← htv, getD_lt hk2]] at tc1
                have tc2 := hlq.cellAt kn (by omega)
                have hlgl := hlg.out
                rw [show (intCells lg)[kn]? = some (.int .i64 (qv : Int)) by
                  have hk2 : kn < lg.length := by rw [hlgl]; exact hkn6
                  simp only [intCells, List.getElem?_map, List.getElem?_eq_getElem hk2, Option.map_some]
                  rw [← hqt, getD_lt hk2]] at tc2
                have hgt5 := (hhq.lt g rfl).2
                have hg25 := (hlq.lt w1.heap.size rfl).2
                have HRQ := Lib.hid (Rd.of_own (own_later HRW5.out hB (Nat.le_refl _)))
                have HBB := Lib.hid hB
                clear hpr hcan h5 hrow5 e1 pm5 hhq hlq hlgl htv hqt hkn hgv hqv hgi hjM htop5 hswb hbq hB
                go_wp2
                refine wp_region_held_drew (S := (fun w' => w'.cell? ⟨bx, 0, none⟩ = some (.int .i64 x) ∧ w'.cell? ⟨bx, 1, none⟩ = some (.int .i64 (yn : Int)) ∧ w'.cell? ⟨g, kn, none⟩ = some (.int .i64 ((gv : Int) + 1)) ∧ w'.cell? ⟨w1.heap.size, kn, none⟩ = some (.int .i64 (qv : Int)))) (by kernel_rfl) ?_ (fun hHeld => ?_)
                · ((try dsimp only); (repeat' apply And.intro); all_goals ((repeat (first | (with_reducible refine cell_drew ?_) | (with_reducible refine cell_drewN _ ?_) | ((with_reducible refine cell_alloc ?_ ?_); · first | omega | (simp; done) | (simp; omega) | assumption) | ((with_reducible refine cell_set ?_ ?_); · first | (intro e; injection e; omega) | (intro e; simp at e; done) | (intro e; simp at e; omega)))); first | assumption | (simp; done)))
                refine reg_on (i := 0) (d := 56) (v := ?rv11) rfl rfl (by kernel_rfl) (by kernel_rfl) (by kernel_rfl) (fun _ _ _ h => h) (by rfl) ?ry11 (by assumption) ?rr11
                case ry11 => (intro wz hSw; (try dsimp only at hSw); go_simp; try with_reducible rfl)
                (try simp only [Act.put, List.setIfInBounds_toArray, List.set_cons_zero, List.set_cons_succ])
                refine reg_on (i := 1) (d := 57) (v := ?rv12) rfl rfl (by kernel_rfl) (by kernel_rfl) (by kernel_rfl) (fun _ _ _ h => h) (by rfl) ?ry12 (by assumption) ?rr12
                case ry12 => (intro wz hSw; (try dsimp only at hSw); go_simp; try with_reducible rfl)
                (try simp only [Act.put, List.setIfInBounds_toArray, List.set_cons_zero, List.set_cons_succ])
                refine reg_on (i := 2) (d := 58) (v := ?rv13) rfl rfl (by kernel_rfl) (by kernel_rfl) (by kernel_rfl) (fun _ _ _ h => h) (by rfl) ?ry13 (by assumption) ?rr13
                case ry13 => (intro wz hSw; (try dsimp only at hSw); go_simp; try with_reducible rfl)
                (try simp only [Act.put, List.setIfInBounds_toArray, List.set_cons_zero, List.set_cons_succ])
                refine reg_on (i := 3) (d := 59) (v := ?rv14) rfl rfl (by kernel_rfl) (by kernel_rfl) (by kernel_rfl) (fun _ _ _ h => h) (by rfl) ?ry14 (by assumption) ?rr14
                case ry14 => (intro wz hSw; (try dsimp only at hSw); go_simp; try with_reducible rfl)
                (try simp only [Act.put, List.setIfInBounds_toArray, List.set_cons_zero, List.set_cons_succ])
                refine reg_on (i := 4) (d := 60) (v := ?rv15) rfl rfl (by kernel_rfl) (by kernel_rfl) (by kernel_rfl) (fun _ _ _ h => h) (by rfl) ?ry15 (by assumption) ?rr15
                case ry15 => (intro wz hSw; (try dsimp only at hSw); go_simp; try with_reducible rfl)
                (try simp only [Act.put, List.setIfInBounds_toArray, List.set_cons_zero, List.set_cons_succ])
                refine reg_on (i := 5) (d := 61) (v := ?rv16) rfl rfl (by kernel_rfl) (by kernel_rfl) (by kernel_rfl) (fun _ _ _ h => h) (by rfl) ?ry16 (by assumption) ?rr16
                case ry16 => (intro wz hSw; (try dsimp only at hSw); go_simp; try with_reducible rfl)
                (try simp only [Act.put, List.setIfInBounds_toArray, List.set_cons_zero, List.set_cons_succ])
                refine reg_on (i := 6) (d := 62) (v := ?rv17) rfl rfl (by kernel_rfl) (by kernel_rfl) (by kernel_rfl) (fun _ _ _ h => h) (by rfl) ?ry17 (by assumption) ?rr17
                case ry17 => (intro wz hSw; (try dsimp only at hSw); go_simp; try with_reducible rfl)
                (try simp only [Act.put, List.setIfInBounds_toArray, List.set_cons_zero, List.set_cons_succ])
                refine wpAnyH_ready (rs := [7]) (by kernel_rfl) (by simp) ?_
                refine AllReadyH.cons rfl (fun K hK => ?_) AllReadyH.nil
                go_simp
                go_at_call 56; refine (HBI.out _ (by exact HRQ.out)).mono ?_; rintro e w3 ⟨A3, n3, c3, rfl, o3, hb3⟩; have k0 : w3.cell? ⟨bx, 0, none⟩ = some (.int .i64 x) := (hb3.cell (p := ⟨bx, 0, none⟩) (by exact hbx)).trans (by first | assumption | (go_split_ands; assumption)); have k1 : w3.cell? ⟨bx, 1, none⟩ = some (.int .i64 (yn : Int)) := (hb3.cell (p := ⟨bx, 1, none⟩) (by exact hbx)).trans (by first | assumption | (go_split_ands; assumption)); have k2 : w3.cell? ⟨g, kn, none⟩ = some (.int .i64 ((gv : Int) + 1)) := (hb3.cell (p := ⟨g, kn, none⟩) (by exact hgt5)).trans (by first | assumption | (go_split_ands; assumption)); have k3 : w3.cell? ⟨w1.heap.size, kn, none⟩ = some (.int .i64 (qv : Int)) := (hb3.cell (p := ⟨w1.heap.size, kn, none⟩) (by exact hg25)).trans (by first | assumption | (go_split_ands; assumption))
                refine hK.out _ _ ?_ (fun hHeld => ?_)
                · ((try dsimp only); (repeat' apply And.intro); all_goals ((repeat (first | (with_reducible refine cell_drew ?_) | (with_reducible refine cell_drewN _ ?_) | ((with_reducible refine cell_alloc ?_ ?_); · first | omega | (simp; done) | (simp; omega) | assumption) | ((with_reducible refine cell_set ?_ ?_); · first | (intro e; injection e; omega) | (intro e; simp at e; done) | (intro e; simp at e; omega)))); first | assumption | (simp; done)))
                clear hK K
                (try simp only [Act.put, List.setIfInBounds_toArray, List.set_cons_zero, List.set_cons_succ])
                refine wpAnyH_ready (rs := [8]) (by kernel_rfl) (by simp) ?_
                refine AllReadyH.cons rfl (fun K hK => ?_) AllReadyH.nil
                go_simp
                go_at_call 69; refine (HKB.out _ _ _ _ (Rd.of_own o3)).mono ?_; rintro e wx ⟨rfl, rfl⟩
                refine hK.out _ _ ?_ (fun hHeld => ?_)
                · ((try dsimp only); (repeat' apply And.intro); all_goals ((repeat (first | (with_reducible refine cell_drew ?_) | (with_reducible refine cell_drewN _ ?_) | ((with_reducible refine cell_alloc ?_ ?_); · first | omega | (simp; done) | (simp; omega) | assumption) | ((with_reducible refine cell_set ?_ ?_); · first | (intro e; injection e; omega) | (intro e; simp at e; done) | (intro e; simp at e; omega)))); first | assumption | (simp; done)))
                clear hK K
                (try simp only [Act.put, List.setIfInBounds_toArray, List.set_cons_zero, List.set_cons_succ])
                refine reg_on (i := 9) (d := 12) (v := ?rv20) rfl rfl (by kernel_rfl) (by kernel_rfl) (by kernel_rfl) (fun _ _ _ h => h) (by rfl) ?ry20 (by assumption) ?rr20
                case ry20 => (intro wz hSw; (try dsimp only at hSw); go_simp; try with_reducible rfl)
                (try simp only [Act.put, List.setIfInBounds_toArray, List.set_cons_zero, List.set_cons_succ])
                refine wpAnyH_done (by kernel_rfl) ?_ _
                have hb3w : Below wr.heap.size wr w3 := (Below.refl wr.heap.size wr).drew.trans hb3
                have HB3 := Lib.hid (HBB.out.trans (hb3w.mono sB))
                clear hb3 hb3w o3 tc1 tc2 q0 q1 HBI HKB HBB
                by_cases hgv0 : gv = 0
                · have HSWT : Hid (sw = true) := by simp only [Hid]; rw [HSW.out, hgv0]; simp
                  by_cases hneg : bst < 0
                  · have HN := Lib.hid (HFI.out (qv + 1) HSWT.out rfl hqv6 hneg)
                    go_wp2
                    go_roundw
                    case rel => exact ⟨j + 1, _, by omega, by go_num, by go_num, by omega, HN.out, HB3.out⟩
                    case measure => simp [intOf]; omega
                  · have HN := Lib.hid (HMO.out (qv + 1) HSWT.out rfl (by omega))
                    rw [HGG.out, if_neg HGZ.out] at HN
                    by_cases hls : (qv : Int) + 1 < bst
                    · have HN2 : Hid (BestQ l (j + 1) ((qv : Int) + 1)) := by
                        have h := HN.out
                        rwa [show min bst ((qv + 1 : Nat) : Int) = (qv : Int) + 1 by omega] at h
                      go_wp2
                      go_roundw
                      case rel => exact ⟨j + 1, _, by omega, by go_num, by go_num, by omega, HN2.out, HB3.out⟩
                      case measure => simp [intOf]; omega
                    · have HN2 : Hid (BestQ l (j + 1) bst) := by
                        have h := HN.out
                        rwa [show min bst ((qv + 1 : Nat) : Int) = bst by omega] at h
                      go_wp2
                      go_roundw
                      case rel => exact ⟨j + 1, bst, by omega, by go_num, rfl, by omega, HN2.out, HB3.out⟩
                      case measure => simp [intOf]; omega
                · have HSWF : Hid (sw = false) := by simp only [Hid]; rw [HSW.out]; simp [HGZ.out]; omega
                  have HN := Lib.hid (HSK.out HSWF.out)
                  generalize htv1 : (gv : Int) + 1 = tv at *
                  have htv2 : 1 < tv := by omega
                  clear htv1 hgv0
                  go_wp2
                  go_roundw
                  case rel => exact ⟨j + 1, bst, by omega, by go_num, rfl, by omega, HN.out, HB3.out⟩
                  case measure => simp [intOf]; omega
              · have HLA := Lib.hid (BestQ.last HOK.out (j := j) (by rw [HL5.out]; omega) hbq.out)
                have hlq := own_later HOW5.out hB (Nat.le_refl _)
                have htl2 : ks < lg.length := by have := hlg.out; omega
                have tc2 := hlq.cellAt ks (by omega)
                rw [show (intCells lg)[ks]? = some (.int .i64 lg[ks]) by simp [intCells, htl2]] at tc2
                have tf2 := hlq.frozenAt ks
                have st := hlq.stored ks (.int .i64 (qn l : Nat))
                rw [set_intCells] at st
                have HPQ2 : Hid (TabQ (lg.set ks (qn l : Nat)) Ls (p + 1)) := by
                  have h := HPL.out
                  rw [HKS.out] at h
                  simpa [Hid] using h
                have HTL2 : Hid ((lg.set ks ((qn l : Nat) : Int)).length = 117649) := by simp only [Hid, List.length_set]; exact hlg.out
                have hcq := HCH5.out.trans (Chg.of_below hB (Nat.le_refl _))
                have hcs := hcq.trans (Chg.of_grown (K := fun i => i = w1.heap.size) st.2 (fun q hq => by cases hq; rfl))
                have P := Lib.hid (show (wr.setCell ⟨w1.heap.size, ks, none⟩ (.int .i64 (qn l : Nat))).ownsRow w1.heap.size 3 1 (.slice (some ⟨w1.heap.size, 0, none⟩) 117649 117649) 117649 (intCells (lg.set ks (qn l : Nat))) ∧ Hid (TabQ (lg.set ks (qn l : Nat)) Ls (p + 1)) ∧ Chg (fun i => i = w1.heap.size) w2 (wr.setCell ⟨w1.heap.size, ks, none⟩ (.int .i64 (qn l : Nat))) from ⟨st.1, HPQ2, hcs⟩)
                have HRQ := Lib.hid (Rd.of_own (own_later HRW5.out hB (Nat.le_refl _)))
                generalize lg[ks] = ov at *
                clear hlq htl2 st HPQ2 hcq hcs hbq HPL HBQL HBHL hB
                go_wp2_with fail
                refine (HKC.out _ HRQ.out).mono ?_; rintro e wx ⟨rfl, rfl⟩
                go_wp2_with fail
                refine (l1Most_any _ _ _).mono ?_; rintro e wx ⟨rfl, rfl⟩
                rw [HLA.out]
                go_wp2
                go_roundw
                case rel => exact ⟨p + 1, _, by omega, by go_num, HTL2.out, P.out⟩
                case measure => simp [intOf]; omega
        · have hpm : p = m := by omega
          have hTB := htq.out
          rw [hpm, ← HLL.out] at hTB
          have htv := HTQ.out lg hTB
          have htc := hown.cellAt kl (by omega)
          have hlg2 := hlg.out
          rw [show (intCells lg)[kl]? = some (.int .i64 (qI l0)) by
            have hk2 : kl < lg.length := by rw [hlg2]; exact hkl6
            simp only [intCells, List.getElem?_map, List.getElem?_eq_getElem hk2, Option.map_some]
            rw [← htv, getD_lt hk2]] at htc
          have hRr : Rd wr 1 (some ⟨b, o, none⟩) n (intCells l0) := by
            refine ⟨HR2.out.1, fun hn0 => ?_⟩
            obtain ⟨b', o', e', hl', hc'⟩ := HR2.out.2 hn0
            cases e'
            exact ⟨b, o, rfl, Nat.lt_of_lt_of_le hl' sC, fun j u hj => hch.cell (hc' j u hj) (by show ¬ b = w1.heap.size; omega)⟩
          have HRr := Lib.hid hRr
          have HBZ := Lib.hid (Chg.below hch HB2.out (fun i hi => by have e2 : i = w1.heap.size := hi; have := HB1.out.size; omega))
          clear hpm hTB htv hlg2 hRr hown hch htq
          go_wp2_with fail
          refine (HKC0.out _ HRr.out).mono ?_; rintro e wx ⟨rfl, rfl⟩
          go_wp2
          go_ret2
          exact ⟨by rw [HE.out.1, HE.out.2]; rfl, HBZ.out⟩

end Go.Proofs.Ytclkddehaomdjaa
