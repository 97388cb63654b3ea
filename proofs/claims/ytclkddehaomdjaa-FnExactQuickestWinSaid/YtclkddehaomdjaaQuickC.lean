/-
  Contracts: the closure that finds how many bites there are: lengthFinder$1, remembering$1, lengthFinder; QuickestWin of the program.
-/
import Derived.Test.YtclkddehaomdjaaQuickW
namespace Go.Proofs.Ytclkddehaomdjaa
open Go.RowKit Go.Maps
set_option linter.unusedVariables false

/-- the function that finds it, with the box that it captured -/
abbrev lenV (qb : Nat) : Value := .func (.func 82) #[] #[.pointer (some ⟨qb, 0, none⟩)]
/-- the memory of heaps, in older blocks -/
structure HI (N0 km q1 q2 q3 qb : Nat) (w : World) : Prop where
  size : N0 ≤ w.heap.size
  lt : km < N0 ∧ q1 < N0 ∧ q2 < N0 ∧ q3 < N0 ∧ qb < N0 ∧ qb ≠ km
  mem : ∃ S', HM (fun i => i = km) w km q1 q2 q3 heapV grI S'
  box : w.cell? ⟨qb, 0, none⟩ = some (numV q1 q2 q3)
theorem HM.apart {K K' : Nat → Prop} {w w' : World} {km q1 q2 q3 : Nat} {fv : Value} {g : List Int → Int} {S : List (List Int)} (h : HM K w km q1 q2 q3 fv g S) (hc : Chg K' w w') (h0 : ¬ K' km) (h1 : ¬ K' q1) (h2 : ¬ K' q2) (h3 : ¬ K' q3) : HM K w' km q1 q2 q3 fv g S :=
  ⟨h.map.same (hc.block km h.map.lt h0), hc.cell h.c1 h1, hc.cell h.c2 h2, hc.cell h.c3 h3, h.kk, fun i hi => Nat.lt_of_lt_of_le (h.kb i hi) hc.size, h.k1, h.k2, h.k3⟩
theorem HI.keep {N0 km q1 q2 q3 qb km2 : Nat} (hk : N0 ≤ km2) {w w' : World} (h : HI N0 km q1 q2 q3 qb w) (hs : w.heap.size ≤ w'.heap.size) (hb : ∀ i, i < N0 → i ≠ km2 → w'.heap[i]? = w.heap[i]?) : HI N0 km q1 q2 q3 qb w' := by
  have hl := h.lt
  obtain ⟨S', hm⟩ := h.mem
  have cc : ∀ {q : Nat} {v : Value}, w.cell? ⟨q, 0, none⟩ = some v → q < N0 → w'.cell? ⟨q, 0, none⟩ = some v := fun {q v} hc hq => (World.cell?_of_block (hb q hq (by omega))).trans hc
  exact ⟨Nat.le_trans h.size hs, hl, ⟨S', hm.map.same (hb km hl.1 (by omega)), cc hm.c1 hl.2.1, cc hm.c2 hl.2.2.1, cc hm.c3 hl.2.2.2.1, hm.kk, fun i hi => Nat.lt_of_lt_of_le (hm.kb i hi) hs, hm.k1, hm.k2, hm.k3⟩, cc h.box hl.2.2.2.2.1⟩
theorem HI.below {N0 km q1 q2 q3 qb : Nat} {w w' : World} (h : HI N0 km q1 q2 q3 qb w) {B : Nat} (hb : Below B w w') (hB : w.heap.size ≤ B) : HI N0 km q1 q2 q3 qb w' :=
  HI.keep (km2 := N0) (Nat.le_refl _) h hb.size (fun i hi _ => hb.block i (by have := h.size; omega))
theorem HI.heaps {N0 km q1 q2 q3 qb : Nat} {w w' : World} (h : HI N0 km q1 q2 q3 qb w) (hc : Chg (fun i => i = km) w w') (hm : ∃ S', HM (fun i => i = km) w' km q1 q2 q3 heapV grI S') : HI N0 km q1 q2 q3 qb w' :=
  ⟨Nat.le_trans h.size hc.size, h.lt, hm, hc.cell h.box (by have := h.lt; show ¬ qb = km; omega)⟩

set_option maxRecDepth 100000 in
set_option maxHeartbeats 4000000 in
theorem num_of_len (qb : Nat) (K : Nat → Prop) (km q1 q2 q3 : Nat) (g : List Int → Int) (I : World → Prop) (s : Nat) (hg : ∀ l, ChOK l → (Lit.int .i64 (g l)).wf = true)
    (N0 : Nat) (hN : ∀ w, I w → N0 ≤ w.heap.size) (hI0 : ∀ w w', I w → w.heap.size ≤ w'.heap.size → (∀ i, i < N0 → i ≠ km → w'.heap[i]? = w.heap[i]?) → I w')
    (hF : FindOK K km q1 q2 q3 (lenV qb) 82 #[.pointer (some ⟨qb, 0, none⟩)] g I s) : NumOK K km q1 q2 q3 (lenV qb) g I s := by
  intro l f S w hl hf hs hm hI
  have hIb : ∀ w w', I w → Below w.heap.size w w' → I w' := fun w w' h hb => hI0 w w' h hb.size (fun i hi _ => hb.block i (Nat.lt_of_lt_of_le hi (hN w h)))
  have hIg : ∀ w w', I w → w.grownBy w' (some km) → I w' := fun w w' h hb => hI0 w w' h hb.size (fun i hi hk => hb.block i (Nat.lt_of_lt_of_le hi (hN w h)) (fun e => hk (by cases e; rfl)))
  have hf6 : ∀ j, j < 6 → f j = l.getD j 0 := fun j _ => by rw [hf]
  have hbl : Below w.heap.size w (w.alloc (.cells #[.int .i64 (f 0), .int .i64 (f 1), .int .i64 (f 2), .int .i64 (f 3), .int .i64 (f 4), .int .i64 (f 5)] 47)) := (Below.refl _ _).alloc (Nat.le_refl _) _
  have hbx := BoxF.new w f
  have hm1 := hm.below hbl (Nat.le_refl _)
  have hI1 := hIb _ _ hI hbl
  have hszq : w.heap.size < (w.alloc (.cells #[.int .i64 (f 0), .int .i64 (f 1), .int .i64 (f 2), .int .i64 (f 3), .int .i64 (f 4), .int .i64 (f 5)] 47)).heap.size := by simp
  have hkq : ¬ K w.heap.size := fun e => by have := hm.kb _ e; omega
  have HKB := Lib.hid hm.kb
  obtain ⟨c, hlook, hc⟩ := hm1.map.look hl hf6
  by_cases hin : l ∈ S
  · rw [decide_eq_true hin] at hlook
    have HC := Lib.hid (hc hin)
    have c1 := hm1.c1
    have HP := Lib.hid (show (∃ S', HM K (w.alloc (.cells #[.int .i64 (f 0), .int .i64 (f 1), .int .i64 (f 2), .int .i64 (f 3), .int .i64 (f 4), .int .i64 (f 5)] 47)) km q1 q2 q3 (lenV qb) g S' ∧ ∀ a ∈ S', a ∈ S ∨ a.sum ≤ l.sum) ∧ I (w.alloc (.cells #[.int .i64 (f 0), .int .i64 (f 1), .int .i64 (f 2), .int .i64 (f 3), .int .i64 (f 4), .int .i64 (f 5)] 47)) ∧ Chg K w (w.alloc (.cells #[.int .i64 (f 0), .int .i64 (f 1), .int .i64 (f 2), .int .i64 (f 3), .int .i64 (f 4), .int .i64 (f 5)] 47)) from ⟨⟨S, hm1, fun a ha => .inl ha⟩, hI1, Chg.of_below hbl (Nat.le_refl _)⟩)
    clear hf hm hI hbl hbx hm1 hI1 hc hin hF hIb hIg hf6 hI0 hN
    go_enter Try.func85, Try.ntmps85
    go_wp2
    go_ret
    exact ⟨by rw [HC.out]; rfl, HP.out⟩
  · rw [decide_eq_false hin] at hlook
    have c1 := hm1.c1
    have c2 := hm1.c2
    have c3 := hm1.c3
    have HFI := Lib.hid (hF l f S _ hl hf hs hm1 hI1)
    have HBX := Lib.hid hbx
    have HIN := Lib.hid hin
    have HBL := Lib.hid hbl
    have HF6 := Lib.hid hf6
    have HG := Lib.hid (hg l hl)
    have HIG := Lib.hid hIg
    clear hf hm hI hbl hbx hm1 hI1 hc hin hF hIb hf6 hIg hI0 hN
    go_enter Try.func85, Try.ntmps85
    go_wp2_with fail
    refine (HFI.out).mono ?_; rintro e w2 ⟨rfl, ⟨S2, hm2, hS2⟩, hI2, hch⟩
    have hn2 : l ∉ S2 := fun h => by
      rcases hS2 l h with q | q
      · exact HIN.out q
      · omega
    obtain ⟨w3, hput, hmap3, hg3⟩ := hm2.map.put hl HF6.out hn2 HG.out
    have hbx2 : BoxF w2 w.heap.size f := hch.own HBX.out (fun g hgg => by cases hgg; exact hkq)
    obtain ⟨e0, e1, e2, e3, e4, e5⟩ := hbx2.cells
    have d1 := hm2.c1
    have HP : Hid ((∃ S', HM K w3 km q1 q2 q3 (lenV qb) g S' ∧ ∀ a ∈ S', a ∈ S ∨ a.sum ≤ l.sum) ∧ I w3 ∧ Chg K w w3) := ⟨⟨S2 ++ [l], hm2.put hg3 hmap3, fun a ha => by
      rcases List.mem_append.1 ha with q | q
      · rcases hS2 a q with r | r
        · exact .inl r
        · exact .inr (by omega)
      · simp at q; subst q; exact .inr (Int.le_refl _)⟩, HIG.out _ _ hI2 hg3, ((Chg.of_below HBL.out (Nat.le_refl _)).trans hch).trans (Chg.of_grown hg3 (fun q hq => by cases hq; exact hm2.kk))⟩
    clear hm2 hS2 hI2 hch hbx2 hmap3 hg3 HBX HIN HBL HF6 HG HIG HFI hn2
    go_wp2
    go_ret
    exact ⟨rfl, HP.out⟩


set_option maxRecDepth 100000 in
set_option maxHeartbeats 8000000 in
theorem find_of_len (K : Nat → Prop) (km2 p1 p2 p3 N0 km q1 q2 q3 qb : Nat) (s : Nat) (hKm : K km) (hne : km ≠ km2 ∧ km ≠ p1 ∧ km ≠ p2 ∧ km ≠ p3) (hN2 : N0 ≤ km2)
    (hNum : NumOK K km2 p1 p2 p3 (lenV qb) qI (HI N0 km q1 q2 q3 qb) s) : FindOK K km2 p1 p2 p3 (lenV qb) 82 #[.pointer (some ⟨qb, 0, none⟩)] qI (HI N0 km q1 q2 q3 qb) (s + 1) := by
  intro l f S w hl hf hs hm hI
  show Calls Try.prog 82 #[arrF f, numV p1 p2 p3, .pointer (some ⟨qb, 0, none⟩)] w _
  have hfl : Fall f := by rw [hf]; exact hl.fall
  have hf1 : 1 ≤ f 0 := by rw [hf]; exact hl.ge1 hl.1
  have hbl : Below w.heap.size w (w.alloc (.cells #[.int .i64 (f 0), .int .i64 (f 1), .int .i64 (f 2), .int .i64 (f 3), .int .i64 (f 4), .int .i64 (f 5)] 47)) := (Below.refl _ _).alloc (Nat.le_refl _) _
  have hbx := BoxF.new w f
  have HKB := Lib.hid hm.kb
  have hkmw : km < w.heap.size := by have := hI.lt; have := hI.size; omega
  have hIb := hI.below hbl (Nat.le_refl _)
  have hmb := hm.below hbl (Nat.le_refl _)
  obtain ⟨S0, hm0⟩ := hIb.mem
  have HW := Lib.hid (isWon_any (fun i => i = km) km q1 q2 q3 l f S0 _ hl hf hm0)
  have cqb := hIb.box
  have HL := Lib.hid hl
  have HF := Lib.hid hf
  have HFL := Lib.hid hfl
  have HF1 := Lib.hid hf1
  have HBX := Lib.hid hbx
  have HBL := Lib.hid hbl
  have HMB := Lib.hid hmb
  have HIB := Lib.hid hIb
  have HNUM := Lib.hid hNum
  have HS := Lib.hid hs
  obtain ⟨c0, c1, c2, c3, c4, c5⟩ := hbx.cells
  have HQS := Lib.hid (qn_step hl)
  have HKN : Hid (∀ q, w.heap.size ≤ q → ¬ K q) := fun q hq e => by have := HKB.out q e; omega
  have hgr : decide (0 < grI l) = !decide (gr l = 0) := by
    unfold grI
    by_cases e : gr l = 0
    · simp [e]
    · simp [e]; omega
  by_cases h0 : gr l = 0
  · rw [hgr, decide_eq_true h0] at HW
    have HVV : Hid (qn l = ((mvL l).map fun p => qn (biteL l p.1 p.2) + 1).foldl max 0) := by
      have h := HQS.out
      unfold foldQ qV at h
      rw [if_pos h0, selM_lost h0] at h
      exact h
    clear hfl hf1 hbl hbx hm hI hmb hIb hm0 hl hf hNum hs hgr h0 HQS
    go_enter Try.func82, Try.ntmps82
    go_wp2_with fail
    refine (HW.out).mono ?_; rintro e w1 ⟨rfl, hm1, hch1⟩
    have hx1 : BoxF w1 w.heap.size f := hch1.own HBX.out (fun q hq e => by cases hq; have e2 : w.heap.size = km := e; omega)
    have s1 : w.heap.size ≤ w1.heap.size := Nat.le_trans HBL.out.size hch1.size
    have HM1 := Lib.hid (HMB.out.apart hch1 (fun e => hne.1 e.symm) (fun e => hne.2.1 e.symm) (fun e => hne.2.2.1 e.symm) (fun e => hne.2.2.2 e.symm))
    have hI1 := HIB.out.heaps hch1 hm1
    have HCH1 := Lib.hid ((Chg.of_below (K := K) HBL.out (Nat.le_refl _)).trans (hch1.more (fun i hi => by have e : i = km := hi; rw [e]; exact hKm)))
    obtain ⟨d0, d1, d2, d3, d4, d5⟩ := hx1.cells
    have cq1 := hI1.box
    have HX1 := Lib.hid hx1
    have HI1 := Lib.hid hI1
    clear c0 c1 c2 c3 c4 c5 cqb hx1 hI1 hch1 hm1 HW
    go_wp2_with fail
    refine (bitesOf_any f _ HFL.out HF1.out).mono ?_; rintro e w2 ⟨Ab, n, cb, rfl, h35, hL, hown, hb2⟩
    have HX2 := Lib.hid (HX1.out.below hb2 (Nat.le_refl _))
    have HM2 := Lib.hid (HM1.out.below hb2 (Nat.le_refl _))
    have HI2 := Lib.hid (HI1.out.below hb2 (Nat.le_refl _))
    have HCH2 := Lib.hid (HCH1.out.trans (Chg.of_below hb2 (Nat.le_refl _)))
    have HOB := Lib.hid (own_base hown s1)
    have hM : mv f 6 = mvL l := by rw [HF.out]; rfl
    rw [hM] at hL HOB
    have HCAN : Hid (∀ p ∈ mvL l, canC l p.1 p.2 = true) := fun p hp => mvL_can HL.out hp
    generalize mvL l = M at *
    have hn36 : n ≤ 36 := by omega
    clear hown hb2 hM d0 d1 d2 d3 d4 d5 cq1 HX1 HM1 HI1 HCH1 h35
    have HLL := Lib.hid hL
    clear hL
    generalize hvs : (M.map fun p => qn (biteL l p.1 p.2) + 1) = vs at *
    have HVS : Hid (∀ k (hk : k < M.length), vs.take (k + 1) = vs.take k ++ [qn (biteL l (M[k]).1 (M[k]).2) + 1]) := fun k hk => by
      rw [← hvs, List.take_succ_eq_append_getElem (by simpa using hk)]
      simp
    have HVL : Hid (vs.length = n) := by simp only [Hid]; rw [← hvs, List.length_map]; exact HLL.out
    have HV36 : Hid (∀ k, (vs.take k).foldl max 0 ≤ 36) := fun k => foldl_max_le (Nat.zero_le _) (fun v hv => by
      have hm := List.mem_of_mem_take hv
      rw [← hvs] at hm
      obtain ⟨p, hp, rfl⟩ := List.mem_map.1 hm
      have := qn_bite HL.out (HCAN.out p hp)
      omega)
    clear hvs
    go_wp2
    go_loopw [6, 19] (fun v i wr => ∃ k : Nat, k ≤ n ∧ i = .int .i64 k ∧ v = .int .i64 (((vs.take k).foldl max 0 : Nat) : Int) ∧ wr.ownsRow w.heap.size 59 2 (.slice Ab n cb) n (pairCells M) ∧ BoxF wr w.heap.size f ∧ (∃ S', HM K wr km2 p1 p2 p3 (lenV qb) qI S' ∧ ∀ a ∈ S', a ∈ S ∨ a.sum < l.sum) ∧ HI N0 km q1 q2 q3 qb wr ∧ Chg K w wr) (fun _ i _ => n - (intOf i).toNat)
    case atStart => exact ⟨0, Nat.zero_le _, rfl, rfl, HOB.out, HX2.out, ⟨S, HM2.out, fun a ha => .inl ha⟩, HI2.out, HCH2.out⟩
    case round =>
      clear HX2 HM2 HI2 HOB HCH2
      obtain ⟨k, hk, rfl, rfl, hob, hbx, ⟨S', hm, hS'⟩, hI, hch⟩ := hrel
      have sw := hch.size
      by_cases hlt : k < n
      · obtain ⟨b, o, rfl, hbl, hx, p0, p1'⟩ := (Rd.of_own hob).pair hlt
        have hcan := HCAN.out _ (List.getElem_mem hx)
        have HT := Lib.hid (HVS.out k hx)
        have hqv := HV36.out k
        generalize (M[k]).1 = x at *
        generalize (M[k]).2 = y at *
        have h5 := canC_true hcan
        obtain ⟨yn, rfl⟩ : ∃ yn : Nat, y = yn := ⟨y.toNat, by omega⟩
        have yn6 : yn < 6 := by omega
        have HEF : Hid (eatF f x yn = fl (biteL l x yn)) := by
          have h := biteL_fun' HL.out hcan
          simp only [Int.toNat_natCast] at h
          simp only [Hid]
          rw [HF.out]
          exact h
        have HBOK := Lib.hid (biteL_ok HL.out hcan)
        have HBS := Lib.hid (biteL_sum HL.out hcan)
        have hqb := qn_bite HL.out hcan
        have HEA := Lib.hid (fun wx => eat_any f x yn wx yn6)
        clear hcan h5 hx
        have hba : Below wr.heap.size wr (wr.alloc (.cells #[.int .i64 x, .int .i64 (yn : Int)] 59)) := (Below.refl _ _).alloc (Nat.le_refl _) _
        have hbxa := hbx.below hba (Nat.le_refl _)
        obtain ⟨c0, c1, c2, c3, c4, c5⟩ := hbxa.cells
        have HBA := Lib.hid hba
        have HBXA := Lib.hid hbxa
        have HOB := Lib.hid hob
        have HMR := Lib.hid hm
        have HSR := Lib.hid hS'
        have HIR := Lib.hid hI
        have HCH := Lib.hid hch
        clear hba hbxa hob hbx hm hS' hI hch
        go_wp2_with fail
        refine (HEA.out _).mono ?_; rintro e w3 ⟨rfl, hb3⟩
        have hb30 : Below wr.heap.size wr w3 := HBA.out.trans (hb3.mono HBA.out.size)
        have HNU := Lib.hid (HNUM.out (biteL l x yn) (eatF f x yn) S' w3 HBOK.out HEF.out (by have := HBS.out; have := HS.out; omega) (HMR.out.below hb30 (Nat.le_refl _)) (HIR.out.below hb30 (Nat.le_refl _)))
        have HB30 := Lib.hid hb30
        have HX3 := Lib.hid (HBXA.out.below hb3 (Nat.le_refl _))
        clear hb3 hb30 c0 c1 c2 c3 c4 c5 HEA
        go_wp2_with fail
        refine (HNU.out).mono ?_; rintro e w4 ⟨rfl, ⟨S4, hm4, hS4⟩, hI4, hch4⟩
        have s4 := hch4.size
        have s3 := HB30.out.size
        have hob4 := hch4.own (own_later HOB.out HB30.out (Nat.le_refl _)) (fun q hq => HKN.out q (HOB.out.lt q hq).1)
        have hbx4 : BoxF w4 w.heap.size f := hch4.own HX3.out (fun q hq => by cases hq; exact HKN.out _ (Nat.le_refl _))
        have hc4 := (HCH.out.trans (Chg.of_below HB30.out (Nat.le_refl _))).trans hch4
        have hS5 : ∀ a ∈ S4, a ∈ S ∨ a.sum < l.sum := fun a ha => by
          rcases hS4 a ha with q | q
          · exact HSR.out a q
          · exact .inr (by have := HBS.out; omega)
        have HFO : Hid ((vs.take (k + 1)).foldl max 0 = max ((vs.take k).foldl max 0) (qn (biteL l x yn) + 1)) := by
          simp only [Hid]; rw [HT.out]; exact fold_snoc_max _ _ _
        have P4 := Lib.hid (show w4.ownsRow w.heap.size 59 2 (.slice (some ⟨b, o, none⟩) n cb) n (pairCells M) ∧ BoxF w4 w.heap.size f ∧ (∃ S', HM K w4 km2 p1 p2 p3 (lenV qb) qI S' ∧ ∀ a ∈ S', a ∈ S ∨ a.sum < l.sum) ∧ HI N0 km q1 q2 q3 qb w4 ∧ Chg K w w4 from ⟨hob4, hbx4, ⟨S4, hm4, hS5⟩, hI4, hc4⟩)
        rw [show qI (biteL l x yn) = ((qn (biteL l x yn) : Nat) : Int) from rfl]
        clear hob4 hbx4 hm4 hS4 hI4 hc4 hS5 hch4 HNU HOB HMR HSR HIR HCH
        generalize qn (biteL l x yn) = qv at *
        generalize (vs.take k).foldl max 0 = fv at *
        go_wp2
        go_roundw
        case rel => exact ⟨k + 1, by omega, by go_num, by rw [HFO.out]; go_num, P4.out⟩
        case measure => simp [intOf]; omega
      · have htk : vs.take k = vs := List.take_of_length_le (by rw [HVL.out]; omega)
        rw [htk, ← HVV.out]
        have P := Lib.hid (show (∃ S', HM K wr km2 p1 p2 p3 (lenV qb) qI S' ∧ ∀ a ∈ S', a ∈ S ∨ a.sum < l.sum) ∧ HI N0 km q1 q2 q3 qb wr ∧ Chg K w wr from ⟨⟨S', hm, hS'⟩, hI, hch⟩)
        clear htk hob hbx hm hS' hI hch
        go_wp2
        go_ret
        exact ⟨rfl, P.out⟩
  · rw [hgr, decide_eq_false h0] at HW
    have HVV : Hid (qn l = ((gbL l).map fun p => qn (biteL l p.1 p.2) + 1).foldl min 36) := by
      have h := HQS.out
      unfold foldQ qV at h
      rw [if_neg h0, selM_won h0] at h
      exact h
    clear hfl hf1 hbl hbx hm hI hmb hIb hm0 hl hf hNum hs hgr h0 HQS
    go_enter Try.func82, Try.ntmps82
    go_wp2_with fail
    refine (HW.out).mono ?_; rintro e w1 ⟨rfl, hm1, hch1⟩
    have hx1 : BoxF w1 w.heap.size f := hch1.own HBX.out (fun q hq e => by cases hq; have e2 : w.heap.size = km := e; omega)
    have s1 : w.heap.size ≤ w1.heap.size := Nat.le_trans HBL.out.size hch1.size
    have HM1 := Lib.hid (HMB.out.apart hch1 (fun e => hne.1 e.symm) (fun e => hne.2.1 e.symm) (fun e => hne.2.2.1 e.symm) (fun e => hne.2.2.2 e.symm))
    have hI1 := HIB.out.heaps hch1 hm1
    have HCH1 := Lib.hid ((Chg.of_below (K := K) HBL.out (Nat.le_refl _)).trans (hch1.more (fun i hi => by have e : i = km := hi; rw [e]; exact hKm)))
    obtain ⟨d0, d1, d2, d3, d4, d5⟩ := hx1.cells
    have cq1 := hI1.box
    have HX1 := Lib.hid hx1
    have HI1 := Lib.hid hI1
    clear c0 c1 c2 c3 c4 c5 cqb hx1 hI1 hch1 hm1 HW
    obtain ⟨S1, hm1⟩ := HI1.out.mem
    have HG := Lib.hid (goodBites_any (fun i => i = km) km q1 q2 q3 l f S1 _ HL.out HF.out hm1)
    clear hm1
    go_wp2_with fail
    refine (HG.out).mono ?_; rintro e w2 ⟨Ab, n, cb, rfl, hL, hn36, hown, hm2, hch2⟩
    have HX2 : Hid (BoxF w2 w.heap.size f) := hch2.own HX1.out (fun q hq e => by cases hq; have e2 : w.heap.size = km := e; omega)
    have HM2 := Lib.hid (HM1.out.apart hch2 (fun e => hne.1 e.symm) (fun e => hne.2.1 e.symm) (fun e => hne.2.2.1 e.symm) (fun e => hne.2.2.2 e.symm))
    have HI2 := Lib.hid (HI1.out.heaps hch2 hm2)
    have HCH2 := Lib.hid (HCH1.out.trans (hch2.more (fun i hi => by have e : i = km := hi; rw [e]; exact hKm)))
    have HOB := Lib.hid (own_base hown s1)
    have HCAN : Hid (∀ p ∈ gbL l, canC l p.1 p.2 = true) := fun p hp => mvL_can HL.out (List.mem_filter.1 hp).1
    generalize gbL l = M at *
    clear hown hch2 hm2 d0 d1 d2 d3 d4 d5 cq1 HX1 HM1 HI1 HCH1 HG
    have HLL := Lib.hid hL
    clear hL
    generalize hvs : (M.map fun p => qn (biteL l p.1 p.2) + 1) = vs at *
    have HVS : Hid (∀ k (hk : k < M.length), vs.take (k + 1) = vs.take k ++ [qn (biteL l (M[k]).1 (M[k]).2) + 1]) := fun k hk => by
      rw [← hvs, List.take_succ_eq_append_getElem (by simpa using hk)]
      simp
    have HVL : Hid (vs.length = n) := by simp only [Hid]; rw [← hvs, List.length_map]; exact HLL.out
    have HV36 : Hid (∀ k, (vs.take k).foldl min 36 ≤ 36) := fun k => foldl_min_a
    clear hvs
    go_wp2
    go_loopw [9, 37] (fun v i wr => ∃ k : Nat, k ≤ n ∧ i = .int .i64 k ∧ v = .int .i64 (((vs.take k).foldl min 36 : Nat) : Int) ∧ wr.ownsRow w.heap.size 59 2 (.slice Ab n cb) n (pairCells M) ∧ BoxF wr w.heap.size f ∧ (∃ S', HM K wr km2 p1 p2 p3 (lenV qb) qI S' ∧ ∀ a ∈ S', a ∈ S ∨ a.sum < l.sum) ∧ HI N0 km q1 q2 q3 qb wr ∧ Chg K w wr) (fun _ i _ => n - (intOf i).toNat)
    case atStart => exact ⟨0, Nat.zero_le _, rfl, rfl, HOB.out, HX2.out, ⟨S, HM2.out, fun a ha => .inl ha⟩, HI2.out, HCH2.out⟩
    case round =>
      clear HX2 HM2 HI2 HOB HCH2
      obtain ⟨k, hk, rfl, rfl, hob, hbx, ⟨S', hm, hS'⟩, hI, hch⟩ := hrel
      have sw := hch.size
      by_cases hlt : k < n
      · obtain ⟨b, o, rfl, hbl, hx, p0, p1'⟩ := (Rd.of_own hob).pair hlt
        have hcan := HCAN.out _ (List.getElem_mem hx)
        have HT := Lib.hid (HVS.out k hx)
        have hqv := HV36.out k
        generalize (M[k]).1 = x at *
        generalize (M[k]).2 = y at *
        have h5 := canC_true hcan
        obtain ⟨yn, rfl⟩ : ∃ yn : Nat, y = yn := ⟨y.toNat, by omega⟩
        have yn6 : yn < 6 := by omega
        have HEF : Hid (eatF f x yn = fl (biteL l x yn)) := by
          have h := biteL_fun' HL.out hcan
          simp only [Int.toNat_natCast] at h
          simp only [Hid]
          rw [HF.out]
          exact h
        have HBOK := Lib.hid (biteL_ok HL.out hcan)
        have HBS := Lib.hid (biteL_sum HL.out hcan)
        have hqb := qn_bite HL.out hcan
        have HEA := Lib.hid (fun wx => eat_any f x yn wx yn6)
        clear hcan h5 hx
        have hba : Below wr.heap.size wr (wr.alloc (.cells #[.int .i64 x, .int .i64 (yn : Int)] 59)) := (Below.refl _ _).alloc (Nat.le_refl _) _
        have hbxa := hbx.below hba (Nat.le_refl _)
        obtain ⟨c0, c1, c2, c3, c4, c5⟩ := hbxa.cells
        have HBA := Lib.hid hba
        have HBXA := Lib.hid hbxa
        have HOB := Lib.hid hob
        have HMR := Lib.hid hm
        have HSR := Lib.hid hS'
        have HIR := Lib.hid hI
        have HCH := Lib.hid hch
        clear hba hbxa hob hbx hm hS' hI hch
        go_wp2_with fail
        refine (HEA.out _).mono ?_; rintro e w3 ⟨rfl, hb3⟩
        have hb30 : Below wr.heap.size wr w3 := HBA.out.trans (hb3.mono HBA.out.size)
        have HNU := Lib.hid (HNUM.out (biteL l x yn) (eatF f x yn) S' w3 HBOK.out HEF.out (by have := HBS.out; have := HS.out; omega) (HMR.out.below hb30 (Nat.le_refl _)) (HIR.out.below hb30 (Nat.le_refl _)))
        have HB30 := Lib.hid hb30
        have HX3 := Lib.hid (HBXA.out.below hb3 (Nat.le_refl _))
        clear hb3 hb30 c0 c1 c2 c3 c4 c5 HEA
        go_wp2_with fail
        refine (HNU.out).mono ?_; rintro e w4 ⟨rfl, ⟨S4, hm4, hS4⟩, hI4, hch4⟩
        have s4 := hch4.size
        have s3 := HB30.out.size
        have hob4 := hch4.own (own_later HOB.out HB30.out (Nat.le_refl _)) (fun q hq => HKN.out q (HOB.out.lt q hq).1)
        have hbx4 : BoxF w4 w.heap.size f := hch4.own HX3.out (fun q hq => by cases hq; exact HKN.out _ (Nat.le_refl _))
        have hc4 := (HCH.out.trans (Chg.of_below HB30.out (Nat.le_refl _))).trans hch4
        have hS5 : ∀ a ∈ S4, a ∈ S ∨ a.sum < l.sum := fun a ha => by
          rcases hS4 a ha with q | q
          · exact HSR.out a q
          · exact .inr (by have := HBS.out; omega)
        have HFO : Hid ((vs.take (k + 1)).foldl min 36 = min ((vs.take k).foldl min 36) (qn (biteL l x yn) + 1)) := by
          simp only [Hid]; rw [HT.out]; exact fold_snoc_min _ _ _
        have P4 := Lib.hid (show w4.ownsRow w.heap.size 59 2 (.slice (some ⟨b, o, none⟩) n cb) n (pairCells M) ∧ BoxF w4 w.heap.size f ∧ (∃ S', HM K w4 km2 p1 p2 p3 (lenV qb) qI S' ∧ ∀ a ∈ S', a ∈ S ∨ a.sum < l.sum) ∧ HI N0 km q1 q2 q3 qb w4 ∧ Chg K w w4 from ⟨hob4, hbx4, ⟨S4, hm4, hS5⟩, hI4, hc4⟩)
        rw [show qI (biteL l x yn) = ((qn (biteL l x yn) : Nat) : Int) from rfl]
        clear hob4 hbx4 hm4 hS4 hI4 hc4 hS5 hch4 HNU HOB HMR HSR HIR HCH
        generalize qn (biteL l x yn) = qv at *
        generalize (vs.take k).foldl min 36 = fv at *
        go_wp2
        go_roundw
        case rel => exact ⟨k + 1, by omega, by go_num, by rw [HFO.out]; go_num, P4.out⟩
        case measure => simp [intOf]; omega
      · have htk : vs.take k = vs := List.take_of_length_le (by rw [HVL.out]; omega)
        rw [htk, ← HVV.out]
        have P := Lib.hid (show (∃ S', HM K wr km2 p1 p2 p3 (lenV qb) qI S' ∧ ∀ a ∈ S', a ∈ S ∨ a.sum < l.sum) ∧ HI N0 km q1 q2 q3 qb wr ∧ Chg K w wr from ⟨⟨S', hm, hS'⟩, hI, hch⟩)
        clear htk hob hbx hm hS' hI hch
        go_wp2
        go_ret
        exact ⟨rfl, P.out⟩

end Go.Proofs.Ytclkddehaomdjaa
