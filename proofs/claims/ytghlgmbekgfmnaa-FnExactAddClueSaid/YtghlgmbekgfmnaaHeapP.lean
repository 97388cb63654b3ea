/-
  Contracts: the closures that find heaps: heapFinder$1, remembering$1, heapFinder.
-/
import Derived.Test.YtghlgmbekgfmnaaHeapW
namespace Go.Proofs.Ytghlgmbekgfmnaa
open Go.RowKit Go.Maps
set_option linter.unusedVariables false

/-- the function that remembers, with the boxes that it captured -/
abbrev numV (q1 q2 q3 : Nat) : Value := .func (.func 120) #[] #[.pointer (some ⟨q1, 0, none⟩), .pointer (some ⟨q2, 0, none⟩), .pointer (some ⟨q3, 0, none⟩)]
/-- its memory -/
structure HM (K : Nat → Prop) (w : World) (km q1 q2 q3 : Nat) (fv : Value) (g : List Int → Int) (S : List (List Int)) : Prop where
  map : MapC w km g S
  c1 : w.cell? ⟨q1, 0, none⟩ = some (.map (some km))
  c2 : w.cell? ⟨q2, 0, none⟩ = some fv
  c3 : w.cell? ⟨q3, 0, none⟩ = some (numV q1 q2 q3)
  kk : K km
  kb : ∀ i, K i → i < w.heap.size
  k1 : ¬ K q1
  k2 : ¬ K q2
  k3 : ¬ K q3
theorem HM.below {K : Nat → Prop} {w w' : World} {km q1 q2 q3 : Nat} {fv : Value} {g : List Int → Int} {S : List (List Int)} (h : HM K w km q1 q2 q3 fv g S) {B : Nat} (hb : Below B w w') (hB : w.heap.size ≤ B) : HM K w' km q1 q2 q3 fv g S := by
  have hl : ∀ {a : Addr} {v : Value}, w.cell? a = some v → w'.cell? a = some v := fun {a v} hc => (World.cell?_of_block (hb.block a.block (Nat.lt_of_lt_of_le (World.block_lt_of_cell? w _ hc) hB))).trans hc
  exact ⟨h.map.same (hb.block km (Nat.lt_of_lt_of_le h.map.lt hB)), hl h.c1, hl h.c2, hl h.c3, h.kk, fun i hi => Nat.lt_of_lt_of_le (h.kb i hi) hb.size, h.k1, h.k2, h.k3⟩
/-- growth beside a row that is no part of it -/
theorem HM.grown {K : Nat → Prop} {w w' : World} {km q1 q2 q3 : Nat} {fv : Value} {g : List Int → Int} {S : List (List Int)} (h : HM K w km q1 q2 q3 fv g S) {r : Option Nat} (hg : w.grownBy w' r) (hr : ∀ q, r = some q → q ≠ km ∧ q ≠ q1 ∧ q ≠ q2 ∧ q ≠ q3) : HM K w' km q1 q2 q3 fv g S := by
  have hl : ∀ {q : Nat} {v : Value}, w.cell? ⟨q, 0, none⟩ = some v → r ≠ some q → w'.cell? ⟨q, 0, none⟩ = some v := fun {q v} hc hq => (World.cell?_of_block (hg.block q (World.block_lt_of_cell? w _ hc) (fun e => hq e.symm))).trans hc
  exact ⟨h.map.same (hg.block km h.map.lt (fun e => (hr km e.symm).1 rfl)), hl h.c1 (fun e => (hr q1 e).2.1 rfl), hl h.c2 (fun e => (hr q2 e).2.2.1 rfl), hl h.c3 (fun e => (hr q3 e).2.2.2 rfl), h.kk, fun i hi => Nat.lt_of_lt_of_le (h.kb i hi) hg.size, h.k1, h.k2, h.k3⟩
/-- a new number in the map -/
theorem HM.put {K : Nat → Prop} {w w' : World} {km q1 q2 q3 : Nat} {fv : Value} {g : List Int → Int} {S S' : List (List Int)} (h : HM K w km q1 q2 q3 fv g S) (hg : w.grownBy w' (some km)) (hm : MapC w' km g S') : HM K w' km q1 q2 q3 fv g S' := by
  have hl : ∀ {q : Nat} {v : Value}, w.cell? ⟨q, 0, none⟩ = some v → ¬ K q → w'.cell? ⟨q, 0, none⟩ = some v := fun {q v} hc hq => (World.cell?_of_block (hg.block q (World.block_lt_of_cell? w _ hc) (fun e => hq (by cases e; exact h.kk)))).trans hc
  exact ⟨hm, hl h.c1 h.k1, hl h.c2 h.k2, hl h.c3 h.k3, h.kk, fun i hi => Nat.lt_of_lt_of_le (h.kb i hi) hg.size, h.k1, h.k2, h.k3⟩

/-- the function that remembers answers right for at most s squares -/
def NumOK (K : Nat → Prop) (km q1 q2 q3 : Nat) (fv : Value) (g : List Int → Int) (I : World → Prop) (s : Nat) : Prop :=
  ∀ (l : List Int) (f : Nat → Int) (S : List (List Int)) (w : World), ChOK l → f = fl l → l.sum ≤ s → HM K w km q1 q2 q3 fv g S → I w →
    Calls Try.prog 120 #[arrF f, .pointer (some ⟨q1, 0, none⟩), .pointer (some ⟨q2, 0, none⟩), .pointer (some ⟨q3, 0, none⟩)] w fun e w' => e = .returned (.int .i64 (g l)) ∧ (∃ S', HM K w' km q1 q2 q3 fv g S' ∧ ∀ a ∈ S', a ∈ S ∨ a.sum ≤ l.sum) ∧ I w' ∧ Chg K w w'
/-- and so does what it calls -/
def FindOK (K : Nat → Prop) (km q1 q2 q3 : Nat) (fv : Value) (k : Nat) (cap : Array Value) (g : List Int → Int) (I : World → Prop) (s : Nat) : Prop :=
  ∀ (l : List Int) (f : Nat → Int) (S : List (List Int)) (w : World), ChOK l → f = fl l → l.sum ≤ s → HM K w km q1 q2 q3 fv g S → I w →
    Calls Try.prog k (#[arrF f, numV q1 q2 q3] ++ cap) w fun e w' => e = .returned (.int .i64 (g l)) ∧ (∃ S', HM K w' km q1 q2 q3 fv g S' ∧ ∀ a ∈ S', a ∈ S ∨ a.sum < l.sum) ∧ I w' ∧ Chg K w w'

set_option maxRecDepth 100000 in
set_option maxHeartbeats 4000000 in
theorem num_of_find (K : Nat → Prop) (km q1 q2 q3 : Nat) (g : List Int → Int) (I : World → Prop) (s : Nat) (hg : ∀ l, ChOK l → (Lit.int .i64 (g l)).wf = true)
    (N0 : Nat) (hN : ∀ w, I w → N0 ≤ w.heap.size) (hI0 : ∀ w w', I w → w.heap.size ≤ w'.heap.size → (∀ i, i < N0 → i ≠ km → w'.heap[i]? = w.heap[i]?) → I w')
    (hF : FindOK K km q1 q2 q3 (.func (.func 113) #[] #[]) 113 #[] g I s) : NumOK K km q1 q2 q3 (.func (.func 113) #[] #[]) g I s := by
  intro l f S w hl hf hs hm hI
  have hIb : ∀ w w', I w → Below w.heap.size w w' → I w' := fun w w' h hb => hI0 w w' h hb.size (fun i hi _ => hb.block i (Nat.lt_of_lt_of_le hi (hN w h)))
  have hIg : ∀ w w', I w → w.grownBy w' (some km) → I w' := fun w w' h hb => hI0 w w' h hb.size (fun i hi hk => hb.block i (Nat.lt_of_lt_of_le hi (hN w h)) (fun e => hk (by cases e; rfl)))
  have hf6 : ∀ j, j < 6 → f j = l.getD j 0 := fun j _ => by rw [hf]
  have hbl : Below w.heap.size w (w.alloc (.cells #[.int .i64 (f 0), .int .i64 (f 1), .int .i64 (f 2), .int .i64 (f 3), .int .i64 (f 4), .int .i64 (f 5)] 73)) := (Below.refl _ _).alloc (Nat.le_refl _) _
  have hbx := BoxF.new w f
  have hm1 := hm.below hbl (Nat.le_refl _)
  have hI1 := hIb _ _ hI hbl
  have hszq : w.heap.size < (w.alloc (.cells #[.int .i64 (f 0), .int .i64 (f 1), .int .i64 (f 2), .int .i64 (f 3), .int .i64 (f 4), .int .i64 (f 5)] 73)).heap.size := by simp
  have hkq : ¬ K w.heap.size := fun e => by have := hm.kb _ e; omega
  have HKB := Lib.hid hm.kb
  obtain ⟨c, hlook, hc⟩ := hm1.map.look hl hf6
  by_cases hin : l ∈ S
  · rw [decide_eq_true hin] at hlook
    have HC := Lib.hid (hc hin)
    have c1 := hm1.c1
    have HP := Lib.hid (show (∃ S', HM K (w.alloc (.cells #[.int .i64 (f 0), .int .i64 (f 1), .int .i64 (f 2), .int .i64 (f 3), .int .i64 (f 4), .int .i64 (f 5)] 73)) km q1 q2 q3 (.func (.func 113) #[] #[]) g S' ∧ ∀ a ∈ S', a ∈ S ∨ a.sum ≤ l.sum) ∧ I (w.alloc (.cells #[.int .i64 (f 0), .int .i64 (f 1), .int .i64 (f 2), .int .i64 (f 3), .int .i64 (f 4), .int .i64 (f 5)] 73)) ∧ Chg K w (w.alloc (.cells #[.int .i64 (f 0), .int .i64 (f 1), .int .i64 (f 2), .int .i64 (f 3), .int .i64 (f 4), .int .i64 (f 5)] 73)) from ⟨⟨S, hm1, fun a ha => .inl ha⟩, hI1, Chg.of_below hbl (Nat.le_refl _)⟩)
    clear hf hm hI hbl hbx hm1 hI1 hc hin hF hIb hIg hf6 hI0 hN
    go_enter Try.func120, Try.ntmps120
    go_wp2
    go_ret
    exact ⟨by rw [HC.out]; rfl, HP.out⟩
  · rw [decide_eq_false hin] at hlook
    have c1 := hm1.c1
    have c2 := hm1.c2
    have c3 := hm1.c3
    have HFI := Lib.hid (hF l f S _ hl hf hs hm1 hI1)
    have HBX := Lib.hid hbx
    have HIN := Lib.hid hin
    have HBL := Lib.hid hbl
    have HF6 := Lib.hid hf6
    have HG := Lib.hid (hg l hl)
    have HIG := Lib.hid hIg
    clear hf hm hI hbl hbx hm1 hI1 hc hin hF hIb hf6 hIg hI0 hN
    go_enter Try.func120, Try.ntmps120
    go_wp2_with fail
    refine (HFI.out).mono ?_; rintro e w2 ⟨rfl, ⟨S2, hm2, hS2⟩, hI2, hch⟩
    have hn2 : l ∉ S2 := fun h => by
      rcases hS2 l h with q | q
      · exact HIN.out q
      · omega
    obtain ⟨w3, hput, hmap3, hg3⟩ := hm2.map.put hl HF6.out hn2 HG.out
    have hbx2 : BoxF w2 w.heap.size f := hch.own HBX.out (fun g hgg => by cases hgg; exact hkq)
    obtain ⟨e0, e1, e2, e3, e4, e5⟩ := hbx2.cells
    have d1 := hm2.c1
    have HP : Hid ((∃ S', HM K w3 km q1 q2 q3 (.func (.func 113) #[] #[]) g S' ∧ ∀ a ∈ S', a ∈ S ∨ a.sum ≤ l.sum) ∧ I w3 ∧ Chg K w w3) := ⟨⟨S2 ++ [l], hm2.put hg3 hmap3, fun a ha => by
      rcases List.mem_append.1 ha with q | q
      · rcases hS2 a q with r | r
        · exact .inl r
        · exact .inr (by omega)
      · simp at q; subst q; exact .inr (Int.le_refl _)⟩, HIG.out _ _ hI2 hg3, ((Chg.of_below HBL.out (Nat.le_refl _)).trans hch).trans (Chg.of_grown hg3 (fun q hq => by cases hq; exact hm2.kk))⟩
    clear hm2 hS2 hI2 hch hbx2 hmap3 hg3 HBX HIN HBL HF6 HG HIG HFI hn2
    go_wp2
    go_ret
    exact ⟨rfl, HP.out⟩

theorem fl_fall {l : List Int} (h : ChOK l) : Fall (fl l) := h.fall
theorem grL_length {l : List Int} {n : Nat} (h : (mv (fl l) 6).length = n) : (grL l).length = n := by rw [← h]; simp only [grL, List.length_map]; rfl
theorem grL_at {l : List Int} {k : Nat} (h : k < (mv (fl l) 6).length) : (grL l).take (k + 1) = (grL l).take k ++ [((gr (biteL l ((mv (fl l) 6)[k]).1 ((mv (fl l) 6)[k]).2) : Nat) : Int)] := by
  have hk : k < (grL l).length := by rw [grL_length rfl]; exact h
  rw [List.take_succ_eq_append_getElem hk]
  congr 1
  simp only [grL, List.getElem_map]
  rfl
/-- the heap as a number -/
def grI (l : List Int) : Int := (gr l : Nat)

theorem tb_ne : (116 : Nat) ≠ 3 := by decide
theorem tc_ne : (73 : Nat) ≠ 3 := by decide
theorem biteL_fun' {l : List Int} (hl : ChOK l) {x y : Int} (h : canC l x y = true) : eatF (fl l) x y.toNat = fl (biteL l x y) := funext fun j => (biteL_at hl h j).symm

set_option maxRecDepth 100000 in
set_option maxHeartbeats 8000000 in
theorem find_of_num (K : Nat → Prop) (km q1 q2 q3 : Nat) (fv : Value) (I : World → Prop) (s : Nat)
    (N0 : Nat) (hN : ∀ w, I w → N0 ≤ w.heap.size) (hI0 : ∀ w w', I w → w.heap.size ≤ w'.heap.size → (∀ i, i < N0 → i ≠ km → w'.heap[i]? = w.heap[i]?) → I w')
    (hNum : NumOK K km q1 q2 q3 fv grI I s) : FindOK K km q1 q2 q3 fv 113 #[] grI I (s + 1) := by
  intro l f S w hl hf hs hm hI
  show Calls Try.prog 113 #[arrF f, numV q1 q2 q3] w _
  obtain ⟨i0, hi, hz0, hz1, hz2⟩ := info_parts int_info
  have hfl : Fall f := by rw [hf]; exact hl.fall
  have hf1 : 1 ≤ f 0 := by rw [hf]; exact hl.ge1 hl.1
  have hbl : Below w.heap.size w (w.alloc (.cells #[.int .i64 (f 0), .int .i64 (f 1), .int .i64 (f 2), .int .i64 (f 3), .int .i64 (f 4), .int .i64 (f 5)] 73)) := (Below.refl _ _).alloc (Nat.le_refl _) _
  have hbx := BoxF.new w f
  have HKB := Lib.hid hm.kb
  have HQ := Lib.hid (show km < w.heap.size ∧ q1 < w.heap.size ∧ q2 < w.heap.size ∧ q3 < w.heap.size from ⟨hm.map.lt, World.block_lt_of_cell? w _ hm.c1, World.block_lt_of_cell? w _ hm.c2, World.block_lt_of_cell? w _ hm.c3⟩)
  have HIS : Hid (∀ wa wb, I wa → wa.heap.size ≤ wb.heap.size → (∀ i, i < w.heap.size → i ≠ km → wb.heap[i]? = wa.heap[i]?) → I wb) := fun wa wb h h1 h2 => hI0 wa wb h h1 (fun i hi hk => h2 i (Nat.lt_of_lt_of_le hi (hN w hI)) hk)
  have HL := Lib.hid hl
  have HF := Lib.hid hf
  have HFL := Lib.hid hfl
  have HF1 := Lib.hid hf1
  have HBX := Lib.hid hbx
  have HBL := Lib.hid hbl
  have HMM := Lib.hid hm
  have HII := Lib.hid hI
  have HNUM := Lib.hid hNum
  have HS := Lib.hid hs
  clear hfl hf1 hbl hm hI hl hf hNum hI0 hN hs
  obtain ⟨c0, c1, c2, c3, c4, c5⟩ := hbx.cells
  clear hbx
  go_enter Try.func113, Try.ntmps113
  go_wp2_with fail
  refine (bitesOf_any f _ HFL.out HF1.out).mono ?_; rintro e w1 ⟨Ab, n, cb, rfl, h35, hL, hown, hb1⟩
  have HBL1 := Lib.hid (HBL.out.trans (hb1.mono HBL.out.size))
  have hbx1 := HBX.out.below hb1 (Nat.le_refl _)
  have hm1 := HMM.out.below HBL1.out (Nat.le_refl _)
  have hI1 : I w1 := HIS.out _ _ HII.out HBL1.out.size (fun i hi _ => HBL1.out.block i hi)
  have HX1 := Lib.hid hbx1
  have HM1 := Lib.hid hm1
  have HI1 := Lib.hid hI1
  have HLL := Lib.hid hL
  have HOB := Lib.hid (own_base hown HBL.out.size)
  clear hbx1 hm1 hI1 hL hown hb1 c0 c1 c2 c3 c4 c5
  generalize hM : mv f 6 = M at *
  have HMV := Lib.hid hM
  clear hM
  go_wp2
  go_loopw [5, 11] (fun v i wr => ∃ (k : Nat) (A' : Option Addr) (c' : Nat), k ≤ n ∧ i = .int .i64 k ∧ v = .slice A' k c' ∧ wr.ownsRow w.heap.size 3 1 (.slice A' k c') k (intCells ((grL l).take k)) ∧ wr.ownsRow w.heap.size 116 2 (.slice Ab n cb) n (pairCells M) ∧ BoxF wr w.heap.size f ∧ (∃ S', HM K wr km q1 q2 q3 fv grI S' ∧ ∀ a ∈ S', a ∈ S ∨ a.sum < l.sum) ∧ I wr ∧ Chg K w wr) (fun _ i _ => n - (intOf i).toNat)
  case atStart => exact ⟨0, none, 0, Nat.zero_le _, rfl, rfl, World.ownsRow_nil _ _ _ _, HOB.out, HX1.out, ⟨S, HM1.out, fun a ha => .inl ha⟩, HI1.out, Chg.of_below HBL1.out (Nat.le_refl _)⟩
  case round =>
    clear HX1 HM1 HI1 HOB HBL1
    obtain ⟨k, A', c', hk, rfl, rfl, hown, hob, hbx, ⟨S', hm, hS'⟩, hI, hch⟩ := hrel
    have sw := hch.size
    by_cases hlt : k < n
    · obtain ⟨b, o, rfl, hbl, hx, p0, p1⟩ := (Rd.of_own hob).pair hlt
      have hmem : M[k] ∈ mvL l := by
        have h := List.getElem_mem hx
        have e : mvL l = M := by rw [← HMV.out, HF.out]; rfl
        rw [e]; exact h
      have hcan := mvL_can HL.out hmem
      have HGA : Hid ((grL l).take (k + 1) = (grL l).take k ++ [grI (biteL l (M[k]).1 (M[k]).2)]) := by
        have e : mv (fl l) 6 = M := by rw [← HMV.out, HF.out]
        have h := grL_at (l := l) (k := k) (by rw [e]; exact hx)
        simp only [e] at h
        exact h
      generalize (M[k]).1 = x at *
      generalize (M[k]).2 = y at *
      have h5 := canC_true hcan
      obtain ⟨yn, rfl⟩ : ∃ yn : Nat, y = yn := ⟨y.toNat, by omega⟩
      have yn6 : yn < 6 := by omega
      have HEF : Hid (eatF f x yn = fl (biteL l x yn)) := by
        have h := biteL_fun' HL.out hcan
        simp only [Int.toNat_natCast] at h
        simp only [Hid]
        rw [HF.out]
        exact h
      have HBOK := Lib.hid (biteL_ok HL.out hcan)
      have HBS := Lib.hid (biteL_sum HL.out hcan)
      have HEA := Lib.hid (fun wx => eat_any f x yn wx yn6)
      clear hmem hcan h5 hx
      have hba : Below wr.heap.size wr (wr.alloc (.cells #[.int .i64 x, .int .i64 (yn : Int)] 116)) := (Below.refl _ _).alloc (Nat.le_refl _) _
      have hbxa := hbx.below hba (Nat.le_refl _)
      obtain ⟨c0, c1, c2, c3, c4, c5⟩ := hbxa.cells
      have HBA := Lib.hid hba
      have HBXA := Lib.hid hbxa
      have HOW := Lib.hid hown
      have HOB := Lib.hid hob
      have HMR := Lib.hid hm
      have HSR := Lib.hid hS'
      have HIR := Lib.hid hI
      have HCH := Lib.hid hch
      clear hba hbxa hown hob hbx hm hS' hI hch
      go_wp2_with fail
      refine (HEA.out _).mono ?_; rintro e w3 ⟨rfl, hb3⟩
      have hb30 : Below wr.heap.size wr w3 := HBA.out.trans (hb3.mono HBA.out.size)
      have hm3 := HMR.out.below hb30 (Nat.le_refl _)
      have hI3 : I w3 := HIS.out _ _ HIR.out hb30.size (fun i hi _ => hb30.block i (by omega))
      have HNU := Lib.hid (HNUM.out (biteL l x yn) (eatF f x yn) S' w3 HBOK.out HEF.out (by have := HBS.out; have := HS.out; omega) hm3 hI3)
      have HB30 := Lib.hid hb30
      have HX3 := Lib.hid (HBXA.out.below hb3 (Nat.le_refl _))
      clear hb3 hb30 hm3 hI3 c0 c1 c2 c3 c4 c5 HEA
      go_wp2_with fail
      refine (HNU.out).mono ?_; rintro e w4 ⟨rfl, ⟨S4, hm4, hS4⟩, hI4, hch4⟩
      have s4 := hch4.size
      have s3 := HB30.out.size
      have hKn : ∀ q, w.heap.size ≤ q → ¬ K q := fun q hq e => by have := HKB.out q e; omega
      have own4 := hch4.own (own_later HOW.out HB30.out (Nat.le_refl _)) (fun q hq => hKn q (HOW.out.lt q hq).1)
      have hob4 := hch4.own (own_later HOB.out HB30.out (Nat.le_refl _)) (fun q hq => hKn q (HOB.out.lt q hq).1)
      have hbx4 : BoxF w4 w.heap.size f := hch4.own HX3.out (fun q hq => by cases hq; exact hKn _ (Nat.le_refl _))
      have hc3 : k + 1 ≤ maxLen := by simp only [maxLen]; omega
      have HC4 := Lib.hid ((HCH.out.trans (Chg.of_below HB30.out (Nat.le_refl _))).trans hch4)
      have HO4 := Lib.hid own4
      have HOB4 := Lib.hid hob4
      have HX4 := Lib.hid hbx4
      have HM4 := Lib.hid hm4
      have HS4 := Lib.hid hS4
      have HI4 := Lib.hid hI4
      have HOA := Lib.hid (own_alloc own4 (.cells #[.int .i64 (grI (biteL l x yn))] 3))
      clear own4 hob4 hbx4 hm4 hS4 hI4 hch4 HNU hKn
      generalize hgv : grI (biteL l x yn) = gv at *
      have HGV := Lib.hid hgv
      clear hgv
      go_wp2_with (at_builtin; refine wpList_append_own _ rfl (.tmp 15) (.tmp 21) 39 rfl w.heap.size 3 i0 (.int .i64 0) 1 8 Try.underlying39 hi hz0 hz1 hz2 rfl (by decide) _ _ _ rfl HOA.out ⟨w4.heap.size, 0, none⟩ 1 1 [.int .i64 gv] rfl rfl (new1 _ _ _) (int_oneCell [gv]) hc3 (by omega) (by simp; omega) ?_)
      intro v' w5 hown' hgrow _
      obtain ⟨A2, c2', rfl⟩ := own_slice hown'
      have hba4 : Below w4.heap.size w4 (w4.alloc (.cells #[.int .i64 gv] 3)) := (Below.refl _ _).alloc (Nat.le_refl _) _
      have hrow : ∀ q, (Value.slice A' k c').ownBlock = some q → w.heap.size ≤ q := fun q hq => (HO4.out.lt q hq).1
      have hm5 := (HM4.out.below hba4 (Nat.le_refl _)).grown hgrow (fun q hq => by have := hrow q hq; have := HQ.out; omega)
      have hob5 := (own_alloc HOB4.out (.cells #[.int .i64 gv] 3)).kept hgrow (own_types (own_alloc HOB4.out (.cells #[.int .i64 gv] 3)) HOA.out tb_ne)
      have hbx5 : BoxF w5 w.heap.size f := World.ownsRow.kept (HX4.out.alloc (.cells #[.int .i64 gv] 3)) hgrow (own_types (HX4.out.alloc (.cells #[.int .i64 gv] 3)) HOA.out tc_ne)
      have hI5 : I w5 := HIS.out _ _ HI4.out (Nat.le_trans hba4.size hgrow.size) (fun i hi hk => (hgrow.block i (by simp; omega) (fun e => by have := hrow i e.symm; omega)).trans (hba4.block i (by omega)))
      have hch5 := (HC4.out.trans (Chg.of_below hba4 (Nat.le_refl _))).of_row hgrow hrow
      have hS5 : ∀ a ∈ S4, a ∈ S ∨ a.sum < l.sum := fun a ha => by
        rcases HS4.out a ha with q | q
        · exact HSR.out a q
        · exact .inr (by have := HBS.out; omega)
      have P5 := Lib.hid (show w5.ownsRow w.heap.size 3 1 (.slice A2 (k + 1) c2') (k + 1) (intCells ((grL l).take (k + 1))) ∧ w5.ownsRow w.heap.size 116 2 (.slice (some ⟨b, o, none⟩) n cb) n (pairCells M) ∧ BoxF w5 w.heap.size f ∧ (∃ S', HM K w5 km q1 q2 q3 fv grI S' ∧ ∀ a ∈ S', a ∈ S ∨ a.sum < l.sum) ∧ I w5 ∧ Chg K w w5 from ⟨by rw [HGA.out, intCells_append]; exact hown', hob5, hbx5, ⟨S4, hm5, hS5⟩, hI5, hch5⟩)
      clear hown' hgrow hba4 hrow hm5 hob5 hbx5 hI5 hch5 hS5 HO4 HOB4 HX4 HM4 HS4 HI4 HC4 HOA hc3
      go_wp2
      go_roundw
      case rel => exact ⟨k + 1, A2, c2', by omega, by go_num, rfl, P5.out⟩
      case measure => simp [intOf]; omega
    · have hkn : k = n := by omega
      have htk : (grL l).take k = grL l := List.take_of_length_le (by rw [grL_length (n := n) (by rw [← HF.out, HMV.out]; exact HLL.out)]; omega)
      rw [htk] at hown
      have HV : Hid ((mexL (grL l) : Nat) = gr l) := (gr_step HL.out).symm
      have HLM := Lib.hid (leastMissing_any A' k c' (grL l) wr (Rd.of_own hown) (by omega))
      have HP := Lib.hid (show (∃ S', HM K wr km q1 q2 q3 fv grI S' ∧ ∀ a ∈ S', a ∈ S ∨ a.sum < l.sum) ∧ I wr ∧ Chg K w wr from ⟨⟨S', hm, hS'⟩, hI, hch⟩)
      clear hkn htk hown hob hbx hm hS' hI hch
      go_wp2_with fail
      refine (HLM.out).mono ?_; rintro e wx ⟨rfl, rfl⟩
      go_wp2
      go_ret
      exact ⟨by rw [HV.out]; rfl, HP.out⟩

end Go.Proofs.Ytghlgmbekgfmnaa
