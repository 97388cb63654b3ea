/-
  Contracts: BestClue of the program and of the model. Conditions: none.
-/
import Derived.Test.YtghlgmbekgfmnaaPzQ
namespace Go.Proofs.Ytghlgmbekgfmnaa
open Go.RowKit Go.Maps
set_option linter.unusedVariables false
set_option linter.unusedSimpArgs false

/-- the first of the least of the first k, and the least -/
def bK (L : List Int) : Nat → Nat × Int
  | 0 => (0, 0)
  | k + 1 => if k = 0 ∨ L.getD k 0 < (bK L k).2 then (k, L.getD k 0) else bK L k
theorem bK_prop (L : List Int) : ∀ k, 0 < k → (bK L k).1 < k ∧ (bK L k).2 = L.getD (bK L k).1 0 ∧ (∀ j, j < k → (bK L k).2 ≤ L.getD j 0) ∧ ∀ j, j < (bK L k).1 → (bK L k).2 < L.getD j 0
  | 0, h => absurd h (by omega)
  | 1, _ => by
    have e : bK L 1 = (0, L.getD 0 0) := by simp [bK]
    rw [e]
    exact ⟨by show 0 < 1; omega, rfl, fun j hj => by obtain rfl : j = 0 := by omega
                                                     exact Int.le_refl _, fun j hj => absurd hj (Nat.not_lt_zero _)⟩
  | k + 2, _ => by
    obtain ⟨h1, h2, h3, h4⟩ := bK_prop L (k + 1) (by omega)
    rw [bK]
    by_cases h : L.getD (k + 1) 0 < (bK L (k + 1)).2
    · rw [if_pos (.inr h)]
      refine ⟨by omega, rfl, fun j hj => ?_, fun j hj => ?_⟩
      · by_cases e : j = k + 1
        · subst e; exact Int.le_refl _
        · have := h3 j (by omega); show L.getD (k + 1) 0 ≤ _; omega
      · have := h3 j hj; show L.getD (k + 1) 0 < _; omega
    · rw [if_neg (by omega)]
      refine ⟨by omega, h2, fun j hj => ?_, h4⟩
      by_cases e : j = k + 1
      · subst e; omega
      · exact h3 j (by omega)
/-- how many fit a clue alone -/
def oneV (q : Clu) : Int := ((solL [q]).length : Int)
def oneL (S : List Clu) : List Int := S.map oneV
theorem oneV_in (q : Clu) : 0 ≤ oneV q ∧ oneV q ≤ 125 := by have := solL_le [q]; unfold oneV; omega
theorem oneL_take {S : List Clu} {k : Nat} (hk : k < S.length) : oneL (S.take (k + 1)) = oneL (S.take k) ++ [oneV S[k]] := by
  unfold oneL
  rw [List.take_succ_eq_append_getElem hk, List.map_append]; rfl
theorem length_oneL (S : List Clu) : (oneL S).length = S.length := by simp [oneL]
theorem oneL_at {S : List Clu} {k : Nat} (hk : k < S.length) : (oneL S).getD k 0 = oneV S[k] := by simp [oneL, List.getD, hk]
/-- what BestClue returns -/
def bestB (S : List Clu) : Bool := pzB S && decide (0 < S.length)
def bestR (S : List Clu) : Int := if bestB S then ((bK (oneL S) S.length).1 : Nat) else 0

theorem boxCells_one (S : List Clu) {k : Nat} (hk : k < S.length) (j : Nat) (u : Value) (h : (boxCells [S[k]])[j]? = some u) : (boxCells S)[k * 3 + j]? = some u := by
  obtain ⟨a0, a1, a2⟩ := boxCells_at S k hk
  match j, h with
  | 0, h => simp [boxCells] at h; subst h; exact a0
  | 1, h => simp [boxCells] at h; subst h; exact a1
  | 2, h => simp [boxCells] at h; subst h; exact a2
  | j + 3, h => simp [boxCells] at h
theorem rd_one3 {w : World} {b o n k : Nat} {S : List Clu} (h : Rd w 3 (some ⟨b, o, none⟩) n (boxCells S)) (hk : k < S.length) (hn : k < n) : Rd w 3 (some ⟨b, o + k * 3, none⟩) 1 (boxCells [S[k]]) := by
  obtain ⟨b', o', e, hlt, hc⟩ := h.2 (by omega)
  cases e
  exact ⟨by simp [length_boxCells], fun _ => ⟨b, o + k * 3, rfl, hlt, fun j u hj => by rw [Nat.add_assoc]; exact hc _ _ (boxCells_one S hk j u hj)⟩⟩

set_option maxRecDepth 100000 in
set_option maxHeartbeats 2000000 in
theorem slMin_any (A : Option Addr) (n c : Nat) (L : List Int) (w : World) (hr : Rd w 1 A n (intCells L)) (hn : n ≤ 1000000) (h0 : 0 < n) (hw : ∀ z ∈ L, 0 ≤ z ∧ z ≤ 125) :
    Calls Try.prog 84 #[.slice A n c] w fun e w' => e = .returned (.int .i64 (bK L n).2) ∧ w = w' := by
  have hll := hr.ilen
  have HLL := Lib.hid hll
  have HW := Lib.hid hw
  obtain ⟨b0, o0, rfl, _, hx0, q0⟩ := hr.num h0
  rw [Nat.add_zero] at q0
  have HB1 : Hid ((bK L 1).2 = L[0]) := by simp only [Hid, bK, true_or, if_true]; simp [List.getD, hx0]
  have HBN := Lib.hid (fun k (h : 0 < k) => bK_prop L k h)
  clear hll hw
  go_enter Try.func84, Try.ntmps84
  go_wp2
  go_loop [3, 4] (fun m i => ∃ k : Nat, 1 ≤ k ∧ k ≤ n ∧ i = .int .i64 k ∧ m = .int .i64 (bK L k).2) (fun _ i => n - (intOf i).toNat)
  case atStart => exact ⟨1, Nat.le_refl _, h0, rfl, by rw [HB1.out]⟩
  case round =>
    obtain ⟨k, hk1, hk, rfl, rfl⟩ := hrel
    by_cases hlt : k < n
    · obtain ⟨b1, o1, e1, _, hx, p1⟩ := hr.num hlt
      cases e1
      have hz := HW.out _ (List.getElem_mem hx)
      have hm := HW.out (L.getD (bK L k).1 0) (by
        have h1 := (HBN.out k hk1).1
        have h2 : (bK L k).1 < L.length := by rw [HLL.out]; omega
        rw [show L.getD (bK L k).1 0 = L[(bK L k).1] by simp [List.getD, h2]]
        exact List.getElem_mem h2)
      rw [← (HBN.out k hk1).2.1] at hm
      have HS : Hid ((bK L (k + 1)).2 = min (bK L k).2 L[k]) := by
        simp only [Hid]
        rw [bK, show L.getD k 0 = L[k] by simp [List.getD, hx]]
        by_cases q : L[k] < (bK L k).2
        · rw [if_pos (.inr q)]; show L[k] = _; omega
        · rw [if_neg (by omega)]; omega
      generalize (bK L k).2 = m at *
      generalize L[k] = z at *
      clear hx
      go_wp2
      go_round
      case rel => exact ⟨k + 1, by omega, by omega, by go_num, by rw [HS.out]; first | rfl | (congr 1; omega)⟩
      case measure => simp [intOf]; omega
    · have : k = n := by omega
      subst this
      go_wp2
      go_ret
      exact ⟨rfl, rfl⟩

set_option maxRecDepth 100000 in
set_option maxHeartbeats 1000000 in
theorem slIndexA_any (A : Option Addr) (n c : Nat) (L : List Int) (v : Int) (i0 : Nat) (w : World) (hr : Rd w 1 A n (intCells L)) (hn : n ≤ 1000000) (hi : i0 < n) (hv : L.getD i0 0 = v) (hb : ∀ j, j < i0 → L.getD j 0 ≠ v) :
    Calls Try.prog 83 #[.slice A n c, .int .i64 v] w fun e w' => e = .returned (.int .i64 (i0 : Int)) ∧ w = w' := by
  have hll := hr.ilen
  have HLL := Lib.hid hll
  have HV := Lib.hid hv
  have HB := Lib.hid hb
  clear hll hv hb
  go_enter Try.func83, Try.ntmps83
  go_wp2
  go_loop [8] (fun i => ∃ k : Nat, k ≤ i0 ∧ i = .int .i64 k) (fun i => n - (intOf i).toNat)
  case atStart => exact ⟨0, Nat.zero_le _, rfl⟩
  case round =>
    obtain ⟨k, hk, rfl⟩ := hrel
    have hlt : k < n := by omega
    obtain ⟨b1, o1, rfl, _, hx, p1⟩ := hr.num hlt
    have hgd : L.getD k 0 = L[k] := by simp [List.getD, hx]
    by_cases e : k = i0
    · subst e
      have hz : L[k] = v := by rw [← hgd]; exact HV.out
      rw [hz] at p1
      have hd : (v == v) = true := by simp
      clear hgd hz hx
      go_wp2
      go_ret
      exact ⟨rfl, rfl⟩
    · have hz := HB.out k (by omega)
      rw [hgd] at hz
      generalize L[k] = z at *
      have hd : (v == z) = false := by simp; exact fun h => hz h.symm
      clear hgd hx hz
      go_wp2
      go_round
      case rel => exact ⟨k + 1, by omega, by go_num⟩
      case measure => simp [intOf]; omega

set_option maxRecDepth 100000 in
set_option maxHeartbeats 8000000 in
theorem bestClue_any (A : Option Addr) (n c : Nat) (S : List Clu) (w : World) (hr : Rd w 3 A n (boxCells S)) (hn : n ≤ 4000000000) (hnc : n ≤ c) (hcm : c ≤ 4000000000) :
    Calls Try.prog 56 #[puzV A n c] w fun e w' => e = .returned (.tuple #[.int .i64 (bestR S), .bool (bestB S)]) ∧ Below w.heap.size w w' := by
  have HG := Lib.hid (fun wx h => isPuzzle_any A n c S wx h hn)
  have hll : S.length = n := by have := hr.1; rw [length_boxCells] at this; omega
  cases hb : pzB S
  · have e1 : bestB S = false := by simp [bestB, hb]
    rw [show bestR S = 0 by simp [bestR, e1], e1]
    have HB := Lib.hid hb
    clear hb e1
    go_enter Try.func56, Try.ntmps56
    go_wp2_with fail
    refine (HG.out _ (hr.later (B := w.heap.size) (by (repeat (first | (with_reducible exact Below.refl _ _) | (with_reducible assumption) | (with_reducible refine Below.drew ?_) | ((with_reducible refine balloc ?_ _ ?_); · (first | (simp; done) | (simp; omega) | omega)) | ((with_reducible refine bset ?_ _ ?_); · (first | (simp; done) | (simp; omega) | omega)) | (with_reducible refine bdrewN _ ?_) | ((with_reducible refine bcall ?_ (by assumption) ?_); · (first | (simp; done) | (simp; omega) | omega))))) (Nat.le_refl _))).mono ?_; rintro e w1 ⟨rfl, hb1⟩
    rw [HB.out]
    go_wp2
    go_ret2
    exact ⟨rfl, by (repeat (first | (with_reducible exact Below.refl _ _) | (with_reducible assumption) | (with_reducible refine Below.drew ?_) | ((with_reducible refine balloc ?_ _ ?_); · (first | (simp; done) | (simp; omega) | omega)) | ((with_reducible refine bset ?_ _ ?_); · (first | (simp; done) | (simp; omega) | omega)) | (with_reducible refine bdrewN _ ?_) | ((with_reducible refine bcall ?_ (by assumption) ?_); · (first | (simp; done) | (simp; omega) | omega))))⟩
  by_cases h0 : n = 0
  · have e1 : bestB S = false := by simp [bestB, hll, h0]
    rw [show bestR S = 0 by simp [bestR, e1], e1]
    have HB := Lib.hid hb
    subst h0
    clear hb e1
    go_enter Try.func56, Try.ntmps56
    go_wp2_with fail
    refine (HG.out _ (hr.later (B := w.heap.size) (by (repeat (first | (with_reducible exact Below.refl _ _) | (with_reducible assumption) | (with_reducible refine Below.drew ?_) | ((with_reducible refine balloc ?_ _ ?_); · (first | (simp; done) | (simp; omega) | omega)) | ((with_reducible refine bset ?_ _ ?_); · (first | (simp; done) | (simp; omega) | omega)) | (with_reducible refine bdrewN _ ?_) | ((with_reducible refine bcall ?_ (by assumption) ?_); · (first | (simp; done) | (simp; omega) | omega))))) (Nat.le_refl _))).mono ?_; rintro e w1 ⟨rfl, hb1⟩
    rw [HB.out]
    have d0 : w1.cell? ⟨w.heap.size, 0, none⟩ = some (.slice A 0 c) := (hb1.cell (p := ⟨w.heap.size, 0, none⟩) (by simp)).trans (by simp [go_sem])
    go_wp2
    go_ret2
    exact ⟨rfl, by (repeat (first | (with_reducible exact Below.refl _ _) | (with_reducible assumption) | (with_reducible refine Below.drew ?_) | ((with_reducible refine balloc ?_ _ ?_); · (first | (simp; done) | (simp; omega) | omega)) | ((with_reducible refine bset ?_ _ ?_); · (first | (simp; done) | (simp; omega) | omega)) | (with_reducible refine bdrewN _ ?_) | ((with_reducible refine bcall ?_ (by assumption) ?_); · (first | (simp; done) | (simp; omega) | omega))))⟩
  · obtain ⟨i0, hi, hz0, hz1, hz2⟩ := info_parts int_info
    have e1 : bestB S = true := by simp [bestB, hb, hll]; omega
    have HLR : Hid (bestR S = ((bK (oneL S) n).1 : Nat)) := by simp [Hid, bestR, e1, hll]
    rw [e1]
    have HB := Lib.hid hb
    obtain ⟨hl6, hcl⟩ := pzB_true hb
    have HCL := Lib.hid hcl
    have n6 : n ≤ 6 := by omega
    have HLL := Lib.hid hll
    have HR := Lib.hid hr
    have hne : ((n : Int) == 0) = false := by simp; omega
    have n0 : 0 < n := by omega
    obtain ⟨bA, oA, rfl, hbA, _⟩ := hr.2 n0
    clear hb hcl hll hl6 e1
    go_enter Try.func56, Try.ntmps56
    go_wp2_with fail
    refine (HG.out _ (hr.later (B := w.heap.size) (by (repeat (first | (with_reducible exact Below.refl _ _) | (with_reducible assumption) | (with_reducible refine Below.drew ?_) | ((with_reducible refine balloc ?_ _ ?_); · (first | (simp; done) | (simp; omega) | omega)) | ((with_reducible refine bset ?_ _ ?_); · (first | (simp; done) | (simp; omega) | omega)) | (with_reducible refine bdrewN _ ?_) | ((with_reducible refine bcall ?_ (by assumption) ?_); · (first | (simp; done) | (simp; omega) | omega))))) (Nat.le_refl _))).mono ?_; rintro e w1 ⟨rfl, hb1⟩
    rw [HB.out]
    have s1 := hb1.size
    simp at s1
    have d0 : w1.cell? ⟨w.heap.size, 0, none⟩ = some (.slice (some ⟨bA, oA, none⟩) n c) := (hb1.cell (p := ⟨w.heap.size, 0, none⟩) (by simp)).trans (by simp [go_sem])
    have hB1 : Below w.heap.size w w1 := by (repeat (first | (with_reducible exact Below.refl _ _) | (with_reducible assumption) | (with_reducible refine Below.drew ?_) | ((with_reducible refine balloc ?_ _ ?_); · (first | (simp; done) | (simp; omega) | omega)) | ((with_reducible refine bset ?_ _ ?_); · (first | (simp; done) | (simp; omega) | omega)) | (with_reducible refine bdrewN _ ?_) | ((with_reducible refine bcall ?_ (by assumption) ?_); · (first | (simp; done) | (simp; omega) | omega))))
    have HB1 := Lib.hid hB1
    have HR1 := Lib.hid (hr.later hB1 (Nat.le_refl _))
    clear hb1 hB1 hr
    go_wp2_with fail
    refine (clueTeller_any _).mono ?_; rintro e w2 ⟨KK, h0, rfl, ht2, hb2, hK2⟩
    have d2 : w2.cell? ⟨w.heap.size, 0, none⟩ = some (.slice (some ⟨bA, oA, none⟩) n c) := (hb2.cell (p := ⟨w.heap.size, 0, none⟩) (by simp; omega)).trans d0
    have s2 := hb2.size
    have HT2 := Lib.hid ht2
    have HB2 := Lib.hid hb2
    have HK2 := Lib.hid hK2
    have HKN := Lib.hid ht2.kn
    have HD2 := Lib.hid d2
    clear ht2 hb2 hK2 d0
    go_wp2
    go_loopw [5, 20] (fun v i wr => ∃ (k : Nat) (A' : Option Addr) (c' : Nat), k ≤ n ∧ i = .int .i64 k ∧ v = .slice A' k c' ∧ wr.ownsRow w2.heap.size 3 1 (.slice A' k c') k (intCells (oneL (S.take k))) ∧ TM KK w2.heap.size wr h0 ∧ Chg KK w2 wr) (fun _ i _ => n - (intOf i).toNat)
    case atStart => exact ⟨0, none, 0, Nat.zero_le _, rfl, rfl, World.ownsRow_nil _ _ _ _, HT2.out, Chg.refl _ _⟩
    case round =>
      obtain ⟨k, A', c', hk, rfl, rfl, hown, hm, hch⟩ := hrel
      have sw := hch.size
      have dr : wr.cell? ⟨w.heap.size, 0, none⟩ = some (.slice (some ⟨bA, oA, none⟩) n c) := hch.cell HD2.out (fun e => by have := HK2.out _ e; simp at this; omega)
      by_cases hlt : k < n
      · have hkl : k < S.length := by rw [HLL.out]; exact hlt
        have HSO := Lib.hid (solutionsOf_any KK w2.heap.size h0 (some ⟨bA, oA + k * 3, none⟩) 1 1 [S[k]] wr (fun q hq => by rw [List.mem_singleton] at hq; rw [hq]; exact HCL.out _ (List.getElem_mem hkl)) (by omega) (fun w' h => rd_one3 (rd_chg HR1.out HB2.out HK2.out (hch.trans h)) hkl hlt) hm)
        have HLK := Lib.hid (oneL_take hkl)
        have HOV : Hid (oneV S[k] = ((solL [S[k]]).length : Int)) := rfl
        have hle := solL_le [S[k]]
        generalize S[k] = q at *
        have HOW := Lib.hid hown
        have HCH := Lib.hid hch
        have hkc : k + 1 ≤ c := by omega
        have hc3 : k + 1 ≤ maxLen := by simp only [maxLen]; omega
        clear hown hm hch hkl
        go_wp2_with fail
        refine (HSO.out).mono ?_; rintro e w4 ⟨A4, m4, c4, rfl, hL4, ho4, hm4, hch4⟩
        have hov := HOV.out
        rw [hL4] at hov hle
        rw [hov] at HLK
        have own4 := hch4.own HOW.out (fun q hq e => by have e2 := (HOW.out.lt q hq).1; have e3 := HKN.out q e; omega)
        have HO4 := Lib.hid own4
        have HM4 := Lib.hid hm4
        have HC4 := Lib.hid (HCH.out.trans hch4)
        have s4 := hch4.size
        clear own4 hm4 hch4 ho4 hL4 HSO dr hov
        go_wp2_with (at_builtin; refine wpList_append_own _ rfl (.tmp 23) (.tmp 35) 39 rfl w2.heap.size 3 i0 (.int .i64 0) 1 8 Try.underlying39 hi hz0 hz1 hz2 rfl (by decide) _ _ _ rfl (HO4.out.alloc _) ⟨w4.heap.size, 0, none⟩ 1 1 [.int .i64 (m4 : Int)] rfl rfl (new1 _ _ _) (int_oneCell [(m4 : Int)]) hc3 (by omega) (by simp; omega) ?_)
        intro v' w5 hown' hgrow _
        have hba : Below w4.heap.size w4 (w4.alloc (.cells #[.int .i64 (m4 : Int)] 3)) := (Below.refl _ _).alloc (Nat.le_refl _) _
        have hrow : ∀ q, (Value.slice A' k c').ownBlock = some q → w2.heap.size ≤ q := fun q hq => (HO4.out.lt q hq).1
        obtain ⟨A5, c5, rfl⟩ := own_slice hown'
        have P := Lib.hid (show w5.ownsRow w2.heap.size 3 1 (.slice A5 (k + 1) c5) (k + 1) (intCells (oneL (S.take (k + 1)))) ∧ TM KK w2.heap.size w5 h0 ∧ Chg KK w2 w5 from ⟨by rw [HLK.out, intCells_append]; exact hown', (HM4.out.below hba (Nat.le_refl _)).grown hgrow hrow, (HC4.out.trans (Chg.of_below hba (Nat.le_refl _))).of_row hgrow hrow⟩)
        clear hown' hgrow hba hrow HO4 HM4 HC4 hc3
        go_wp2
        go_roundw
        case rel => exact ⟨k + 1, A5, c5, by omega, by go_num, rfl, P.out⟩
        case measure => simp [intOf]; omega
      · have hk1 : k = n := by omega
        subst hk1
        rw [List.take_of_length_le (by rw [HLL.out]; exact Nat.le_refl _)] at hown
        have hrd := Rd.of_own hown
        have hlo : (oneL S).length = k := by rw [length_oneL]; exact HLL.out
        obtain ⟨g1, g2, g3, g4⟩ := bK_prop (oneL S) k n0
        have HMI := Lib.hid (slMin_any A' k c' (oneL S) wr hrd (by omega) n0 (fun z hz => by
          unfold oneL at hz
          obtain ⟨q, _, rfl⟩ := List.mem_map.1 hz
          exact oneV_in q))
        have HIX := Lib.hid (slIndexA_any A' k c' (oneL S) (bK (oneL S) k).2 (bK (oneL S) k).1 wr hrd (by omega) g1 g2.symm (fun j hj => by have := g4 j hj; omega))
        have HBF := Lib.hid (Chg.below hch (HB1.out.trans (HB2.out.mono HB1.out.size)) (fun i hi => by have := HK2.out i hi; omega))
        clear hown hm hch hrd hlo g1 g2 g3 g4
        generalize (bK (oneL S) k).2 = mv at *
        generalize hbk : (bK (oneL S) k).1 = bi at *
        have HBK := Lib.hid hbk
        clear hbk
        go_wp2_with fail
        refine (HMI.out).mono ?_; rintro e wx ⟨rfl, rfl⟩
        go_wp2_with fail
        refine (HIX.out).mono ?_; rintro e wx ⟨rfl, rfl⟩
        go_wp2
        go_ret2
        exact ⟨by rw [HLR.out]; rfl, HBF.out⟩

set_option maxRecDepth 100000 in
set_option maxHeartbeats 8000000 in
theorem sBestClue_any (A : Option Addr) (n c : Nat) (S : List Clu) (w : World) (hr : Rd w 3 A n (boxCells S)) (hn : n ≤ 4000000000) (hnc : n ≤ c) (hcm : c ≤ 4000000000) :
    Calls Try.prog 55 #[puzV A n c] w fun e w' => e = .returned (.tuple #[.int .i64 (bestR S), .bool (bestB S)]) ∧ Below w.heap.size w w' := by
  have HG := Lib.hid (fun wx h => pzGood_any A n c S wx h hn)
  have hll : S.length = n := by have := hr.1; rw [length_boxCells] at this; omega
  cases hb : pzB S
  · have e1 : bestB S = false := by simp [bestB, hb]
    rw [show bestR S = 0 by simp [bestR, e1], e1]
    rw [hb] at HG
    clear hb e1
    go_enter Try.func55, Try.ntmps55
    go_wp2_with fail
    refine (HG.out _ (hr.later (B := w.heap.size) (by (repeat (first | (with_reducible exact Below.refl _ _) | (with_reducible assumption) | (with_reducible refine Below.drew ?_) | ((with_reducible refine balloc ?_ _ ?_); · (first | (simp; done) | (simp; omega) | omega)) | ((with_reducible refine bset ?_ _ ?_); · (first | (simp; done) | (simp; omega) | omega)) | (with_reducible refine bdrewN _ ?_) | ((with_reducible refine bcall ?_ (by assumption) ?_); · (first | (simp; done) | (simp; omega) | omega))))) (Nat.le_refl _))).mono ?_; rintro e w1 ⟨rfl, hb1⟩
    go_wp2
    go_ret2
    exact ⟨rfl, by (repeat (first | (with_reducible exact Below.refl _ _) | (with_reducible assumption) | (with_reducible refine Below.drew ?_) | ((with_reducible refine balloc ?_ _ ?_); · (first | (simp; done) | (simp; omega) | omega)) | ((with_reducible refine bset ?_ _ ?_); · (first | (simp; done) | (simp; omega) | omega)) | (with_reducible refine bdrewN _ ?_) | ((with_reducible refine bcall ?_ (by assumption) ?_); · (first | (simp; done) | (simp; omega) | omega))))⟩
  by_cases h0 : n = 0
  · have e1 : bestB S = false := by simp [bestB, hll, h0]
    rw [show bestR S = 0 by simp [bestR, e1], e1]
    rw [hb] at HG
    subst h0
    clear hb e1
    go_enter Try.func55, Try.ntmps55
    go_wp2_with fail
    refine (HG.out _ (hr.later (B := w.heap.size) (by (repeat (first | (with_reducible exact Below.refl _ _) | (with_reducible assumption) | (with_reducible refine Below.drew ?_) | ((with_reducible refine balloc ?_ _ ?_); · (first | (simp; done) | (simp; omega) | omega)) | ((with_reducible refine bset ?_ _ ?_); · (first | (simp; done) | (simp; omega) | omega)) | (with_reducible refine bdrewN _ ?_) | ((with_reducible refine bcall ?_ (by assumption) ?_); · (first | (simp; done) | (simp; omega) | omega))))) (Nat.le_refl _))).mono ?_; rintro e w1 ⟨rfl, hb1⟩
    have d0 : w1.cell? ⟨w.heap.size, 0, none⟩ = some (.slice A 0 c) := (hb1.cell (p := ⟨w.heap.size, 0, none⟩) (by simp)).trans (by simp [go_sem])
    go_wp2
    go_ret2
    exact ⟨rfl, by (repeat (first | (with_reducible exact Below.refl _ _) | (with_reducible assumption) | (with_reducible refine Below.drew ?_) | ((with_reducible refine balloc ?_ _ ?_); · (first | (simp; done) | (simp; omega) | omega)) | ((with_reducible refine bset ?_ _ ?_); · (first | (simp; done) | (simp; omega) | omega)) | (with_reducible refine bdrewN _ ?_) | ((with_reducible refine bcall ?_ (by assumption) ?_); · (first | (simp; done) | (simp; omega) | omega))))⟩
  · have e1 : bestB S = true := by simp [bestB, hb, hll]; omega
    have HLR : Hid (bestR S = ((bK (oneL S) n).1 : Nat)) := by simp [Hid, bestR, e1, hll]
    rw [e1]
    rw [hb] at HG
    obtain ⟨hl6, hcl⟩ := pzB_true hb
    have HCL := Lib.hid hcl
    have n6 : n ≤ 6 := by omega
    have HLL := Lib.hid hll
    have HR := Lib.hid hr
    have hne : ((n : Int) == 0) = false := by simp; omega
    have n0 : 0 < n := by omega
    obtain ⟨bA, oA, rfl, hbA, _⟩ := hr.2 n0
    clear hb hcl hll hl6 e1
    go_enter Try.func55, Try.ntmps55
    go_wp2_with fail
    refine (HG.out _ (hr.later (B := w.heap.size) (by (repeat (first | (with_reducible exact Below.refl _ _) | (with_reducible assumption) | (with_reducible refine Below.drew ?_) | ((with_reducible refine balloc ?_ _ ?_); · (first | (simp; done) | (simp; omega) | omega)) | ((with_reducible refine bset ?_ _ ?_); · (first | (simp; done) | (simp; omega) | omega)) | (with_reducible refine bdrewN _ ?_) | ((with_reducible refine bcall ?_ (by assumption) ?_); · (first | (simp; done) | (simp; omega) | omega))))) (Nat.le_refl _))).mono ?_; rintro e w1 ⟨rfl, hb1⟩
    have s1 := hb1.size
    simp at s1
    have d0 : w1.cell? ⟨w.heap.size, 0, none⟩ = some (.slice (some ⟨bA, oA, none⟩) n c) := (hb1.cell (p := ⟨w.heap.size, 0, none⟩) (by simp)).trans (by simp [go_sem])
    have hB1 : Below w.heap.size w w1 := by (repeat (first | (with_reducible exact Below.refl _ _) | (with_reducible assumption) | (with_reducible refine Below.drew ?_) | ((with_reducible refine balloc ?_ _ ?_); · (first | (simp; done) | (simp; omega) | omega)) | ((with_reducible refine bset ?_ _ ?_); · (first | (simp; done) | (simp; omega) | omega)) | (with_reducible refine bdrewN _ ?_) | ((with_reducible refine bcall ?_ (by assumption) ?_); · (first | (simp; done) | (simp; omega) | omega))))
    have HB1 := Lib.hid hB1
    have HR1 := Lib.hid (hr.later hB1 (Nat.le_refl _))
    have HD1 := Lib.hid d0
    clear hb1 hB1 hr
    go_wp2
    go_loopw [4, 5, 20] (fun v m i wr => ∃ k : Nat, k ≤ n ∧ i = .int .i64 k ∧ v = .int .i64 ((bK (oneL S) k).1 : Nat) ∧ m = .int .i64 (bK (oneL S) k).2 ∧ Below w1.heap.size w1 wr) (fun _ _ i _ => n - (intOf i).toNat)
    case atStart => exact ⟨0, Nat.zero_le _, rfl, rfl, rfl, Below.refl _ _⟩
    case round =>
      obtain ⟨k, hk, rfl, rfl, rfl, hB⟩ := hrel
      have sB := hB.size
      have dr : wr.cell? ⟨w.heap.size, 0, none⟩ = some (.slice (some ⟨bA, oA, none⟩) n c) := (hB.cell (p := ⟨w.heap.size, 0, none⟩) (by show w.heap.size < w1.heap.size; omega)).trans HD1.out
      by_cases hlt : k < n
      · have hkl : k < S.length := by rw [HLL.out]; exact hlt
        have HSO := Lib.hid (pzAll_any (some ⟨bA, oA + k * 3, none⟩) 1 (c - k) [S[k]] wr (fun q hq => by rw [List.mem_singleton] at hq; rw [hq]; exact HCL.out _ (List.getElem_mem hkl)) (by omega) (rd_one3 (HR1.out.later hB (Nat.le_refl _)) hkl hlt))
        have hov := oneL_at hkl
        have hovd : oneV S[k] = ((solL [S[k]]).length : Int) := rfl
        rw [hovd] at hov
        have hle := solL_le [S[k]]
        have HBK : Hid (bK (oneL S) (k + 1) = if k = 0 ∨ (oneL S).getD k 0 < (bK (oneL S) k).2 then (k, (oneL S).getD k 0) else bK (oneL S) k) := rfl
        rw [hov] at HBK
        generalize S[k] = q at *
        have HBB := Lib.hid hB
        have hkc : k + 1 ≤ c := by omega
        have hbb : 0 ≤ (bK (oneL S) k).2 ∧ (bK (oneL S) k).2 ≤ 125 ∧ (bK (oneL S) k).1 ≤ k := by
          by_cases hk0 : k = 0
          · subst hk0; simp [bK]
          · obtain ⟨g1, g2, g3, g4⟩ := bK_prop (oneL S) k (by omega)
            have hj : (bK (oneL S) k).1 < S.length := by rw [HLL.out]; omega
            rw [g2, oneL_at hj]
            have := oneV_in S[(bK (oneL S) k).1]
            omega
        have HBE : Hid (bK (oneL S) k = ((bK (oneL S) k).1, (bK (oneL S) k).2)) := rfl
        clear hB hkl hov hovd
        generalize (bK (oneL S) k).2 = mv at *
        generalize (bK (oneL S) k).1 = bi at *
        go_wp2_with fail
        refine (HSO.out).mono ?_; rintro e w4 ⟨A4, m4, c4, rfl, hL4, ho4, hb4⟩
        rw [← hL4] at HBK hle
        have HB4 := Lib.hid (HBB.out.trans (hb4.mono sB))
        have s4 := HB4.out.size
        clear hb4 ho4 hL4 HSO dr
        by_cases hk0 : k = 0
        · have hd : ((k : Int) == 0) = true := by simp; exact hk0
          have HN : Hid (bK (oneL S) (k + 1) = (k, (m4 : Int))) := by simp only [Hid]; rw [HBK.out, if_pos (.inl hk0)]
          clear hk0
          go_wp2
          go_roundw
          case rel => exact ⟨k + 1, by omega, by go_num, by rw [HN.out], by rw [HN.out], HB4.out⟩
          case measure => simp [intOf]; omega
        · have hd : ((k : Int) == 0) = false := by simp; exact hk0
          by_cases hm : (m4 : Int) < mv
          · have HN : Hid (bK (oneL S) (k + 1) = (k, (m4 : Int))) := by simp only [Hid]; rw [HBK.out, if_pos (.inr hm)]
            clear hk0
            go_wp2
            go_roundw
            case rel => exact ⟨k + 1, by omega, by go_num, by rw [HN.out], by rw [HN.out], HB4.out⟩
            case measure => simp [intOf]; omega
          · have HN : Hid (bK (oneL S) (k + 1) = (bi, mv)) := by simp only [Hid]; rw [HBK.out, if_neg (by omega), HBE.out]
            clear hk0
            go_wp2
            go_roundw
            case rel => exact ⟨k + 1, by omega, by go_num, by rw [HN.out], by rw [HN.out], HB4.out⟩
            case measure => simp [intOf]; omega
      · have hk1 : k = n := by omega
        subst hk1
        have HBF := Lib.hid (HB1.out.trans (hB.mono HB1.out.size))
        clear hB
        go_wp2
        go_ret2
        exact ⟨by rw [HLR.out]; rfl, HBF.out⟩
end Go.Proofs.Ytghlgmbekgfmnaa
