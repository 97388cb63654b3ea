/-
  Contracts: SureRows of the program and of the model. Conditions: none.
-/
import Derived.Test.YtghlgmbekgfmnaaPzQ
namespace Go.Proofs.Ytghlgmbekgfmnaa
open Go.RowKit Go.Maps
set_option linter.unusedVariables false
set_option linter.unusedSimpArgs false

/-- what a row of the first one is -/
def su0 (L : List (List Int)) (y : Nat) : Int := (L.getD 0 []).getD y 0
def suP (L : List (List Int)) (y : Nat) (l : List Int) : Bool := decide (l.getD y 0 = su0 L y)
/-- how many squares a row has in all, or -1 -/
def suV (L : List (List Int)) (y : Nat) : Int := if L.all (suP L y) then su0 L y else -1
def suK (L : List (List Int)) (k : Nat) : List Int := (List.range k).map (suV L)
theorem suK_succ (L : List (List Int)) (k : Nat) : suK L (k + 1) = suK L k ++ [suV L k] := by simp [suK, List.range_succ]
theorem length_suK (L : List (List Int)) (k : Nat) : (suK L k).length = k := by simp [suK]
/-- what SureRows returns -/
def sureR (S : List Clu) : List Int := if fsoB S then suK (solL S) 4 else []
theorem length_sureR (S : List Clu) : (sureR S).length ≤ 4 := by unfold sureR; split <;> simp [length_suK]
theorem all_takeP {α : Type} {L : List α} {p : α → Bool} {k : Nat} (hk : k < L.length) : (L.take (k + 1)).all p = ((L.take k).all p && p L[k]) := by
  rw [List.take_succ_eq_append_getElem hk, List.all_append]; simp
theorem all_noP {α : Type} {L : List α} {p : α → Bool} {k : Nat} (hk : k < L.length) (h : p L[k] = false) : L.all p = false := by
  cases e : L.all p
  · rfl
  · rw [List.all_eq_true.1 e _ (List.getElem_mem hk)] at h; cases h

set_option maxRecDepth 100000 in
set_option maxHeartbeats 4000000 in
theorem sureRow_any (A : Option Addr) (n c B : Nat) (L : List (List Int)) (y : Nat) (w : World) (ho : w.ownsRow B 73 6 (.slice A n c) n (chCells L)) (hL : L.length = n) (hn : 0 < n) (hn2 : n ≤ 1000) (hy : y < 6) :
    Calls Try.prog 77 #[.slice A n c, .int .i64 (y : Int)] w fun e w' => e = .returned (.int .i64 (suV L y)) ∧ Below w.heap.size w w' := by
  obtain ⟨b, rfl, hb1, hbl⟩ := own_at ho (by omega)
  have p0 := (ho.cellAt (0 * 6 + y) (by omega)).trans (chCells_at _ 0 y (by omega) hy)
  rw [Nat.zero_mul, Nat.zero_add] at p0
  have HO := Lib.hid ho
  have HLL := Lib.hid hL
  have HV : Hid (suV L y = if L.all (suP L y) then su0 L y else -1) := rfl
  have hs0 : (L.getD 0 []).getD y 0 = su0 L y := rfl
  rw [hs0] at p0
  have HSP : Hid (∀ l, suP L y l = decide (l.getD y 0 = su0 L y)) := fun _ => rfl
  clear ho hL hs0
  generalize suP L y = P at *
  generalize su0 L y = s0 at *
  generalize suV L y = sv at *
  go_enter Try.func77, Try.ntmps77
  go_wp2
  go_loopw [15] (fun i wr => ∃ k : Nat, k ≤ n ∧ i = .int .i64 k ∧ Hid ((L.take k).all P = true) ∧ Below w.heap.size w wr) (fun i _ => n - (intOf i).toNat)
  case atStart => exact ⟨0, Nat.zero_le _, rfl, by simp [Hid], Below.refl _ _⟩
  case round =>
    obtain ⟨k, hk, rfl, hA, hB⟩ := hrel
    have sB := hB.size
    by_cases hlt : k < n
    · have hkl : k < L.length := by rw [HLL.out]; exact hlt
      have hob := own_later HO.out hB (Nat.le_refl _)
      have a0 := (hob.cellAt (k * 6) (by omega)).trans (chCells_at _ k 0 hkl (by omega))
      have a1 := (hob.cellAt (k * 6 + 1) (by omega)).trans (chCells_at _ k 1 hkl (by omega))
      have a2 := (hob.cellAt (k * 6 + 2) (by omega)).trans (chCells_at _ k 2 hkl (by omega))
      have a3 := (hob.cellAt (k * 6 + 3) (by omega)).trans (chCells_at _ k 3 hkl (by omega))
      have a4 := (hob.cellAt (k * 6 + 4) (by omega)).trans (chCells_at _ k 4 hkl (by omega))
      have a5 := (hob.cellAt (k * 6 + 5) (by omega)).trans (chCells_at _ k 5 hkl (by omega))
      have hgd : L.getD k [] = L[k] := by simp [List.getD, hkl]
      rw [hgd] at a0 a1 a2 a3 a4 a5
      have HTK := Lib.hid (all_takeP (p := P) hkl)
      have HNO := Lib.hid (all_noP (p := P) hkl)
      have HSQ := Lib.hid (HSP.out L[k])
      generalize L[k] = l at *
      obtain ⟨f, hf⟩ : ∃ f : Nat → Int, f = fun j => l.getD j 0 := ⟨_, rfl⟩
      rw [show l.getD 0 0 = f 0 by rw [hf]] at a0
      rw [show l.getD 1 0 = f 1 by rw [hf]] at a1
      rw [show l.getD 2 0 = f 2 by rw [hf]] at a2
      rw [show l.getD 3 0 = f 3 by rw [hf]] at a3
      rw [show l.getD 4 0 = f 4 by rw [hf]] at a4
      rw [show l.getD 5 0 = f 5 by rw [hf]] at a5
      have HSR : Hid (P l = decide (f y = s0)) := by simp only [Hid]; rw [HSQ.out, hf]
      have hbx := BoxF.new wr f
      have q0 := hbx.cell hy
      have hyl : (y : Int) < 6 := by omega
      clear hbx hf hob HSQ hgd
      generalize f y = z at *
      by_cases e : z = s0
      · have hne : (z != s0) = false := by simpa using e
        have HF := Lib.hid (show (L.take (k + 1)).all P = true by rw [HTK.out, hA.out, HSR.out, e]; simp)
        clear e HTK HNO HSR
        go_wp2
        go_roundw
        case rel => exact ⟨k + 1, by omega, by go_num, HF, by (repeat (first | (with_reducible exact Below.refl _ _) | (with_reducible assumption) | (with_reducible refine Below.drew ?_) | ((with_reducible refine balloc ?_ _ ?_); · (first | (simp; done) | (simp; omega) | omega)) | ((with_reducible refine bset ?_ _ ?_); · (first | (simp; done) | (simp; omega) | omega)) | (with_reducible refine bdrewN _ ?_) | ((with_reducible refine bcall ?_ (by assumption) ?_); · (first | (simp; done) | (simp; omega) | omega))))⟩
        case measure => simp [intOf]; omega
      · have hne : (z != s0) = true := by simpa using e
        have HF := Lib.hid (HNO.out (by rw [HSR.out]; exact decide_eq_false e))
        clear e HTK HNO HSR
        go_wp2
        go_ret
        exact ⟨ret_int (by rw [HV.out, HF.out]; rfl), by (repeat (first | (with_reducible exact Below.refl _ _) | (with_reducible assumption) | (with_reducible refine Below.drew ?_) | ((with_reducible refine balloc ?_ _ ?_); · (first | (simp; done) | (simp; omega) | omega)) | ((with_reducible refine bset ?_ _ ?_); · (first | (simp; done) | (simp; omega) | omega)) | (with_reducible refine bdrewN _ ?_) | ((with_reducible refine bcall ?_ (by assumption) ?_); · (first | (simp; done) | (simp; omega) | omega))))⟩
    · have hT := hA.out
      rw [List.take_of_length_le (by rw [HLL.out]; omega)] at hT
      have HT := Lib.hid hT
      clear hT
      go_wp2
      go_ret
      exact ⟨ret_int (by rw [HV.out, HT.out]; rfl), hB⟩

set_option maxRecDepth 100000 in
set_option maxHeartbeats 8000000 in
theorem sureRows_any (A : Option Addr) (n c : Nat) (S : List Clu) (w : World) (hr : Rd w 3 A n (boxCells S)) (hn : n ≤ 4000000000) :
    Calls Try.prog 43 #[puzV A n c] w fun e w' => ∃ A' n' c', e = .returned (.tuple #[.slice A' n' c', .bool (fsoB S)]) ∧ w'.ownsRow w.heap.size 3 1 (.slice A' n' c') n' (intCells (sureR S)) ∧ Below w.heap.size w w' := by
  have HG := Lib.hid (fun wx h => isPuzzle_any A n c S wx h hn)
  have hll : S.length = n := by have := hr.1; rw [length_boxCells] at this; omega
  cases hb : pzB S
  · have e1 : fsoB S = false := by simp [fsoB, soR_no hb]
    rw [show sureR S = [] by simp [sureR, e1], e1]
    have HB := Lib.hid hb
    clear hb e1
    go_enter Try.func43, Try.ntmps43
    go_wp2_with fail
    refine (HG.out _ (hr.later (B := w.heap.size) (by (repeat (first | (with_reducible exact Below.refl _ _) | (with_reducible assumption) | (with_reducible refine Below.drew ?_) | ((with_reducible refine balloc ?_ _ ?_); · (first | (simp; done) | (simp; omega) | omega)) | ((with_reducible refine bset ?_ _ ?_); · (first | (simp; done) | (simp; omega) | omega)) | (with_reducible refine bdrewN _ ?_) | ((with_reducible refine bcall ?_ (by assumption) ?_); · (first | (simp; done) | (simp; omega) | omega))))) (Nat.le_refl _))).mono ?_; rintro e w1 ⟨rfl, hb1⟩
    rw [HB.out]
    go_wp2
    go_ret2
    exact ⟨none, 0, 0, rfl, World.ownsRow_nil _ _ _ _, by (repeat (first | (with_reducible exact Below.refl _ _) | (with_reducible assumption) | (with_reducible refine Below.drew ?_) | ((with_reducible refine balloc ?_ _ ?_); · (first | (simp; done) | (simp; omega) | omega)) | ((with_reducible refine bset ?_ _ ?_); · (first | (simp; done) | (simp; omega) | omega)) | (with_reducible refine bdrewN _ ?_) | ((with_reducible refine bcall ?_ (by assumption) ?_); · (first | (simp; done) | (simp; omega) | omega))))⟩
  · obtain ⟨i0, hi, hz0, hz1, hz2⟩ := info_parts int_info
    have HFB : Hid (fsoB S = decide (0 < (solL S).length)) := by simp [Hid, fsoB, soR_yes hb]
    have HSU : Hid (sureR S = if fsoB S then suK (solL S) 4 else []) := rfl
    have HB := Lib.hid hb
    obtain ⟨hl6, hcl⟩ := pzB_true hb
    have HCL := Lib.hid hcl
    have n6 : n ≤ 6 := by omega
    clear hb hcl hll hl6
    go_enter Try.func43, Try.ntmps43
    go_wp2_with fail
    refine (HG.out _ (hr.later (B := w.heap.size) (by (repeat (first | (with_reducible exact Below.refl _ _) | (with_reducible assumption) | (with_reducible refine Below.drew ?_) | ((with_reducible refine balloc ?_ _ ?_); · (first | (simp; done) | (simp; omega) | omega)) | ((with_reducible refine bset ?_ _ ?_); · (first | (simp; done) | (simp; omega) | omega)) | (with_reducible refine bdrewN _ ?_) | ((with_reducible refine bcall ?_ (by assumption) ?_); · (first | (simp; done) | (simp; omega) | omega))))) (Nat.le_refl _))).mono ?_; rintro e w1 ⟨rfl, hb1⟩
    rw [HB.out]
    have s1 := hb1.size
    simp at s1
    have d0 : w1.cell? ⟨w.heap.size, 0, none⟩ = some (.slice A n c) := (hb1.cell (p := ⟨w.heap.size, 0, none⟩) (by simp)).trans (by simp [go_sem])
    have hB1 : Below w.heap.size w w1 := by (repeat (first | (with_reducible exact Below.refl _ _) | (with_reducible assumption) | (with_reducible refine Below.drew ?_) | ((with_reducible refine balloc ?_ _ ?_); · (first | (simp; done) | (simp; omega) | omega)) | ((with_reducible refine bset ?_ _ ?_); · (first | (simp; done) | (simp; omega) | omega)) | (with_reducible refine bdrewN _ ?_) | ((with_reducible refine bcall ?_ (by assumption) ?_); · (first | (simp; done) | (simp; omega) | omega))))
    have HB1 := Lib.hid hB1
    have hr1 := hr.later hB1 (Nat.le_refl _)
    have HR1 := Lib.hid hr1
    clear hb1 hB1 hr1
    go_wp2
    refine wp_region_held_drew (S := (fun w' => w'.cell? ⟨w.heap.size, 0, none⟩ = some (.slice A n c))) (by kernel_rfl) ?_ (fun hHeld => ?_)
    · ((try dsimp only); (repeat' apply And.intro); all_goals ((repeat (first | (with_reducible refine cell_drew ?_) | (with_reducible refine cell_drewN _ ?_) | ((with_reducible refine cell_alloc ?_ ?_); · first | omega | (simp; done) | (simp; omega) | assumption) | ((with_reducible refine cell_set ?_ ?_); · first | (intro e; injection e; omega) | (intro e; simp at e; done) | (intro e; simp at e; omega)))); first | assumption | (simp; done)))
    refine reg_on (i := 0) (d := 10) (v := ?rv1) rfl rfl (by kernel_rfl) (by kernel_rfl) (by kernel_rfl) (fun _ _ _ h => h) (by rfl) ?ry1 (by assumption) ?rr1
    case ry1 => (intro wz hSw; (try dsimp only at hSw); go_simp; try with_reducible rfl)
    (try simp only [Act.put, List.setIfInBounds_toArray, List.set_cons_zero, List.set_cons_succ])
    refine reg_on (i := 1) (d := 11) (v := ?rv2) rfl rfl (by kernel_rfl) (by kernel_rfl) (by kernel_rfl) (fun _ _ _ h => h) (by rfl) ?ry2 (by assumption) ?rr2
    case ry2 => (intro wz hSw; (try dsimp only at hSw); go_simp; try with_reducible rfl)
    (try simp only [Act.put, List.setIfInBounds_toArray, List.set_cons_zero, List.set_cons_succ])
    refine wpAnyH_ready (rs := [2]) (by kernel_rfl) (by simp) ?_
    refine AllReadyH.cons rfl (fun K hK => ?_) AllReadyH.nil
    go_simp
    go_at_call 72; refine (clueTeller_any _).mono ?_; rintro e w2 ⟨KK, h0, rfl, ht2, hb2, hK2⟩; have k0 : w2.cell? ⟨w.heap.size, 0, none⟩ = some (.slice A n c) := (hb2.cell (p := ⟨w.heap.size, 0, none⟩) (by first | omega | (simp; omega))).trans (by first | assumption | (go_split_ands; assumption))
    refine hK.out _ _ ?_ (fun hHeld => ?_)
    · ((try dsimp only); (repeat' apply And.intro); all_goals ((repeat (first | (with_reducible refine cell_drew ?_) | (with_reducible refine cell_drewN _ ?_) | ((with_reducible refine cell_alloc ?_ ?_); · first | omega | (simp; done) | (simp; omega) | assumption) | ((with_reducible refine cell_set ?_ ?_); · first | (intro e; injection e; omega) | (intro e; simp at e; done) | (intro e; simp at e; omega)))); first | assumption | (simp; done)))
    clear hK K
    (try simp only [Act.put, List.setIfInBounds_toArray, List.set_cons_zero, List.set_cons_succ])
    refine wpAnyH_ready (rs := [3]) (by kernel_rfl) (by simp) ?_
    refine AllReadyH.cons rfl (fun K hK => ?_) AllReadyH.nil
    go_simp
    go_at_call 74; refine (solutionsOf_any KK _ h0 A n c S w2 HCL.out (by omega) (fun w' h => rd_chg (Rd.later HR1.out (Below.refl _ _).drew (Nat.le_refl _)) hb2 hK2 h) ht2).mono ?_; rintro e w3 ⟨A3, m, c3, rfl, hL3, ho3, ht3, hch3⟩; have hb3 := Chg.below hch3 hb2 hK2; have k1 : w3.cell? ⟨w.heap.size, 0, none⟩ = some (.slice A n c) := (hb3.cell (p := ⟨w.heap.size, 0, none⟩) (by first | omega | (simp; omega))).trans (by first | assumption | (go_split_ands; assumption))
    refine hK.out _ _ ?_ (fun hHeld => ?_)
    · ((try dsimp only); (repeat' apply And.intro); all_goals ((repeat (first | (with_reducible refine cell_drew ?_) | (with_reducible refine cell_drewN _ ?_) | ((with_reducible refine cell_alloc ?_ ?_); · first | omega | (simp; done) | (simp; omega) | assumption) | ((with_reducible refine cell_set ?_ ?_); · first | (intro e; injection e; omega) | (intro e; simp at e; done) | (intro e; simp at e; omega)))); first | assumption | (simp; done)))
    clear hK K
    (try simp only [Act.put, List.setIfInBounds_toArray, List.set_cons_zero, List.set_cons_succ])
    refine reg_on (i := 4) (d := 4) (v := ?rv5) rfl rfl (by kernel_rfl) (by kernel_rfl) (by kernel_rfl) (fun _ _ _ h => h) (by rfl) ?ry5 (by assumption) ?rr5
    case ry5 => (intro wz hSw; (try dsimp only at hSw); go_simp; try with_reducible rfl)
    (try simp only [Act.put, List.setIfInBounds_toArray, List.set_cons_zero, List.set_cons_succ])
    refine wpAnyH_done (by kernel_rfl) ?_ _
    have hB3 : Below w.heap.size w w3 := HB1.out.drew.trans (hb3.mono HB1.out.drew.size)
    have HB3 := Lib.hid hB3
    have HO := Lib.hid ho3
    have HLL := Lib.hid hL3
    have hm125 : m ≤ 125 := by rw [← hL3]; exact solL_le S
    have s3 := hB3.size
    clear hb2 hb3 hch3 ht2 ht3 hK2 k0 k1 d0 hL3 ho3 hB3 HB1 HR1
    generalize hCL : solL S = CL at *
    clear hCL
    by_cases hm0 : m = 0
    · subst hm0
      have hfb : fsoB S = false := by rw [HFB.out, HLL.out]; rfl
      have HF2 := Lib.hid hfb
      have hsu : sureR S = [] := by rw [HSU.out, hfb]; rfl
      have HS2 := Lib.hid hsu
      clear hfb hsu
      go_wp2
      go_ret2
      exact ⟨none, 0, 0, by rw [HF2.out]; rfl, by rw [HS2.out]; exact World.ownsRow_nil _ _ _ _, HB3.out⟩
    · have hfb : fsoB S = true := by rw [HFB.out, HLL.out]; exact decide_eq_true (by omega)
      have HF2 := Lib.hid hfb
      have hsu : sureR S = suK CL 4 := by rw [HSU.out, hfb]; rfl
      have HS2 := Lib.hid hsu
      have hne : ((m : Int) == 0) = false := by simp; omega
      clear hfb hsu
      go_wp2
      go_loopw [5, 17] (fun v i wr => ∃ (k : Nat) (A' : Option Addr) (c' : Nat), k ≤ 4 ∧ i = .int .i64 k ∧ v = .slice A' k c' ∧ wr.ownsRow w3.heap.size 3 1 (.slice A' k c') k (intCells (suK CL k)) ∧ Below w3.heap.size w3 wr) (fun _ i _ => 4 - (intOf i).toNat)
      case atStart => exact ⟨0, none, 0, Nat.zero_le _, rfl, rfl, World.ownsRow_nil _ _ _ _, Below.refl _ _⟩
      case round =>
        obtain ⟨k, A', c', hk, rfl, rfl, hown, hB⟩ := hrel
        have sB := hB.size
        by_cases hlt : k < 4
        · have hSR := Lib.hid (sureRow_any A3 m c3 _ CL k wr (own_later HO.out hB (Nat.le_refl _)) HLL.out (by omega) (by omega) (by omega))
          have HSK := Lib.hid (suK_succ CL k)
          generalize suV CL k = v at *
          have HOW := Lib.hid hown
          have HBB := Lib.hid hB
          have hc3 : k + 1 ≤ maxLen := by simp only [maxLen]; omega
          clear hown hB
          go_wp2_with fail
          refine (hSR.out).mono ?_; rintro e w4 ⟨rfl, hb4⟩
          have own4 := own_later HOW.out hb4 (Nat.le_refl _)
          have hB4 := HBB.out.trans (hb4.mono sB)
          have HO4 := Lib.hid own4
          have HB4 := Lib.hid hB4
          clear hb4 own4 hB4
          go_wp2_with (at_builtin; refine wpList_append_own _ rfl (.tmp 20) (.tmp 24) 39 rfl w3.heap.size 3 i0 (.int .i64 0) 1 8 Try.underlying39 hi hz0 hz1 hz2 rfl (by decide) _ _ _ rfl (HO4.out.alloc _) ⟨w4.heap.size, 0, none⟩ 1 1 [.int .i64 v] rfl rfl (new1 _ _ _) (int_oneCell [v]) hc3 (by omega) (by have := HB4.out.size; simp; omega) ?_)
          intro v' w5 hown' hgrow _
          have hb5 := gb_new (Nat.le_refl _) (HB4.out.alloc (by have := HB4.out.size; omega) (.cells #[.int .i64 v] 3)) hgrow (fun g hg => (HO4.out.lt g hg).1)
          obtain ⟨A2, c2', rfl⟩ := own_slice hown'
          clear hgrow hc3
          go_wp2
          go_roundw
          case rel => exact ⟨k + 1, A2, c2', by omega, by go_num, rfl, by rw [HSK.out, intCells_append]; exact hown', hb5⟩
          case measure => simp [intOf]; omega
        · have hk4 : k = 4 := by omega
          subst hk4
          have HOF := Lib.hid (own_base hown s3)
          have HBF := Lib.hid (HB3.out.trans (hB.mono s3))
          clear hown hB
          go_wp2
          go_ret2
          exact ⟨A', 4, c', by rw [HF2.out]; rfl, by rw [HS2.out]; exact HOF.out, HBF.out⟩

set_option maxRecDepth 100000 in
set_option maxHeartbeats 8000000 in
theorem sSureRows_any (A : Option Addr) (n c : Nat) (S : List Clu) (w : World) (hr : Rd w 3 A n (boxCells S)) (hn : n ≤ 4000000000) :
    Calls Try.prog 42 #[puzV A n c] w fun e w' => ∃ A' n' c', e = .returned (.tuple #[.slice A' n' c', .bool (fsoB S)]) ∧ w'.ownsRow w.heap.size 3 1 (.slice A' n' c') n' (intCells (sureR S)) ∧ Below w.heap.size w w' := by
  have HG := Lib.hid (fun wx h => pzGood_any A n c S wx h hn)
  cases hb : pzB S
  · have e1 : fsoB S = false := by simp [fsoB, soR_no hb]
    rw [show sureR S = [] by simp [sureR, e1], e1]
    rw [hb] at HG
    clear hb e1
    go_enter Try.func42, Try.ntmps42
    go_wp2_with fail
    refine (HG.out _ (hr.later (B := w.heap.size) (by (repeat (first | (with_reducible exact Below.refl _ _) | (with_reducible assumption) | (with_reducible refine Below.drew ?_) | ((with_reducible refine balloc ?_ _ ?_); · (first | (simp; done) | (simp; omega) | omega)) | ((with_reducible refine bset ?_ _ ?_); · (first | (simp; done) | (simp; omega) | omega)) | (with_reducible refine bdrewN _ ?_) | ((with_reducible refine bcall ?_ (by assumption) ?_); · (first | (simp; done) | (simp; omega) | omega))))) (Nat.le_refl _))).mono ?_; rintro e w1 ⟨rfl, hb1⟩
    go_wp2
    go_ret2
    exact ⟨none, 0, 0, rfl, World.ownsRow_nil _ _ _ _, by (repeat (first | (with_reducible exact Below.refl _ _) | (with_reducible assumption) | (with_reducible refine Below.drew ?_) | ((with_reducible refine balloc ?_ _ ?_); · (first | (simp; done) | (simp; omega) | omega)) | ((with_reducible refine bset ?_ _ ?_); · (first | (simp; done) | (simp; omega) | omega)) | (with_reducible refine bdrewN _ ?_) | ((with_reducible refine bcall ?_ (by assumption) ?_); · (first | (simp; done) | (simp; omega) | omega))))⟩
  · obtain ⟨i0, hi, hz0, hz1, hz2⟩ := info_parts int_info
    have HFB : Hid (fsoB S = decide (0 < (solL S).length)) := by simp [Hid, fsoB, soR_yes hb]
    have HSU : Hid (sureR S = if fsoB S then suK (solL S) 4 else []) := rfl
    rw [hb] at HG
    obtain ⟨hl6, hcl⟩ := pzB_true hb
    have hll : S.length = n := by have := hr.1; rw [length_boxCells] at this; omega
    have HA := Lib.hid (fun wx h => pzAll_any A n c S wx hcl (by omega) h)
    have HR := Lib.hid hr
    have HQ : Hid (∀ k (hk : k < (solL S).length), ChOK (solL S)[k]) := fun k hk => (mem_solL (List.getElem_mem hk)).1
    have hle := solL_le S
    clear hb hl6 hcl hll
    go_enter Try.func42, Try.ntmps42
    go_wp2_with fail
    refine (HG.out _ (hr.later (B := w.heap.size) (by (repeat (first | (with_reducible exact Below.refl _ _) | (with_reducible assumption) | (with_reducible refine Below.drew ?_) | ((with_reducible refine balloc ?_ _ ?_); · (first | (simp; done) | (simp; omega) | omega)) | ((with_reducible refine bset ?_ _ ?_); · (first | (simp; done) | (simp; omega) | omega)) | (with_reducible refine bdrewN _ ?_) | ((with_reducible refine bcall ?_ (by assumption) ?_); · (first | (simp; done) | (simp; omega) | omega))))) (Nat.le_refl _))).mono ?_; rintro e w1 ⟨rfl, hb1⟩
    have s1 := hb1.size
    simp at s1
    have d0 : w1.cell? ⟨w.heap.size, 0, none⟩ = some (.slice A n c) := (hb1.cell (p := ⟨w.heap.size, 0, none⟩) (by simp)).trans (by simp [go_sem])
    have hB1 : Below w.heap.size w w1 := by (repeat (first | (with_reducible exact Below.refl _ _) | (with_reducible assumption) | (with_reducible refine Below.drew ?_) | ((with_reducible refine balloc ?_ _ ?_); · (first | (simp; done) | (simp; omega) | omega)) | ((with_reducible refine bset ?_ _ ?_); · (first | (simp; done) | (simp; omega) | omega)) | (with_reducible refine bdrewN _ ?_) | ((with_reducible refine bcall ?_ (by assumption) ?_); · (first | (simp; done) | (simp; omega) | omega))))
    have HB1 := Lib.hid hB1
    clear hb1 hB1
    go_wp2_with fail
    refine (HA.out _ (HR.out.later HB1.out (Nat.le_refl _))).mono ?_; rintro e w2 ⟨A2, n2, c2, rfl, hn2, hss, hb2⟩
    have HB2 := Lib.hid (HB1.out.trans (hb2.mono HB1.out.size))
    have s2 := hb2.size
    have s02 := HB2.out.size
    obtain ⟨AC, CC, hac⟩ := hss
    have HAC := Lib.hid hac
    have HLL : Hid ((solL S).length = n2) := hn2.symm
    have hn125 : n2 ≤ 125 := by omega
    clear hac hb2 d0 hn2 hle
    generalize hCL : solL S = CL at *
    clear hCL
    by_cases hm0 : n2 = 0
    · subst hm0
      have hfb : fsoB S = false := by rw [HFB.out, HLL.out]; rfl
      have HF2 := Lib.hid hfb
      have hsu : sureR S = [] := by rw [HSU.out, hfb]; rfl
      have HS2 := Lib.hid hsu
      clear hfb hsu
      go_wp2
      go_ret2
      exact ⟨none, 0, 0, by rw [HF2.out]; rfl, by rw [HS2.out]; exact World.ownsRow_nil _ _ _ _, HB2.out⟩
    · have hfb : fsoB S = true := by rw [HFB.out, HLL.out]; exact decide_eq_true (by omega)
      have HF2 := Lib.hid hfb
      have hsu : sureR S = suK CL 4 := by rw [HSU.out, hfb]; rfl
      have HS2 := Lib.hid hsu
      have hne : ((n2 : Int) == 0) = false := by simp; omega
      have hp0 : 0 < n2 := by omega
      clear hfb hsu
      go_wp2
      go_loopw [5, 6] (fun v i wr => ∃ (k : Nat) (A' : Option Addr) (c' : Nat), k ≤ 4 ∧ i = .int .i64 k ∧ v = .slice A' k c' ∧ wr.ownsRow w2.heap.size 3 1 (.slice A' k c') k (intCells (suK CL k)) ∧ Below w2.heap.size w2 wr) (fun _ i _ => 4 - (intOf i).toNat)
      case atStart => exact ⟨0, none, 0, Nat.zero_le _, rfl, rfl, World.ownsRow_nil _ _ _ _, Below.refl _ _⟩
      case round =>
        obtain ⟨k, A', c', hk, rfl, rfl, hown, hB⟩ := hrel
        have sB := hB.size
        by_cases hlt : k < 4
        · have htop := own_later HAC.out.top hB (Nat.le_refl _)
          obtain ⟨bm, rfl, hbm1, hbm⟩ := own_at htop (by omega)
          have hkl : 0 < CL.length := by rw [HLL.out]; exact hp0
          have pm := htop.cellAt 0 (by omega)
          rw [ssCells_at hp0] at pm
          have hrow := own_later (HAC.out.row 0 hp0) hB (Nat.le_refl _)
          have hln : lsR CL 0 = CL[0] := by simp [lsR, List.getD, List.getElem?_eq_getElem hkl]
          have hq := HQ.out 0 hkl
          have hs0 : (CL[0]).getD k 0 = su0 CL k := by simp [su0, List.getD, List.getElem?_eq_getElem hkl]
          rw [hln] at pm hrow
          have HPV := Lib.hid (fun (wx : World) (h : Rd wx 1 (AC 0) CL[0].length (intCells CL[0])) => pzValue_1 k (AC 0) CL[0].length (CC 0) CL[0] none 0 0 wx h hq)
          rw [hs0] at HPV
          have HRW := Lib.hid (Rd.of_own hrow)
          have HSK := Lib.hid (suK_succ CL k)
          have HV : Hid (suV CL k = if CL.all (suP CL k) then su0 CL k else -1) := rfl
          have HSP : Hid (∀ l, suP CL k l = decide (l.getD k 0 = su0 CL k)) := fun _ => rfl
          generalize CL[0] = l0 at *
          generalize suP CL k = P at *
          generalize su0 CL k = s0 at *
          generalize suV CL k = sv at *
          have HOW := Lib.hid hown
          have HBB := Lib.hid hB
          have hdk : decide ((k : Int) < 4) = true := decide_eq_true (by omega)
          have pm' : wr.cell? ⟨bm, 0, none⟩ = some (.slice (AC 0) l0.length (CC 0)) := pm
          obtain ⟨wo, rfl⟩ : ∃ wo : World, wo = wr := ⟨wr, rfl⟩
          clear hln hq hs0 hrow htop pm hown hB hkl
          go_wp2_with fail
          refine (HPV.out _ HRW.out).mono ?_; rintro e w4 ⟨rfl, hb4⟩
          have s4 := hb4.size
          have HB4 := Lib.hid hb4
          clear hb4 pm'
          go_wp2
          go_loopw [7, 30] (fun v i wi => ∃ p : Nat, p ≤ n2 ∧ i = .int .i64 p ∧ v = .int .i64 s0 ∧ Hid ((CL.take p).all P = true) ∧ Below wo.heap.size wo wi) (fun _ i _ => n2 - (intOf i).toNat)
          case atStart => exact ⟨0, Nat.zero_le _, rfl, rfl, by simp [Hid], HB4.out⟩
          case round =>
            obtain ⟨p, hp, rfl, rfl, hA, hBi⟩ := hrel
            have sBi := hBi.size
            by_cases hltp : p < n2
            · have hpl : p < CL.length := by rw [HLL.out]; exact hltp
              have htop := own_later HAC.out.top (HBB.out.trans (hBi.mono sB)) (Nat.le_refl _)
              have pm := htop.cellAt p (by omega)
              rw [ssCells_at hltp] at pm
              have hrow := own_later (HAC.out.row p hltp) (HBB.out.trans (hBi.mono sB)) (Nat.le_refl _)
              have hln : lsR CL p = CL[p] := by simp [lsR, List.getD, List.getElem?_eq_getElem hpl]
              have hq := HQ.out p hpl
              rw [hln] at pm hrow
              have HTK := Lib.hid (all_takeP (p := P) hpl)
              have HNO := Lib.hid (all_noP (p := P) hpl)
              have HSQ := Lib.hid (HSP.out CL[p])
              have HPW := Lib.hid (fun (wx : World) (h : Rd wx 1 (AC p) CL[p].length (intCells CL[p])) => pzValue_1 k (AC p) CL[p].length (CC p) CL[p] none 0 0 wx h hq)
              have HRP := Lib.hid (Rd.of_own hrow)
              generalize CL[p] = l at *
              have pm' : wr.cell? ⟨bm, p, none⟩ = some (.slice (AC p) l.length (CC p)) := pm
              generalize l.getD k 0 = z at *
              have HBJ := Lib.hid hBi
              clear hln hq hrow htop pm hpl hBi
              by_cases e : z = s0
              · have hne2 : (z != s0) = false := by simpa using e
                have HF := Lib.hid (show (CL.take (p + 1)).all P = true by rw [HTK.out, hA.out, HSQ.out, e]; simp)
                clear e HTK HNO HSQ
                go_wp2_with fail
                refine (HPW.out _ HRP.out).mono ?_; rintro e w5 ⟨rfl, hb5⟩
                have HB5 := Lib.hid (HBJ.out.trans (hb5.mono sBi))
                clear hb5 pm'
                go_wp2
                go_roundw
                case rel => exact ⟨p + 1, by omega, by go_num, rfl, HF, HB5.out⟩
                case measure => simp [intOf]; omega
              · have hne2 : (z != s0) = true := by simpa using e
                have HF := Lib.hid (HNO.out (by rw [HSQ.out]; exact decide_eq_false e))
                have HSVE : Hid (sv = -1) := by simp only [Hid]; rw [HV.out, HF.out]; rfl
                clear e HTK HNO HSQ
                go_wp2_with fail
                refine (HPW.out _ HRP.out).mono ?_; rintro e wr ⟨rfl, hb5⟩
                have HBI := Lib.hid (HBJ.out.trans (hb5.mono sBi))
                have sBi := HBI.out.size
                clear hb5 pm'
                have HOW2 := Lib.hid (own_later HOW.out HBI.out (Nat.le_refl _))
                have HBB2 := Lib.hid (HBB.out.trans (HBI.out.mono sB))
                have hc3 : k + 1 ≤ maxLen := by simp only [maxLen]; omega
                go_wp2_with (at_builtin; refine wpList_append_own _ rfl (.tmp 40) (.tmp 42) 39 rfl w2.heap.size 3 i0 (.int .i64 0) 1 8 Try.underlying39 hi hz0 hz1 hz2 rfl (by decide) _ _ _ rfl (HOW2.out.alloc _) ⟨wr.heap.size, 0, none⟩ 1 1 [.int .i64 (-1)] rfl rfl (new1 _ _ _) (int_oneCell [-1]) hc3 (by omega) (by have := HBB2.out.size; simp; omega) ?_)
                intro v' w5 hown' hgrow _
                have hb5 := gb_new (Nat.le_refl _) (HBB2.out.alloc (by have := HBB2.out.size; omega) (.cells #[.int .i64 (-1)] 3)) hgrow (fun g hg => (HOW2.out.lt g hg).1)
                obtain ⟨A5, c5, rfl⟩ := own_slice hown'
                clear hgrow hc3
                go_wp2
                go_roundw
                case rel => exact ⟨k + 1, A5, c5, by omega, by go_num, rfl, by rw [HSK.out, HSVE.out, intCells_append]; exact hown', hb5⟩
                case measure => simp [intOf]; omega
            · have hT := hA.out
              rw [List.take_of_length_le (by rw [HLL.out]; omega)] at hT
              have HSVE : Hid (sv = s0) := by simp only [Hid]; rw [HV.out, hT]; rfl
              have HBI := Lib.hid hBi
              clear hT hBi
              have HOW2 := Lib.hid (own_later HOW.out HBI.out (Nat.le_refl _))
              have HBB2 := Lib.hid (HBB.out.trans (HBI.out.mono sB))
              have hc3 : k + 1 ≤ maxLen := by simp only [maxLen]; omega
              go_wp2_with (at_builtin; refine wpList_append_own _ rfl (.tmp 40) (.tmp 42) 39 rfl w2.heap.size 3 i0 (.int .i64 0) 1 8 Try.underlying39 hi hz0 hz1 hz2 rfl (by decide) _ _ _ rfl (HOW2.out.alloc _) ⟨wr.heap.size, 0, none⟩ 1 1 [.int .i64 (s0)] rfl rfl (new1 _ _ _) (int_oneCell [s0]) hc3 (by omega) (by have := HBB2.out.size; simp; omega) ?_)
              intro v' w5 hown' hgrow _
              have hb5 := gb_new (Nat.le_refl _) (HBB2.out.alloc (by have := HBB2.out.size; omega) (.cells #[.int .i64 (s0)] 3)) hgrow (fun g hg => (HOW2.out.lt g hg).1)
              obtain ⟨A5, c5, rfl⟩ := own_slice hown'
              clear hgrow hc3
              go_wp2
              go_roundw
              case rel => exact ⟨k + 1, A5, c5, by omega, by go_num, rfl, by rw [HSK.out, HSVE.out, intCells_append]; exact hown', hb5⟩
              case measure => simp [intOf]; omega
        · have hk4 : k = 4 := by omega
          subst hk4
          have HOF := Lib.hid (own_base hown s02)
          have HBF := Lib.hid (HB2.out.trans (hB.mono s02))
          clear hown hB
          go_wp2
          go_ret2
          exact ⟨A', 4, c', by rw [HF2.out]; rfl, by rw [HS2.out]; exact HOF.out, HBF.out⟩
end Go.Proofs.Ytghlgmbekgfmnaa
