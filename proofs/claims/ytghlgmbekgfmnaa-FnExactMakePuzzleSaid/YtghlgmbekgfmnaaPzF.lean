/-
  Contracts: fitsAll of the program: whether a chomp fits all clues. Conditions: none.
-/
import Derived.Test.YtghlgmbekgfmnaaPzT
namespace Go.Proofs.Ytghlgmbekgfmnaa
open Go.RowKit Go.Maps
set_option linter.unusedVariables false
set_option linter.unusedSimpArgs false

theorem fits_take {S : List Clu} {l : List Int} {k : Nat} (hk : k < S.length) : fits (S.take (k + 1)) l = (fits (S.take k) l && fitB S[k] l) := by
  unfold fits
  rw [List.take_succ_eq_append_getElem hk, List.all_append]; simp
theorem fits_no {S : List Clu} {l : List Int} {k : Nat} (hk : k < S.length) (h : fitB S[k] l = false) : fits S l = false := by
  cases e : fits S l
  · rfl
  · rw [List.all_eq_true.1 e _ (List.getElem_mem hk)] at h; cases h

set_option maxRecDepth 100000 in
set_option maxHeartbeats 4000000 in
theorem fitsAll_any (K : Nat → Prop) (N h0 : Nat) (A : Option Addr) (n c : Nat) (S : List Clu) (l : List Int) (f : Nat → Int) (w : World) (hS : ∀ q ∈ S, cluB q = true) (hn : n ≤ 1000) (hr : ∀ w', Chg K w w' → Rd w' 3 A n (boxCells S)) (hl : ChOK l) (hf : f = fl l) (hm : TM K N w h0) :
    Calls Try.prog 71 #[.slice A n c, arrF f, tellF h0] w fun e w' => e = .returned (.bool (fits S l)) ∧ TM K N w' h0 ∧ Chg K w w' := by
  have hr0 := hr w (Chg.refl _ _)
  have hll : S.length = n := by have := hr0.1; rw [length_boxCells] at this; omega
  have HLL := Lib.hid hll
  have HN0 := Lib.hid hm.size
  have HKN := Lib.hid hm.kn
  have hb0 : Below w.heap.size w (w.alloc (.cells #[.int .i64 (f 0), .int .i64 (f 1), .int .i64 (f 2), .int .i64 (f 3), .int .i64 (f 4), .int .i64 (f 5)] 73)) := (Below.refl _ _).alloc (Nat.le_refl _) _
  have P0 := Lib.hid (show TM K N (w.alloc (.cells #[.int .i64 (f 0), .int .i64 (f 1), .int .i64 (f 2), .int .i64 (f 3), .int .i64 (f 4), .int .i64 (f 5)] 73)) h0 ∧ BoxF (w.alloc (.cells #[.int .i64 (f 0), .int .i64 (f 1), .int .i64 (f 2), .int .i64 (f 3), .int .i64 (f 4), .int .i64 (f 5)] 73)) w.heap.size f ∧ Chg K w (w.alloc (.cells #[.int .i64 (f 0), .int .i64 (f 1), .int .i64 (f 2), .int .i64 (f 3), .int .i64 (f 4), .int .i64 (f 5)] 73)) from ⟨hm.below hb0 (Nat.le_refl _), BoxF.new w f, Chg.of_below hb0 (Nat.le_refl _)⟩)
  have hnN : N ≤ w.heap.size := HN0.out
  have HR := Lib.hid hr
  have HTE : Hid (∀ (q : Clu) (wx : World), q ∈ S → TM K N wx h0 → Calls Try.prog 101 #[bx3 q.1 q.2.1 q.2.2, arrF f, .pointer (some ⟨h0, 0, none⟩)] wx fun e w' => e = .returned (.int .i64 (tellI q.1 q.2.1 l)) ∧ TM K N w' h0 ∧ Chg K wx w') := fun q wx hq h => by
    have hc := cluB_true (hS q hq)
    exact tell_any K N h0 q.1 q.2.1 q.2.2 l f wx ⟨hc.1, hc.2.1⟩ ⟨hc.2.2.1, hc.2.2.2.1⟩ hl hf h
  clear hr hr0 hll hm hb0 hS hl hf
  go_enter Try.func71, Try.ntmps71
  go_wp2
  go_loopw [11] (fun i wr => ∃ k : Nat, k ≤ n ∧ i = .int .i64 k ∧ Hid (fits (S.take k) l = true) ∧ TM K N wr h0 ∧ BoxF wr w.heap.size f ∧ Chg K w wr) (fun i _ => n - (intOf i).toNat)
  case atStart => exact ⟨0, Nat.zero_le _, rfl, by simp [Hid, fits], P0.out.1, P0.out.2.1, P0.out.2.2⟩
  case round =>
    obtain ⟨k, hk, rfl, hT, hm, hx, hch⟩ := hrel
    have sw := hch.size
    have hwlt := hx.lt
    by_cases hlt : k < n
    · obtain ⟨b, o, rfl, hbl, hxk, p1, p2, p3⟩ := (HR.out wr hch).box hlt
      have HTK := Lib.hid (fits_take (l := l) hxk)
      have HNO := Lib.hid (fits_no (l := l) hxk)
      have HTE := Lib.hid (HTE.out S[k])
      have HMEM := Lib.hid (List.getElem_mem hxk)
      generalize S[k] = q at *
      obtain ⟨x, y, z⟩ := q
      simp only at p1 p2 p3
      have HTE := Lib.hid (fun wx h => HTE.out wx HMEM.out h)
      simp only at HTE
      have hfb : fitB (x, y, z) l = decide (tellI x y l = z) := rfl
      rw [hfb] at HTK HNO
      have hba : Below wr.heap.size wr (wr.alloc (.cells #[.int .i64 x, .int .i64 y, .int .i64 z] 25)) := (Below.refl _ _).alloc (Nat.le_refl _) _
      have HM1 := Lib.hid (hm.below hba (Nat.le_refl _))
      have hx1 := hx.below hba (Nat.le_refl _)
      have HX1 := Lib.hid hx1
      have HC1 := Lib.hid (hch.trans (Chg.of_below hba (Nat.le_refl _)))
      obtain ⟨c0, c1, c2, c3, c4, c5⟩ := hx1.cells
      have d0 : (wr.alloc (.cells #[.int .i64 x, .int .i64 y, .int .i64 z] 25)).cell? ⟨wr.heap.size, 0, none⟩ = some (.int .i64 x) := by simp [go_sem]
      have d1 : (wr.alloc (.cells #[.int .i64 x, .int .i64 y, .int .i64 z] 25)).cell? ⟨wr.heap.size, 1, none⟩ = some (.int .i64 y) := by simp [go_sem]
      have d2 : (wr.alloc (.cells #[.int .i64 x, .int .i64 y, .int .i64 z] 25)).cell? ⟨wr.heap.size, 2, none⟩ = some (.int .i64 z) := by simp [go_sem]
      clear hba hx1 hx hm hch hfb hxk HR
      generalize tellI x y l = tv at *
      by_cases e : tv = z
      · have hne : (tv != z) = false := by simpa using e
        have HF := Lib.hid (show fits (S.take (k + 1)) l = true by rw [HTK.out, hT.out, e]; simp)
        clear e HTK HNO
        go_wp2
        generalize wr.alloc (.cells #[.int .i64 x, .int .i64 y, .int .i64 z] 25) = W1 at *
        refine wp_region_held_drew (S := (fun w' => w'.cell? ⟨wr.heap.size, 0, none⟩ = some (.int .i64 x) ∧ w'.cell? ⟨wr.heap.size, 1, none⟩ = some (.int .i64 y) ∧ w'.cell? ⟨wr.heap.size, 2, none⟩ = some (.int .i64 z) ∧ w'.cell? ⟨w.heap.size, 0, none⟩ = some (.int .i64 (f 0)) ∧ w'.cell? ⟨w.heap.size, 1, none⟩ = some (.int .i64 (f 1)) ∧ w'.cell? ⟨w.heap.size, 2, none⟩ = some (.int .i64 (f 2)) ∧ w'.cell? ⟨w.heap.size, 3, none⟩ = some (.int .i64 (f 3)) ∧ w'.cell? ⟨w.heap.size, 4, none⟩ = some (.int .i64 (f 4)) ∧ w'.cell? ⟨w.heap.size, 5, none⟩ = some (.int .i64 (f 5)))) (by kernel_rfl) ?_ (fun hHeld => ?_)
        · ((try dsimp only); (repeat' apply And.intro); all_goals ((repeat (first | (with_reducible refine cell_drew ?_) | (with_reducible refine cell_drewN _ ?_) | ((with_reducible refine cell_alloc ?_ ?_); · first | omega | (simp; done) | (simp; omega) | assumption) | ((with_reducible refine cell_set ?_ ?_); · first | (intro e; injection e; omega) | (intro e; simp at e; done) | (intro e; simp at e; omega)))); first | assumption | (simp; done)))
        refine reg_on (i := 0) (d := 15) (v := ?rv1) rfl rfl (by kernel_rfl) (by kernel_rfl) (by kernel_rfl) (fun _ _ _ h => h) (by rfl) ?ry1 (by assumption) ?rr1
        case ry1 => (intro wz hSw; (try dsimp only at hSw); go_simp; try with_reducible rfl)
        (try simp only [Act.put, List.setIfInBounds_toArray, List.set_cons_zero, List.set_cons_succ])
        refine reg_on (i := 1) (d := 16) (v := ?rv2) rfl rfl (by kernel_rfl) (by kernel_rfl) (by kernel_rfl) (fun _ _ _ h => h) (by rfl) ?ry2 (by assumption) ?rr2
        case ry2 => (intro wz hSw; (try dsimp only at hSw); go_simp; try with_reducible rfl)
        (try simp only [Act.put, List.setIfInBounds_toArray, List.set_cons_zero, List.set_cons_succ])
        refine reg_on (i := 2) (d := 17) (v := ?rv3) rfl rfl (by kernel_rfl) (by kernel_rfl) (by kernel_rfl) (fun _ _ _ h => h) (by rfl) ?ry3 (by assumption) ?rr3
        case ry3 => (intro wz hSw; (try dsimp only at hSw); go_simp; try with_reducible rfl)
        (try simp only [Act.put, List.setIfInBounds_toArray, List.set_cons_zero, List.set_cons_succ])
        refine reg_on (i := 4) (d := 19) (v := ?rv4) rfl rfl (by kernel_rfl) (by kernel_rfl) (by kernel_rfl) (fun _ _ _ h => h) (by rfl) ?ry4 (by assumption) ?rr4
        case ry4 => (intro wz hSw; (try dsimp only at hSw); go_simp; try with_reducible rfl)
        (try simp only [Act.put, List.setIfInBounds_toArray, List.set_cons_zero, List.set_cons_succ])
        refine reg_on (i := 5) (d := 20) (v := ?rv5) rfl rfl (by kernel_rfl) (by kernel_rfl) (by kernel_rfl) (fun _ _ _ h => h) (by rfl) ?ry5 (by assumption) ?rr5
        case ry5 => (intro wz hSw; (try dsimp only at hSw); go_simp; try with_reducible rfl)
        (try simp only [Act.put, List.setIfInBounds_toArray, List.set_cons_zero, List.set_cons_succ])
        refine wpAnyH_ready (rs := [3]) (by kernel_rfl) (by simp) ?_
        refine AllReadyH.cons rfl (fun K hK => ?_) AllReadyH.nil
        go_simp
        go_at_call 101; refine (HTE.out _ (TM.below (by exact HM1.out) (Below.refl _ _).drew (Nat.le_refl _))).mono ?_; rintro e w3 ⟨rfl, hm3, hch3⟩; have hx3 : BoxF w3 w.heap.size f := Chg.own hch3 (by exact HX1.out) (fun q hq e => by cases hq; have e2 := HKN.out _ e; simp at e2; omega); obtain ⟨m0, m1, m2, m3, m4, m5⟩ := hx3.cells; have n0 : w3.cell? ⟨wr.heap.size, 0, none⟩ = some (.int .i64 x) := hch3.cell (by first | assumption | (go_split_ands; assumption)) (fun e => by have e2 := HKN.out _ e; simp at e2; omega); have n1 : w3.cell? ⟨wr.heap.size, 1, none⟩ = some (.int .i64 y) := hch3.cell (by first | assumption | (go_split_ands; assumption)) (fun e => by have e2 := HKN.out _ e; simp at e2; omega); have n2 : w3.cell? ⟨wr.heap.size, 2, none⟩ = some (.int .i64 z) := hch3.cell (by first | assumption | (go_split_ands; assumption)) (fun e => by have e2 := HKN.out _ e; simp at e2; omega)
        refine hK.out _ _ ?_ (fun hHeld => ?_)
        · ((try dsimp only); (repeat' apply And.intro); all_goals ((repeat (first | (with_reducible refine cell_drew ?_) | (with_reducible refine cell_drewN _ ?_) | ((with_reducible refine cell_alloc ?_ ?_); · first | omega | (simp; done) | (simp; omega) | assumption) | ((with_reducible refine cell_set ?_ ?_); · first | (intro e; injection e; omega) | (intro e; simp at e; done) | (intro e; simp at e; omega)))); first | assumption | (simp; done)))
        clear hK K
        (try simp only [Act.put, List.setIfInBounds_toArray, List.set_cons_zero, List.set_cons_succ])
        refine reg_on (i := 6) (d := 21) (v := ?rv7) rfl rfl (by kernel_rfl) (by kernel_rfl) (by kernel_rfl) (fun _ _ _ h => h) (by rfl) ?ry7 (by assumption) ?rr7
        case ry7 => (intro wz hSw; (try dsimp only at hSw); go_simp; try with_reducible rfl)
        (try simp only [Act.put, List.setIfInBounds_toArray, List.set_cons_zero, List.set_cons_succ])
        refine wpAnyH_done (by kernel_rfl) ?_ _
        have hc4 : Chg K w w3 := HC1.out.trans (Chg.trans (Chg.of_below (Below.refl _ _).drew (Nat.le_refl _)) hch3)
        clear c0 c1 c2 c3 c4 c5 d0 d1 d2
        go_wp2
        go_roundw
        case rel => exact ⟨k + 1, by omega, by go_num, HF, hm3, hx3, hc4⟩
        case measure => simp [intOf]; omega
      · have hne : (tv != z) = true := by simpa using e
        have HF := Lib.hid (HNO.out (decide_eq_false e))
        clear e HTK HNO
        go_wp2
        generalize wr.alloc (.cells #[.int .i64 x, .int .i64 y, .int .i64 z] 25) = W1 at *
        refine wp_region_held_drew (S := (fun w' => w'.cell? ⟨wr.heap.size, 0, none⟩ = some (.int .i64 x) ∧ w'.cell? ⟨wr.heap.size, 1, none⟩ = some (.int .i64 y) ∧ w'.cell? ⟨wr.heap.size, 2, none⟩ = some (.int .i64 z) ∧ w'.cell? ⟨w.heap.size, 0, none⟩ = some (.int .i64 (f 0)) ∧ w'.cell? ⟨w.heap.size, 1, none⟩ = some (.int .i64 (f 1)) ∧ w'.cell? ⟨w.heap.size, 2, none⟩ = some (.int .i64 (f 2)) ∧ w'.cell? ⟨w.heap.size, 3, none⟩ = some (.int .i64 (f 3)) ∧ w'.cell? ⟨w.heap.size, 4, none⟩ = some (.int .i64 (f 4)) ∧ w'.cell? ⟨w.heap.size, 5, none⟩ = some (.int .i64 (f 5)))) (by kernel_rfl) ?_ (fun hHeld => ?_)
        · ((try dsimp only); (repeat' apply And.intro); all_goals ((repeat (first | (with_reducible refine cell_drew ?_) | (with_reducible refine cell_drewN _ ?_) | ((with_reducible refine cell_alloc ?_ ?_); · first | omega | (simp; done) | (simp; omega) | assumption) | ((with_reducible refine cell_set ?_ ?_); · first | (intro e; injection e; omega) | (intro e; simp at e; done) | (intro e; simp at e; omega)))); first | assumption | (simp; done)))
        refine reg_on (i := 0) (d := 15) (v := ?rv8) rfl rfl (by kernel_rfl) (by kernel_rfl) (by kernel_rfl) (fun _ _ _ h => h) (by rfl) ?ry8 (by assumption) ?rr8
        case ry8 => (intro wz hSw; (try dsimp only at hSw); go_simp; try with_reducible rfl)
        (try simp only [Act.put, List.setIfInBounds_toArray, List.set_cons_zero, List.set_cons_succ])
        refine reg_on (i := 1) (d := 16) (v := ?rv9) rfl rfl (by kernel_rfl) (by kernel_rfl) (by kernel_rfl) (fun _ _ _ h => h) (by rfl) ?ry9 (by assumption) ?rr9
        case ry9 => (intro wz hSw; (try dsimp only at hSw); go_simp; try with_reducible rfl)
        (try simp only [Act.put, List.setIfInBounds_toArray, List.set_cons_zero, List.set_cons_succ])
        refine reg_on (i := 2) (d := 17) (v := ?rv10) rfl rfl (by kernel_rfl) (by kernel_rfl) (by kernel_rfl) (fun _ _ _ h => h) (by rfl) ?ry10 (by assumption) ?rr10
        case ry10 => (intro wz hSw; (try dsimp only at hSw); go_simp; try with_reducible rfl)
        (try simp only [Act.put, List.setIfInBounds_toArray, List.set_cons_zero, List.set_cons_succ])
        refine reg_on (i := 4) (d := 19) (v := ?rv11) rfl rfl (by kernel_rfl) (by kernel_rfl) (by kernel_rfl) (fun _ _ _ h => h) (by rfl) ?ry11 (by assumption) ?rr11
        case ry11 => (intro wz hSw; (try dsimp only at hSw); go_simp; try with_reducible rfl)
        (try simp only [Act.put, List.setIfInBounds_toArray, List.set_cons_zero, List.set_cons_succ])
        refine reg_on (i := 5) (d := 20) (v := ?rv12) rfl rfl (by kernel_rfl) (by kernel_rfl) (by kernel_rfl) (fun _ _ _ h => h) (by rfl) ?ry12 (by assumption) ?rr12
        case ry12 => (intro wz hSw; (try dsimp only at hSw); go_simp; try with_reducible rfl)
        (try simp only [Act.put, List.setIfInBounds_toArray, List.set_cons_zero, List.set_cons_succ])
        refine wpAnyH_ready (rs := [3]) (by kernel_rfl) (by simp) ?_
        refine AllReadyH.cons rfl (fun K hK => ?_) AllReadyH.nil
        go_simp
        go_at_call 101; refine (HTE.out _ (TM.below (by exact HM1.out) (Below.refl _ _).drew (Nat.le_refl _))).mono ?_; rintro e w3 ⟨rfl, hm3, hch3⟩; have hx3 : BoxF w3 w.heap.size f := Chg.own hch3 (by exact HX1.out) (fun q hq e => by cases hq; have e2 := HKN.out _ e; simp at e2; omega); obtain ⟨m0, m1, m2, m3, m4, m5⟩ := hx3.cells; have n0 : w3.cell? ⟨wr.heap.size, 0, none⟩ = some (.int .i64 x) := hch3.cell (by first | assumption | (go_split_ands; assumption)) (fun e => by have e2 := HKN.out _ e; simp at e2; omega); have n1 : w3.cell? ⟨wr.heap.size, 1, none⟩ = some (.int .i64 y) := hch3.cell (by first | assumption | (go_split_ands; assumption)) (fun e => by have e2 := HKN.out _ e; simp at e2; omega); have n2 : w3.cell? ⟨wr.heap.size, 2, none⟩ = some (.int .i64 z) := hch3.cell (by first | assumption | (go_split_ands; assumption)) (fun e => by have e2 := HKN.out _ e; simp at e2; omega)
        refine hK.out _ _ ?_ (fun hHeld => ?_)
        · ((try dsimp only); (repeat' apply And.intro); all_goals ((repeat (first | (with_reducible refine cell_drew ?_) | (with_reducible refine cell_drewN _ ?_) | ((with_reducible refine cell_alloc ?_ ?_); · first | omega | (simp; done) | (simp; omega) | assumption) | ((with_reducible refine cell_set ?_ ?_); · first | (intro e; injection e; omega) | (intro e; simp at e; done) | (intro e; simp at e; omega)))); first | assumption | (simp; done)))
        clear hK K
        (try simp only [Act.put, List.setIfInBounds_toArray, List.set_cons_zero, List.set_cons_succ])
        refine reg_on (i := 6) (d := 21) (v := ?rv14) rfl rfl (by kernel_rfl) (by kernel_rfl) (by kernel_rfl) (fun _ _ _ h => h) (by rfl) ?ry14 (by assumption) ?rr14
        case ry14 => (intro wz hSw; (try dsimp only at hSw); go_simp; try with_reducible rfl)
        (try simp only [Act.put, List.setIfInBounds_toArray, List.set_cons_zero, List.set_cons_succ])
        refine wpAnyH_done (by kernel_rfl) ?_ _
        have hc4 : Chg K w w3 := HC1.out.trans (Chg.trans (Chg.of_below (Below.refl _ _).drew (Nat.le_refl _)) hch3)
        clear c0 c1 c2 c3 c4 c5 d0 d1 d2
        go_wp2
        go_ret
        exact ⟨ret_bool HF.out.symm, hm3, hc4⟩
    · have hT := hT.out
      rw [List.take_of_length_le (by rw [HLL.out]; omega)] at hT
      have HT := Lib.hid hT
      clear hT
      go_wp2
      go_ret
      exact ⟨ret_bool HT.out.symm, hm, hch⟩
end Go.Proofs.Ytghlgmbekgfmnaa
