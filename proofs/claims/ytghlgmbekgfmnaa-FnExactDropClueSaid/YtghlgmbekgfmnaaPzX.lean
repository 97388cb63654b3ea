/-
  Contracts: clues without one, of the model (pzWithout). Conditions: none.
-/
import Derived.Test.YtghlgmbekgfmnaaGrw
import Derived.Test.YtghlgmbekgfmnaaRegA
namespace Go.Proofs.Ytghlgmbekgfmnaa
open Go.RowKit Go.Maps
set_option linter.unusedVariables false
set_option linter.unusedSimpArgs false

theorem rd_newsG {w : World} {b o n : Nat} {S : List Clu} (h : Rd w 3 (some ⟨b, o, none⟩) n (boxCells S)) : ∀ j u, (boxCells S)[j]? = some u → w.cell? ((⟨b, o, none⟩ : Addr).add j) = some u := by
  intro j u hj
  rw [Addr.add_lit]
  by_cases h0 : 0 < n
  · obtain ⟨b', o', e, _, hc⟩ := h.2 h0
    cases e
    exact hc j u hj
  · have hl := h.1
    have hj2 := (List.getElem?_eq_some_iff.1 hj).1
    omega

set_option maxRecDepth 100000 in
set_option maxHeartbeats 4000000 in
theorem pzWithout_any (b o n c k : Nat) (S : List Clu) (w : World) (hr : Rd w 3 (some ⟨b, o, none⟩) n (boxCells S)) (hk : k < n) (hn : n ≤ 100) (hnc : n ≤ c) (hc : c ≤ 4000000000) :
    Calls Try.prog 79 #[.slice (some ⟨b, o, none⟩) n c, .int .i64 (k : Int)] w fun e w' => ∃ A c', e = .returned (.slice A (n - 1) c') ∧ w'.ownsRow w.heap.size 25 3 (.slice A (n - 1) c') (n - 1) (boxCells (woL S k)) ∧ Below w.heap.size w w' := by
  obtain ⟨i0, hi, hz0, hz1, hz2⟩ := info_parts clue_info
  have HR := Lib.hid hr
  have hkc : k ≤ c := by omega
  have hk1 : k + 1 ≤ n := by omega
  have hk1c : k + 1 ≤ c := by omega
  have hkn : k ≤ n := by omega
  have HE : Hid (k + (n - (k + 1)) = n - 1) := by simp only [Hid]; omega
  have hlS : S.length = n := by have := hr.1; rw [length_boxCells] at this; omega
  have HR1 := Lib.hid (rd_takeG hr hkn)
  have HL1 := Lib.hid HR1.out.1
  have HL2 : Hid ((boxCells (S.drop (k + 1))).length = (n - (k + 1)) * 3) := by simp only [Hid]; rw [length_boxCells, List.length_drop, hlS]
  have hgw : IntKind.i64.wrap ((k : Int) + 1) = (k : Int) + 1 := IntWalk.i64_in _ (by omega)
  have htn : ((k : Int) + 1).toNat = k + 1 := by omega
  have hba : Below w.heap.size w ((w.alloc (.cells #[] 25)).drew) := ((Below.refl _ _).alloc (Nat.le_refl _) _).drew
  clear hr hlS
  by_cases hcc : c = k + 1
  · obtain rfl : n = k + 1 := by omega
    subst hcc
    have HL2 : Hid ((boxCells (S.drop (k + 1))).length = 0 * 3) := by have h := HL2.out; simpa [Hid] using h
    clear hnc hk1 hk1c HE
    have hkk : (k : Int) ≤ (k : Int) + 1 := by omega
    have hle : (0 : Int) ≤ (k : Int) + 1 := by omega
    go_enter Try.func79, Try.ntmps79
    go_wp2
    refine wp_region_held_drew (S := (fun _ => True)) (by kernel_rfl) ?_ (fun hHeld => ?_)
    · ((try dsimp only); (repeat' apply And.intro); all_goals ((repeat (first | (with_reducible refine cell_drew ?_) | (with_reducible refine cell_drewN _ ?_) | ((with_reducible refine cell_alloc ?_ ?_); · first | omega | (simp; done) | (simp; omega) | assumption) | ((with_reducible refine cell_set ?_ ?_); · first | (intro e; injection e; omega) | (intro e; simp at e; done) | (intro e; simp at e; omega)))); first | assumption | (simp; done)))
    refine reg_on (i := 1) (d := 6) (v := ?rv1) rfl rfl (by kernel_rfl) (by kernel_rfl) (by kernel_rfl) (fun _ _ _ h => h) (by rfl) ?ry1 (by assumption) ?rr1
    case ry1 => (intro wz hSw; (try dsimp only at hSw); go_simp; try with_reducible rfl)
    (try simp only [Act.put, List.setIfInBounds_toArray, List.set_cons_zero, List.set_cons_succ])
    refine reg_on (i := 2) (d := 7) (v := ?rv2) rfl rfl (by kernel_rfl) (by kernel_rfl) (by kernel_rfl) (fun _ _ _ h => h) (by rfl) ?ry2 (by assumption) ?rr2
    case ry2 => (intro wz hSw; (try dsimp only at hSw); go_simp; try with_reducible rfl)
    (try simp only [Act.put, List.setIfInBounds_toArray, List.set_cons_zero, List.set_cons_succ])
    refine reg_on (i := 3) (d := 8) (v := ?rv3) rfl rfl (by kernel_rfl) (by kernel_rfl) (by kernel_rfl) (fun _ _ _ h => h) (by rfl) ?ry3 (by assumption) ?rr3
    case ry3 => (intro wz hSw; (try dsimp only at hSw); go_simp; try with_reducible rfl)
    (try simp only [Act.put, List.setIfInBounds_toArray, List.set_cons_zero, List.set_cons_succ])
    refine reg_on (i := 5) (d := 10) (v := ?rv4) rfl rfl (by kernel_rfl) (by kernel_rfl) (by kernel_rfl) (fun _ _ _ h => h) (by rfl) ?ry4 (by assumption) ?rr4
    case ry4 => (intro wz hSw; (try dsimp only at hSw); go_simp; try with_reducible rfl)
    (try simp only [Act.put, List.setIfInBounds_toArray, List.set_cons_zero, List.set_cons_succ])
    refine reg_on (i := 6) (d := 11) (v := ?rv5) rfl rfl (by kernel_rfl) (by kernel_rfl) (by kernel_rfl) (fun _ _ _ h => h) (by rfl) ?ry5 (by assumption) ?rr5
    case ry5 => (intro wz hSw; (try dsimp only at hSw); go_simp; try with_reducible rfl)
    (try simp only [Act.put, List.setIfInBounds_toArray, List.set_cons_zero, List.set_cons_succ])
    refine reg_on (i := 7) (d := 12) (v := ?rv6) rfl rfl (by kernel_rfl) (by kernel_rfl) (by kernel_rfl) (fun _ _ _ h => h) (by rfl) ?ry6 (by assumption) ?rr6
    case ry6 => (intro wz hSw; (try dsimp only at hSw); go_simp; try with_reducible rfl)
    (try simp only [Act.put, List.setIfInBounds_toArray, List.set_cons_zero, List.set_cons_succ])
    refine reg_on (i := 8) (d := 13) (v := ?rv7) rfl rfl (by kernel_rfl) (by kernel_rfl) (by kernel_rfl) (fun _ _ _ h => h) (by rfl) ?ry7 (by assumption) ?rr7
    case ry7 => (intro wz hSw; (try dsimp only at hSw); go_simp; try with_reducible rfl)
    (try simp only [Act.put, List.setIfInBounds_toArray, List.set_cons_zero, List.set_cons_succ])
    refine wpAnyH_ready (rs := [0]) (by kernel_rfl) (by simp) ?_
    refine AllReadyH.cons rfl (fun K hK => ?_) AllReadyH.nil
    go_simp
    refine hK.out _ _ ?_ (fun hHeld => ?_)
    · ((try dsimp only); (repeat' apply And.intro); all_goals ((repeat (first | (with_reducible refine cell_drew ?_) | (with_reducible refine cell_drewN _ ?_) | ((with_reducible refine cell_alloc ?_ ?_); · first | omega | (simp; done) | (simp; omega) | assumption) | ((with_reducible refine cell_set ?_ ?_); · first | (intro e; injection e; omega) | (intro e; simp at e; done) | (intro e; simp at e; omega)))); first | assumption | (simp; done)))
    clear hK K
    (try simp only [Act.put, List.setIfInBounds_toArray, List.set_cons_zero, List.set_cons_succ])
    refine wpAnyH_ready (rs := [4]) (by kernel_rfl) (by simp) ?_
    refine AllReadyH.cons rfl (fun K hK => ?_) AllReadyH.nil
    refine step_append_own rfl (.tmp 5) (.tmp 8) 33 rfl w.heap.size 25 i0 (bx3 0 0 0) 3 24 Try.underlying33 hi hz0 hz1 hz2 rfl (by decide) _ _ _ rfl (World.ownsRow.drew (own_new w 25 3 0 #[] rfl (by omega) (Nat.le_refl _))) ⟨b, o, none⟩ k (k + 1) (boxCells (S.take k)) rfl HL1.out (rd_newsG (HR1.out.later hba (Nat.le_refl _))) (box_oneCell _) (by simp only [maxLen]; omega) (by omega) (by show w.heap.size ≤ (w.alloc _).heap.size; simp) ?_; intro v1 w3 hown1 hgrow1 _; have hb3 := gb_new (Nat.le_refl _) hba hgrow1 (fun g hg => by cases hg; exact Nat.le_refl _); obtain ⟨A3, c3, rfl⟩ := own_slice hown1
    refine hK.out _ _ ?_ (fun hHeld => ?_)
    · ((try dsimp only); (repeat' apply And.intro); all_goals ((repeat (first | (with_reducible refine cell_drew ?_) | (with_reducible refine cell_drewN _ ?_) | ((with_reducible refine cell_alloc ?_ ?_); · first | omega | (simp; done) | (simp; omega) | assumption) | ((with_reducible refine cell_set ?_ ?_); · first | (intro e; injection e; omega) | (intro e; simp at e; done) | (intro e; simp at e; omega)))); first | assumption | (simp; done)))
    clear hK K
    (try simp only [Act.put, List.setIfInBounds_toArray, List.set_cons_zero, List.set_cons_succ])
    refine wpAnyH_ready (rs := [9]) (by kernel_rfl) (by simp) ?_
    refine AllReadyH.cons rfl (fun K hK => ?_) AllReadyH.nil
    refine step_append_own rfl (.tmp 9) (.tmp 13) 33 rfl w.heap.size 25 i0 (bx3 0 0 0) 3 24 Try.underlying33 hi hz0 hz1 hz2 rfl (by decide) _ _ _ rfl hown1 ⟨b, o, none⟩ 0 0 (boxCells (S.drop (k + 1))) rfl HL2.out (rd_newsG (⟨HL2.out, fun h => absurd h (by omega)⟩)) (box_oneCell _) (by simp only [maxLen]; omega) (by omega) hb3.size ?_; intro v2 w4 hown2 hgrow2 _; have hb4 := gb_new (Nat.le_refl _) hb3 hgrow2 (fun g hg => (hown1.lt g hg).1); obtain ⟨A4, c4, rfl⟩ := own_slice hown2
    refine hK.out _ _ ?_ (fun hHeld => ?_)
    · ((try dsimp only); (repeat' apply And.intro); all_goals ((repeat (first | (with_reducible refine cell_drew ?_) | (with_reducible refine cell_drewN _ ?_) | ((with_reducible refine cell_alloc ?_ ?_); · first | omega | (simp; done) | (simp; omega) | assumption) | ((with_reducible refine cell_set ?_ ?_); · first | (intro e; injection e; omega) | (intro e; simp at e; done) | (intro e; simp at e; omega)))); first | assumption | (simp; done)))
    clear hK K
    (try simp only [Act.put, List.setIfInBounds_toArray, List.set_cons_zero, List.set_cons_succ])
    refine reg_on (i := 10) (d := 4) (v := ?rv11) rfl rfl (by kernel_rfl) (by kernel_rfl) (by kernel_rfl) (fun _ _ _ h => h) (by rfl) ?ry11 (by assumption) ?rr11
    case ry11 => (intro wz hSw; (try dsimp only at hSw); go_simp; try with_reducible rfl)
    (try simp only [Act.put, List.setIfInBounds_toArray, List.set_cons_zero, List.set_cons_succ])
    refine wpAnyH_done (by kernel_rfl) ?_ _
    have HOF := Lib.hid hown2
    have HBF := Lib.hid hb4
    clear hown1 hown2 hgrow1 hgrow2 hb3 hb4
    go_wp2
    go_ret
    exact ⟨A4, c4, by simp, by rw [woL, boxCells_append]; simpa [boxCells] using HOF.out, HBF.out⟩
  · have hle : (0 : Int) ≤ (k : Int) + 1 ∧ (k : Int) + 1 ≤ (n : Int) := by omega
    go_enter Try.func79, Try.ntmps79
    go_wp2
    refine wp_region_held_drew (S := (fun _ => True)) (by kernel_rfl) ?_ (fun hHeld => ?_)
    · ((try dsimp only); (repeat' apply And.intro); all_goals ((repeat (first | (with_reducible refine cell_drew ?_) | (with_reducible refine cell_drewN _ ?_) | ((with_reducible refine cell_alloc ?_ ?_); · first | omega | (simp; done) | (simp; omega) | assumption) | ((with_reducible refine cell_set ?_ ?_); · first | (intro e; injection e; omega) | (intro e; simp at e; done) | (intro e; simp at e; omega)))); first | assumption | (simp; done)))
    refine reg_on (i := 1) (d := 6) (v := ?rv12) rfl rfl (by kernel_rfl) (by kernel_rfl) (by kernel_rfl) (fun _ _ _ h => h) (by rfl) ?ry12 (by assumption) ?rr12
    case ry12 => (intro wz hSw; (try dsimp only at hSw); go_simp; try with_reducible rfl)
    (try simp only [Act.put, List.setIfInBounds_toArray, List.set_cons_zero, List.set_cons_succ])
    refine reg_on (i := 2) (d := 7) (v := ?rv13) rfl rfl (by kernel_rfl) (by kernel_rfl) (by kernel_rfl) (fun _ _ _ h => h) (by rfl) ?ry13 (by assumption) ?rr13
    case ry13 => (intro wz hSw; (try dsimp only at hSw); go_simp; try with_reducible rfl)
    (try simp only [Act.put, List.setIfInBounds_toArray, List.set_cons_zero, List.set_cons_succ])
    refine reg_on (i := 3) (d := 8) (v := ?rv14) rfl rfl (by kernel_rfl) (by kernel_rfl) (by kernel_rfl) (fun _ _ _ h => h) (by rfl) ?ry14 (by assumption) ?rr14
    case ry14 => (intro wz hSw; (try dsimp only at hSw); go_simp; try with_reducible rfl)
    (try simp only [Act.put, List.setIfInBounds_toArray, List.set_cons_zero, List.set_cons_succ])
    refine reg_on (i := 5) (d := 10) (v := ?rv15) rfl rfl (by kernel_rfl) (by kernel_rfl) (by kernel_rfl) (fun _ _ _ h => h) (by rfl) ?ry15 (by assumption) ?rr15
    case ry15 => (intro wz hSw; (try dsimp only at hSw); go_simp; try with_reducible rfl)
    (try simp only [Act.put, List.setIfInBounds_toArray, List.set_cons_zero, List.set_cons_succ])
    refine reg_on (i := 6) (d := 11) (v := ?rv16) rfl rfl (by kernel_rfl) (by kernel_rfl) (by kernel_rfl) (fun _ _ _ h => h) (by rfl) ?ry16 (by assumption) ?rr16
    case ry16 => (intro wz hSw; (try dsimp only at hSw); go_simp; try with_reducible rfl)
    (try simp only [Act.put, List.setIfInBounds_toArray, List.set_cons_zero, List.set_cons_succ])
    refine reg_on (i := 7) (d := 12) (v := ?rv17) rfl rfl (by kernel_rfl) (by kernel_rfl) (by kernel_rfl) (fun _ _ _ h => h) (by rfl) ?ry17 (by assumption) ?rr17
    case ry17 => (intro wz hSw; (try dsimp only at hSw); go_simp; try with_reducible rfl)
    (try simp only [Act.put, List.setIfInBounds_toArray, List.set_cons_zero, List.set_cons_succ])
    refine reg_on (i := 8) (d := 13) (v := ?rv18) rfl rfl (by kernel_rfl) (by kernel_rfl) (by kernel_rfl) (fun _ _ _ h => h) (by rfl) ?ry18 (by assumption) ?rr18
    case ry18 => (intro wz hSw; (try dsimp only at hSw); go_simp; try with_reducible rfl)
    (try simp only [Act.put, List.setIfInBounds_toArray, List.set_cons_zero, List.set_cons_succ])
    refine wpAnyH_ready (rs := [0]) (by kernel_rfl) (by simp) ?_
    refine AllReadyH.cons rfl (fun K hK => ?_) AllReadyH.nil
    go_simp
    refine hK.out _ _ ?_ (fun hHeld => ?_)
    · ((try dsimp only); (repeat' apply And.intro); all_goals ((repeat (first | (with_reducible refine cell_drew ?_) | (with_reducible refine cell_drewN _ ?_) | ((with_reducible refine cell_alloc ?_ ?_); · first | omega | (simp; done) | (simp; omega) | assumption) | ((with_reducible refine cell_set ?_ ?_); · first | (intro e; injection e; omega) | (intro e; simp at e; done) | (intro e; simp at e; omega)))); first | assumption | (simp; done)))
    clear hK K
    (try simp only [Act.put, List.setIfInBounds_toArray, List.set_cons_zero, List.set_cons_succ])
    refine wpAnyH_ready (rs := [4]) (by kernel_rfl) (by simp) ?_
    refine AllReadyH.cons rfl (fun K hK => ?_) AllReadyH.nil
    refine step_append_own rfl (.tmp 5) (.tmp 8) 33 rfl w.heap.size 25 i0 (bx3 0 0 0) 3 24 Try.underlying33 hi hz0 hz1 hz2 rfl (by decide) _ _ _ rfl (World.ownsRow.drew (own_new w 25 3 0 #[] rfl (by omega) (Nat.le_refl _))) ⟨b, o, none⟩ k c (boxCells (S.take k)) rfl HL1.out (rd_newsG (HR1.out.later hba (Nat.le_refl _))) (box_oneCell _) (by simp only [maxLen]; omega) (by omega) (by show w.heap.size ≤ (w.alloc _).heap.size; simp) ?_; intro v1 w3 hown1 hgrow1 _; have hb3 := gb_new (Nat.le_refl _) hba hgrow1 (fun g hg => by cases hg; exact Nat.le_refl _); obtain ⟨A3, c3, rfl⟩ := own_slice hown1
    refine hK.out _ _ ?_ (fun hHeld => ?_)
    · ((try dsimp only); (repeat' apply And.intro); all_goals ((repeat (first | (with_reducible refine cell_drew ?_) | (with_reducible refine cell_drewN _ ?_) | ((with_reducible refine cell_alloc ?_ ?_); · first | omega | (simp; done) | (simp; omega) | assumption) | ((with_reducible refine cell_set ?_ ?_); · first | (intro e; injection e; omega) | (intro e; simp at e; done) | (intro e; simp at e; omega)))); first | assumption | (simp; done)))
    clear hK K
    (try simp only [Act.put, List.setIfInBounds_toArray, List.set_cons_zero, List.set_cons_succ])
    refine wpAnyH_ready (rs := [9]) (by kernel_rfl) (by simp) ?_
    refine AllReadyH.cons rfl (fun K hK => ?_) AllReadyH.nil
    refine step_append_own rfl (.tmp 9) (.tmp 13) 33 rfl w.heap.size 25 i0 (bx3 0 0 0) 3 24 Try.underlying33 hi hz0 hz1 hz2 rfl (by decide) _ _ _ rfl hown1 ⟨b, o + (k + 1) * 3, none⟩ (n - (k + 1)) (c - (k + 1)) (boxCells (S.drop (k + 1))) rfl HL2.out (rd_newsG ((rd_dropG HR.out hk1).later hb3 (Nat.le_refl _))) (box_oneCell _) (by simp only [maxLen]; omega) (by omega) hb3.size ?_; intro v2 w4 hown2 hgrow2 _; have hb4 := gb_new (Nat.le_refl _) hb3 hgrow2 (fun g hg => (hown1.lt g hg).1); obtain ⟨A4, c4, rfl⟩ := own_slice hown2
    refine hK.out _ _ ?_ (fun hHeld => ?_)
    · ((try dsimp only); (repeat' apply And.intro); all_goals ((repeat (first | (with_reducible refine cell_drew ?_) | (with_reducible refine cell_drewN _ ?_) | ((with_reducible refine cell_alloc ?_ ?_); · first | omega | (simp; done) | (simp; omega) | assumption) | ((with_reducible refine cell_set ?_ ?_); · first | (intro e; injection e; omega) | (intro e; simp at e; done) | (intro e; simp at e; omega)))); first | assumption | (simp; done)))
    clear hK K
    (try simp only [Act.put, List.setIfInBounds_toArray, List.set_cons_zero, List.set_cons_succ])
    refine reg_on (i := 10) (d := 4) (v := ?rv22) rfl rfl (by kernel_rfl) (by kernel_rfl) (by kernel_rfl) (fun _ _ _ h => h) (by rfl) ?ry22 (by assumption) ?rr22
    case ry22 => (intro wz hSw; (try dsimp only at hSw); go_simp; try with_reducible rfl)
    (try simp only [Act.put, List.setIfInBounds_toArray, List.set_cons_zero, List.set_cons_succ])
    refine wpAnyH_done (by kernel_rfl) ?_ _
    rw [Nat.zero_add, HE.out] at hown2
    rw [HE.out]
    have HOF := Lib.hid hown2
    have HBF := Lib.hid hb4
    clear hown1 hown2 hgrow1 hgrow2 hb3 hb4
    go_wp2
    go_ret
    exact ⟨A4, c4, rfl, by rw [woL, boxCells_append]; simpa [boxCells] using HOF.out, HBF.out⟩
end Go.Proofs.Ytghlgmbekgfmnaa
