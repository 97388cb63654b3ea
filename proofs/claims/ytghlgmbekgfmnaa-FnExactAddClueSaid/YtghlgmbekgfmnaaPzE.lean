/-
  Contracts: AddClue of the program and of the model. Conditions: the puzzle's slice isn't nil.
-/
import Derived.Test.YtghlgmbekgfmnaaPzC
import Derived.Test.YtghlgmbekgfmnaaPzM
import Derived.Test.YtghlgmbekgfmnaaPzX
import Derived.Deep.RegionLawGrows
namespace Go.Proofs.Ytghlgmbekgfmnaa
open Go.RowKit Go.Maps
set_option linter.unusedVariables false
set_option linter.unusedSimpArgs false

theorem new3e (w : World) (e : TypeId) (a b c : Int) : ∀ (j : Nat) (u : Value), (boxCells [(a, b, c)])[j]? = some u → (w.alloc (.cells #[.int .i64 a, .int .i64 b, .int .i64 c] e)).cell? ((⟨w.heap.size, 0, none⟩ : Addr).add j) = some u := by
  intro j u hj
  match j, hj with
  | 0, hj => simp [boxCells] at hj; subst hj; simp [Addr.add, go_sem]
  | 1, hj => simp [boxCells] at hj; subst hj; simp [Addr.add, go_sem]
  | 2, hj => simp [boxCells] at hj; subst hj; simp [Addr.add, go_sem]
  | j + 3, hj => simp [boxCells] at hj
/-- what AddClue returns -/
def addB (S : List Clu) (q : Clu) : Bool := pzB S && (cluB q && !decide (S.length = 6))
def addR (S : List Clu) (q : Clu) : List Clu := if addB S q then S ++ [q] else []
theorem length_addR (S : List Clu) (q : Clu) : (addR S q).length ≤ 7 := by
  unfold addR
  cases h : addB S q
  · simp
  · simp only [addB, Bool.and_eq_true] at h
    have := (pzB_true h.1).1
    simp
    omega
theorem addB_no {S : List Clu} {q : Clu} (h : addB S q = false) : pzB S = false ∨ (pzB S = true ∧ cluB q = false) ∨ (pzB S = true ∧ cluB q = true ∧ S.length = 6) := by
  cases hp : pzB S
  · exact .inl rfl
  · cases hc : cluB q
    · exact .inr (.inl ⟨rfl, rfl⟩)
    · refine .inr (.inr ⟨rfl, rfl, ?_⟩)
      simpa [addB, hp, hc] using h
theorem addB_yes {S : List Clu} {q : Clu} (h : addB S q = true) : pzB S = true ∧ cluB q = true ∧ S.length ≠ 6 := by
  simpa [addB] using h

theorem news_grown {w w' : World} {row : Option Nat} {g : Nat} {xs : List Value} (hg : w.grownBy w' row) (h : ∀ (j : Nat) (u : Value), xs[j]? = some u → w.cell? ((⟨g, 0, none⟩ : Addr).add j) = some u) (hb : g < w.heap.size) (hr : some g ≠ row) : ∀ (j : Nat) (u : Value), xs[j]? = some u → w'.cell? ((⟨g, 0, none⟩ : Addr).add j) = some u := fun j u hj => by
  have h2 := h j u hj
  rw [Addr.add_lit] at h2 ⊢
  exact (World.cell?_of_block (hg.block g hb (by first | exact hr | exact fun e => hr e.symm))).trans h2
theorem news_two (w : World) (e : TypeId) (a b c : Int) (o : Obj) : ∀ (j : Nat) (u : Value), (boxCells [(a, b, c)])[j]? = some u → ((w.alloc o).alloc (.cells #[.int .i64 a, .int .i64 b, .int .i64 c] e)).cell? ((⟨w.heap.size + 1, 0, none⟩ : Addr).add j) = some u := fun j u hj => by
  have h := new3e (w.alloc o) e a b c j u hj
  rw [show (w.alloc o).heap.size = w.heap.size + 1 by simp] at h
  exact h
theorem news_old (w : World) (e : TypeId) (a b c : Int) (o : Obj) : ∀ (j : Nat) (u : Value), (boxCells [(a, b, c)])[j]? = some u → ((w.alloc (.cells #[.int .i64 a, .int .i64 b, .int .i64 c] e)).alloc o).cell? ((⟨w.heap.size, 0, none⟩ : Addr).add j) = some u := fun j u hj => by
  have h := new3e w e a b c j u hj
  rw [Addr.add_lit] at h ⊢
  exact (World.cell?_of_block (((Below.refl _ _).alloc (Nat.le_refl _) o).block w.heap.size (by simp))).trans h

set_option maxRecDepth 100000 in
set_option maxHeartbeats 8000000 in
theorem addClue_any (A : Option Addr) (n c : Nat) (S : List Clu) (x y z : Int) (w : World) (hr : Rd w 3 A n (boxCells S)) (hA : ∃ b o, A = some ⟨b, o, none⟩) (hn : n ≤ 4000000000) (hnc : n ≤ c) (hcm : c ≤ 4000000000) :
    Calls Try.prog 52 #[puzV A n c, bx3 x y z] w fun e w' => ∃ A' n' c', e = .returned (.tuple #[puzV A' n' c', .bool (addB S (x, y, z))]) ∧ w'.ownsRow w.heap.size 25 3 (.slice A' n' c') n' (boxCells (addR S (x, y, z))) ∧ Below w.heap.size w w' := by
  obtain ⟨b, o, rfl⟩ := hA
  have HG := Lib.hid (fun wx h => isPuzzle_any (some ⟨b, o, none⟩) n c S wx h hn)
  have HC := Lib.hid (fun wx => isClue_any x y z wx)
  have hll : S.length = n := by have := hr.1; rw [length_boxCells] at this; omega
  obtain ⟨W0, hW0⟩ : ∃ W0, W0 = ((w.alloc (.cells #[.slice (some ⟨b, o, none⟩) n c] 35)).alloc (.cells #[.int .i64 x, .int .i64 y, .int .i64 z] 25)).alloc (.cells #[.slice none 0 0] 35) := ⟨_, rfl⟩
  have hba : Below w.heap.size w W0 := by rw [hW0]; (repeat (first | (with_reducible exact Below.refl _ _) | (with_reducible assumption) | (with_reducible refine Below.drew ?_) | ((with_reducible refine balloc ?_ _ ?_); · (first | (simp; done) | (simp; omega) | omega)) | ((with_reducible refine bset ?_ _ ?_); · (first | (simp; done) | (simp; omega) | omega)) | (with_reducible refine bdrewN _ ?_) | ((with_reducible refine bcall ?_ (by assumption) ?_); · (first | (simp; done) | (simp; omega) | omega))))
  have sz0 : W0.heap.size = w.heap.size + 3 := by rw [hW0]; simp
  have b0 : W0.cell? ⟨w.heap.size, 0, none⟩ = some (.slice (some ⟨b, o, none⟩) n c) := by rw [hW0]; simp [go_sem]
  have b1 : W0.cell? ⟨w.heap.size + 1, 0, none⟩ = some (.int .i64 x) := by rw [hW0]; simp [go_sem]
  have b2 : W0.cell? ⟨w.heap.size + 1, 1, none⟩ = some (.int .i64 y) := by rw [hW0]; simp [go_sem]
  have b3 : W0.cell? ⟨w.heap.size + 1, 2, none⟩ = some (.int .i64 z) := by rw [hW0]; simp [go_sem]
  have b4 : W0.cell? ⟨w.heap.size + 1 + 1, 0, none⟩ = some (.slice none 0 0) := by rw [hW0]; simp [go_sem]
  have b5 : W0.frozen? ⟨w.heap.size + 1 + 1, 0, none⟩ = false := by rw [hW0]; simp [go_sem]
  have CARRY : ∀ (P : World), Below W0.heap.size W0 P → Below w.heap.size w P ∧ w.heap.size + 3 ≤ P.heap.size ∧ P.cell? ⟨w.heap.size, 0, none⟩ = some (.slice (some ⟨b, o, none⟩) n c) ∧ P.cell? ⟨w.heap.size + 1, 0, none⟩ = some (.int .i64 x) ∧ P.cell? ⟨w.heap.size + 1, 1, none⟩ = some (.int .i64 y) ∧ P.cell? ⟨w.heap.size + 1, 2, none⟩ = some (.int .i64 z) ∧ P.cell? ⟨w.heap.size + 1 + 1, 0, none⟩ = some (.slice none 0 0) ∧ P.frozen? ⟨w.heap.size + 1 + 1, 0, none⟩ = false := fun P h =>
    ⟨hba.trans (h.mono hba.size), by have := h.size; omega, (h.cell (p := ⟨w.heap.size, 0, none⟩) (by show w.heap.size < _; omega)).trans b0, (h.cell (p := ⟨w.heap.size + 1, 0, none⟩) (by show w.heap.size + 1 < _; omega)).trans b1, (h.cell (p := ⟨w.heap.size + 1, 1, none⟩) (by show w.heap.size + 1 < _; omega)).trans b2, (h.cell (p := ⟨w.heap.size + 1, 2, none⟩) (by show w.heap.size + 1 < _; omega)).trans b3, (h.cell (p := ⟨w.heap.size + 1 + 1, 0, none⟩) (by show w.heap.size + 1 + 1 < _; omega)).trans b4, (h.frozen (p := ⟨w.heap.size + 1 + 1, 0, none⟩) (by show w.heap.size + 1 + 1 < _; omega)).trans b5⟩
  have HCY := Lib.hid CARRY
  have HR := Lib.hid (hr.later hba (Nat.le_refl _))
  have HW0 := Lib.hid hW0
  clear hba b0 b1 b2 b3 b4 b5 CARRY hW0 hr
  cases hd : addB S (x, y, z)
  · rw [show addR S (x, y, z) = [] by simp [addR, hd]]
    have hcase := addB_no hd
    clear hd
    rcases hcase with hp | hcase
    · rw [hp] at HG
      clear hp hll
      go_enter Try.func52, Try.ntmps52
      go_wp2_with fail
      rw [← HW0.out]
      refine (HG.out _ HR.out).mono ?_; rintro e w1 ⟨rfl, hb1⟩
      obtain ⟨hB, s1, c0, c1, c2, c3, c4, c5⟩ := HCY.out w1 hb1
      clear hb1
      go_wp2
      refine bodyPost_ret (v := .tuple #[puzV none 0 0, .bool false]) (by simp [results, Try.results52, go_sem, c4]) rfl ⟨none, 0, 0, rfl, World.ownsRow_nil _ _ _ _, ?_⟩
      exact bset (p := ⟨w.heap.size + 1 + 1, 0, none⟩) (by show w.heap.size ≤ w.heap.size + 1 + 1; omega) _ hB
    rcases hcase with ⟨hp, hc⟩ | ⟨hp, hc, h6⟩
    all_goals
      rw [hp] at HG
      rw [hc] at HC
      (try (rw [hll] at h6; subst h6))
      clear hp hc hll
      go_enter Try.func52, Try.ntmps52
      go_wp2_with fail
      rw [← HW0.out]
      refine (HG.out _ HR.out).mono ?_; rintro e w1 ⟨rfl, hb1⟩
      obtain ⟨hB, s1, c0, c1, c2, c3, c4, c5⟩ := HCY.out w1 hb1
      have sb := hb1.size
      have HB1 := Lib.hid hb1
      clear hb1 c4 c5 hB
      go_wp2_with fail
      refine (HC.out _).mono ?_; rintro e w2 ⟨rfl, hb2⟩
      obtain ⟨hB, s2, d0, d1, d2, d3, d4, d5⟩ := HCY.out w2 (HB1.out.trans (hb2.mono sb))
      clear hb2
      go_wp2
      refine bodyPost_ret (v := .tuple #[puzV none 0 0, .bool false]) (by simp [results, Try.results52, go_sem, d4]) rfl ⟨none, 0, 0, rfl, World.ownsRow_nil _ _ _ _, ?_⟩
      exact bset (p := ⟨w.heap.size + 1 + 1, 0, none⟩) (by show w.heap.size ≤ w.heap.size + 1 + 1; omega) _ hB
  · obtain ⟨hp, hc, h6⟩ := addB_yes hd
    have HLR : Hid (addR S (x, y, z) = S ++ [(x, y, z)]) := by simp [Hid, addR, hd]
    obtain ⟨i0, hi, hz0, hi1, hi2⟩ := info_parts clue_info
    have n6 : n ≤ 6 := by have := (pzB_true hp).1; omega
    have hn6 : ¬ ((n : Int) = 6) := by omega
    have hcc : (n : Int) ≤ (c : Int) := by omega
    have HL1 : Hid ((boxCells S).length = n * 3) := by simp only [Hid]; rw [length_boxCells, hll]
    rw [hp] at HG
    rw [hc] at HC
    clear hp hc hll hd h6
    go_enter Try.func52, Try.ntmps52
    go_wp2_with fail
    rw [← HW0.out]
    refine (HG.out _ HR.out).mono ?_; rintro e w1 ⟨rfl, hb1⟩
    obtain ⟨hB, s1, c0, c1, c2, c3, c4, c5⟩ := HCY.out w1 hb1
    have sb := hb1.size
    have HB1 := Lib.hid hb1
    clear hb1 c4 c5 hB
    go_wp2_with fail
    refine (HC.out _).mono ?_; rintro e w2 ⟨rfl, hb2⟩
    have hb02 := HB1.out.trans (hb2.mono sb)
    obtain ⟨hB, s2, d0, d1, d2, d3, d4, d5⟩ := HCY.out w2 hb02
    have HR2 := Lib.hid (HR.out.later hb02 (Nat.le_refl _))
    have HB := Lib.hid hB
    clear hb2 hb02 c0 c1 c2 c3 hB
    go_wp2
    refine wp_region_held_drew (S := (fun w' => w'.cell? ⟨w.heap.size, 0, none⟩ = some (.slice (some ⟨b, o, none⟩) n c) ∧ w'.cell? ⟨w.heap.size + 1, 0, none⟩ = some (.int .i64 x) ∧ w'.cell? ⟨w.heap.size + 1, 1, none⟩ = some (.int .i64 y) ∧ w'.cell? ⟨w.heap.size + 1, 2, none⟩ = some (.int .i64 z))) (by kernel_rfl) ?_ (fun hHeld => ?_)
    · ((try dsimp only); (repeat' apply And.intro); all_goals ((repeat (first | (with_reducible refine cell_drew ?_) | (with_reducible refine cell_drewN _ ?_) | ((with_reducible refine cell_alloc ?_ ?_); · first | omega | (simp; done) | (simp; omega) | assumption) | ((with_reducible refine cell_set ?_ ?_); · first | (intro e; injection e; omega) | (intro e; simp at e; done) | (intro e; simp at e; omega)))); first | assumption | (simp; done)))
    refine reg_on (i := 0) (d := 23) (v := ?rv1) rfl rfl (by kernel_rfl) (by kernel_rfl) (by kernel_rfl) (fun _ _ _ h => h) (by rfl) ?ry1 (by assumption) ?rr1
    case ry1 => (intro wz hSw; (try dsimp only at hSw); go_simp; try with_reducible rfl)
    (try simp only [Act.put, List.setIfInBounds_toArray, List.set_cons_zero, List.set_cons_succ])
    refine reg_on (i := 1) (d := 24) (v := ?rv2) rfl rfl (by kernel_rfl) (by kernel_rfl) (by kernel_rfl) (fun _ _ _ h => h) (by rfl) ?ry2 (by assumption) ?rr2
    case ry2 => (intro wz hSw; (try dsimp only at hSw); go_simp; try with_reducible rfl)
    (try simp only [Act.put, List.setIfInBounds_toArray, List.set_cons_zero, List.set_cons_succ])
    refine reg_on (i := 2) (d := 25) (v := ?rv3) rfl rfl (by kernel_rfl) (by kernel_rfl) (by kernel_rfl) (fun _ _ _ h => h) (by rfl) ?ry3 (by assumption) ?rr3
    case ry3 => (intro wz hSw; (try dsimp only at hSw); go_simp; try with_reducible rfl)
    (try simp only [Act.put, List.setIfInBounds_toArray, List.set_cons_zero, List.set_cons_succ])
    refine reg_on (i := 3) (d := 26) (v := ?rv4) rfl rfl (by kernel_rfl) (by kernel_rfl) (by kernel_rfl) (fun _ _ _ h => h) (by rfl) ?ry4 (by assumption) ?rr4
    case ry4 => (intro wz hSw; (try dsimp only at hSw); go_simp; try with_reducible rfl)
    (try simp only [Act.put, List.setIfInBounds_toArray, List.set_cons_zero, List.set_cons_succ])
    refine reg_on (i := 4) (d := 27) (v := ?rv5) rfl rfl (by kernel_rfl) (by kernel_rfl) (by kernel_rfl) (fun _ _ _ h => h) (by rfl) ?ry5 (by assumption) ?rr5
    case ry5 => (intro wz hSw; (try dsimp only at hSw); go_simp; try with_reducible rfl)
    (try simp only [Act.put, List.setIfInBounds_toArray, List.set_cons_zero, List.set_cons_succ])
    refine reg_on (i := 5) (d := 28) (v := ?rv6) rfl rfl (by kernel_rfl) (by kernel_rfl) (by kernel_rfl) (fun _ _ _ h => h) (by rfl) ?ry6 (by assumption) ?rr6
    case ry6 => (intro wz hSw; (try dsimp only at hSw); go_simp; try with_reducible rfl)
    (try simp only [Act.put, List.setIfInBounds_toArray, List.set_cons_zero, List.set_cons_succ])
    refine wpAnyH_ready (rs := [6]) (by kernel_rfl) (by simp) ?_
    refine AllReadyH.cons rfl (fun K hK => ?_) AllReadyH.nil
    go_simp
    refine hK.out _ _ ?_ (fun hHeld => ?_)
    · ((try dsimp only); (repeat' apply And.intro); all_goals ((repeat (first | (with_reducible refine cell_drew ?_) | (with_reducible refine cell_drewN _ ?_) | ((with_reducible refine cell_alloc ?_ ?_); · first | omega | (simp; done) | (simp; omega) | assumption) | ((with_reducible refine cell_set ?_ ?_); · first | (intro e; injection e; omega) | (intro e; simp at e; done) | (intro e; simp at e; omega)))); first | assumption | (simp; done)))
    clear hK K
    (try simp only [Act.put, List.setIfInBounds_toArray, List.set_cons_zero, List.set_cons_succ])
    refine wpAnyH_ready (rs := [7]) (by kernel_rfl) (by simp) ?_
    refine AllReadyH.cons rfl (fun K hK => ?_) AllReadyH.nil
    refine step_append_grows rfl (.tmp 27) (.tmp 29) 33 rfl 25 i0 (bx3 0 0 0) 3 24 Try.underlying33 hi hz0 hi1 hi2 rfl (by decide) (some ⟨b, o, none⟩) n n (boxCells S) rfl (fun h => by cases h) HL1.out (fun b' e => by cases e; exact rd_newsG (HR2.out.later (B := w2.heap.size) (((Below.refl _ _).alloc (Nat.le_refl _) _).drew) (Nat.le_refl _))) ⟨w2.heap.size, 0, none⟩ 1 1 (boxCells [(x, y, z)]) rfl rfl (fun j u hj => new3e w2 25 x y z j u hj) (by intro u hu; simp [boxCells] at hu; rcases hu with rfl | rfl | rfl <;> rfl) (by omega) (by simp only [maxLen]; omega) (by omega) ?_; intro v' w5 hown' hgrow; obtain ⟨A5, c5', rfl⟩ := own_slice hown'; have s5 := hgrow.size; have hb5 : Below w2.heap.size w2 w5 := gb_new (Nat.le_refl _) (((Below.refl _ _).alloc (Nat.le_refl _) _).drew) hgrow (fun g h => by cases h); have e0 := (hb5.cell (p := ⟨w.heap.size, 0, none⟩) (by show w.heap.size < _; omega)).trans d0; have e1 := (hb5.cell (p := ⟨w.heap.size + 1, 0, none⟩) (by show w.heap.size + 1 < _; omega)).trans d1; have e2 := (hb5.cell (p := ⟨w.heap.size + 1, 1, none⟩) (by show w.heap.size + 1 < _; omega)).trans d2; have e3 := (hb5.cell (p := ⟨w.heap.size + 1, 2, none⟩) (by show w.heap.size + 1 < _; omega)).trans d3; have e4 := (hb5.cell (p := ⟨w.heap.size + 1 + 1, 0, none⟩) (by show w.heap.size + 1 + 1 < _; omega)).trans d4; have e5 := (hb5.frozen (p := ⟨w.heap.size + 1 + 1, 0, none⟩) (by show w.heap.size + 1 + 1 < _; omega)).trans d5
    refine hK.out _ _ ?_ (fun hHeld => ?_)
    · ((try dsimp only); (repeat' apply And.intro); all_goals ((repeat (first | (with_reducible refine cell_drew ?_) | (with_reducible refine cell_drewN _ ?_) | ((with_reducible refine cell_alloc ?_ ?_); · first | omega | (simp; done) | (simp; omega) | assumption) | ((with_reducible refine cell_set ?_ ?_); · first | (intro e; injection e; omega) | (intro e; simp at e; done) | (intro e; simp at e; omega)))); first | assumption | (simp; done)))
    clear hK K
    (try simp only [Act.put, List.setIfInBounds_toArray, List.set_cons_zero, List.set_cons_succ])
    refine reg_on (i := 8) (d := 31) (v := ?rv9) rfl rfl (by kernel_rfl) (by kernel_rfl) (by kernel_rfl) (fun _ _ _ h => h) (by rfl) ?ry9 (by assumption) ?rr9
    case ry9 => (intro wz hSw; (try dsimp only at hSw); go_simp; try with_reducible rfl)
    (try simp only [Act.put, List.setIfInBounds_toArray, List.set_cons_zero, List.set_cons_succ])
    refine wpAnyH_ready (rs := [9]) (by kernel_rfl) (by simp) ?_
    refine AllReadyH.cons rfl (fun K hK => ?_) AllReadyH.nil
    go_simp
    refine hK.out _ _ ?_ (fun hHeld => ?_)
    · ((try dsimp only); (repeat' apply And.intro); all_goals ((repeat (first | (with_reducible refine cell_drew ?_) | (with_reducible refine cell_drewN _ ?_) | ((with_reducible refine cell_alloc ?_ ?_); · first | omega | (simp; done) | (simp; omega) | assumption) | ((with_reducible refine cell_set ?_ ?_); · first | (intro e; injection e; omega) | (intro e; simp at e; done) | (intro e; simp at e; omega)))); first | assumption | (simp; done)))
    clear hK K
    (try simp only [Act.put, List.setIfInBounds_toArray, List.set_cons_zero, List.set_cons_succ])
    refine reg_on (i := 10) (d := 5) (v := ?rv11) rfl rfl (by kernel_rfl) (by kernel_rfl) (by kernel_rfl) (fun _ _ _ h => h) (by rfl) ?ry11 (by assumption) ?rr11
    case ry11 => (intro wz hSw; (try dsimp only at hSw); go_simp; try with_reducible rfl)
    (try simp only [Act.put, List.setIfInBounds_toArray, List.set_cons_zero, List.set_cons_succ])
    refine wpAnyH_done (by kernel_rfl) ?_ _
    have HO := Lib.hid (own_setO (b := w.heap.size + 1 + 1) (o := 0) (own_base hown' (show w.heap.size ≤ _ by simp; omega)) (.slice A5 (n + 1) c5') (fun e => by have := (hown'.lt _ e).1; simp at this; omega))
    have HBF := Lib.hid (HB.out.trans (hb5.mono HB.out.size))
    clear hown' hgrow hb5 d0 d1 d2 d3 d4 d5
    go_wp2
    refine bodyPost_ret (v := .tuple #[puzV A5 (n + 1) c5', .bool true]) (by simp [results, Try.results52, go_sem, e4]) rfl ⟨A5, n + 1, c5', rfl, by rw [HLR.out, boxCells_append]; exact HO.out, ?_⟩
    exact bset (p := ⟨w.heap.size + 1 + 1, 0, none⟩) (by show w.heap.size ≤ w.heap.size + 1 + 1; omega) _ HBF.out

set_option maxRecDepth 100000 in
set_option maxHeartbeats 8000000 in
theorem sAddClue_any (A : Option Addr) (n c : Nat) (S : List Clu) (x y z : Int) (w : World) (hr : Rd w 3 A n (boxCells S)) (hA : ∃ b o, A = some ⟨b, o, none⟩) (hn : n ≤ 4000000000) (hnc : n ≤ c) (hcm : c ≤ 4000000000) :
    Calls Try.prog 51 #[puzV A n c, bx3 x y z] w fun e w' => ∃ A' n' c', e = .returned (.tuple #[puzV A' n' c', .bool (addB S (x, y, z))]) ∧ w'.ownsRow w.heap.size 25 3 (.slice A' n' c') n' (boxCells (addR S (x, y, z))) ∧ Below w.heap.size w w' := by
  obtain ⟨b, o, rfl⟩ := hA
  have HG := Lib.hid (fun wx h => pzGood_any (some ⟨b, o, none⟩) n c S wx h hn)
  have HC := Lib.hid (fun wx => pzClue_any x y z wx)
  have hll : S.length = n := by have := hr.1; rw [length_boxCells] at this; omega
  obtain ⟨W0, hW0⟩ : ∃ W0, W0 = ((w.alloc (.cells #[.slice (some ⟨b, o, none⟩) n c] 35)).alloc (.cells #[.int .i64 x, .int .i64 y, .int .i64 z] 25)).alloc (.cells #[.slice none 0 0] 35) := ⟨_, rfl⟩
  have hba : Below w.heap.size w W0 := by rw [hW0]; (repeat (first | (with_reducible exact Below.refl _ _) | (with_reducible assumption) | (with_reducible refine Below.drew ?_) | ((with_reducible refine balloc ?_ _ ?_); · (first | (simp; done) | (simp; omega) | omega)) | ((with_reducible refine bset ?_ _ ?_); · (first | (simp; done) | (simp; omega) | omega)) | (with_reducible refine bdrewN _ ?_) | ((with_reducible refine bcall ?_ (by assumption) ?_); · (first | (simp; done) | (simp; omega) | omega))))
  have sz0 : W0.heap.size = w.heap.size + 3 := by rw [hW0]; simp
  have b0 : W0.cell? ⟨w.heap.size, 0, none⟩ = some (.slice (some ⟨b, o, none⟩) n c) := by rw [hW0]; simp [go_sem]
  have b1 : W0.cell? ⟨w.heap.size + 1, 0, none⟩ = some (.int .i64 x) := by rw [hW0]; simp [go_sem]
  have b2 : W0.cell? ⟨w.heap.size + 1, 1, none⟩ = some (.int .i64 y) := by rw [hW0]; simp [go_sem]
  have b3 : W0.cell? ⟨w.heap.size + 1, 2, none⟩ = some (.int .i64 z) := by rw [hW0]; simp [go_sem]
  have b4 : W0.cell? ⟨w.heap.size + 1 + 1, 0, none⟩ = some (.slice none 0 0) := by rw [hW0]; simp [go_sem]
  have b5 : W0.frozen? ⟨w.heap.size + 1 + 1, 0, none⟩ = false := by rw [hW0]; simp [go_sem]
  have CARRY : ∀ (P : World), Below W0.heap.size W0 P → Below w.heap.size w P ∧ w.heap.size + 3 ≤ P.heap.size ∧ P.cell? ⟨w.heap.size, 0, none⟩ = some (.slice (some ⟨b, o, none⟩) n c) ∧ P.cell? ⟨w.heap.size + 1, 0, none⟩ = some (.int .i64 x) ∧ P.cell? ⟨w.heap.size + 1, 1, none⟩ = some (.int .i64 y) ∧ P.cell? ⟨w.heap.size + 1, 2, none⟩ = some (.int .i64 z) ∧ P.cell? ⟨w.heap.size + 1 + 1, 0, none⟩ = some (.slice none 0 0) ∧ P.frozen? ⟨w.heap.size + 1 + 1, 0, none⟩ = false := fun P h =>
    ⟨hba.trans (h.mono hba.size), by have := h.size; omega, (h.cell (p := ⟨w.heap.size, 0, none⟩) (by show w.heap.size < _; omega)).trans b0, (h.cell (p := ⟨w.heap.size + 1, 0, none⟩) (by show w.heap.size + 1 < _; omega)).trans b1, (h.cell (p := ⟨w.heap.size + 1, 1, none⟩) (by show w.heap.size + 1 < _; omega)).trans b2, (h.cell (p := ⟨w.heap.size + 1, 2, none⟩) (by show w.heap.size + 1 < _; omega)).trans b3, (h.cell (p := ⟨w.heap.size + 1 + 1, 0, none⟩) (by show w.heap.size + 1 + 1 < _; omega)).trans b4, (h.frozen (p := ⟨w.heap.size + 1 + 1, 0, none⟩) (by show w.heap.size + 1 + 1 < _; omega)).trans b5⟩
  have HCY := Lib.hid CARRY
  have HR := Lib.hid (hr.later hba (Nat.le_refl _))
  have HW0 := Lib.hid hW0
  clear hba b0 b1 b2 b3 b4 b5 CARRY hW0 hr
  cases hd : addB S (x, y, z)
  · rw [show addR S (x, y, z) = [] by simp [addR, hd]]
    have hcase := addB_no hd
    clear hd
    rcases hcase with hp | hcase
    · rw [hp] at HG
      clear hp hll
      go_enter Try.func51, Try.ntmps51
      go_wp2_with fail
      rw [← HW0.out]
      refine (HG.out _ HR.out).mono ?_; rintro e w1 ⟨rfl, hb1⟩
      obtain ⟨hB, s1, c0, c1, c2, c3, c4, c5⟩ := HCY.out w1 hb1
      clear hb1
      go_wp2
      refine bodyPost_ret (v := .tuple #[puzV none 0 0, .bool false]) (by simp [results, Try.results51, go_sem, c4]) rfl ⟨none, 0, 0, rfl, World.ownsRow_nil _ _ _ _, ?_⟩
      exact bset (p := ⟨w.heap.size + 1 + 1, 0, none⟩) (by show w.heap.size ≤ w.heap.size + 1 + 1; omega) _ hB
    rcases hcase with ⟨hp, hc⟩ | ⟨hp, hc, h6⟩
    all_goals
      rw [hp] at HG
      rw [hc] at HC
      (try (rw [hll] at h6; subst h6))
      clear hp hc hll
      go_enter Try.func51, Try.ntmps51
      go_wp2_with fail
      rw [← HW0.out]
      refine (HG.out _ HR.out).mono ?_; rintro e w1 ⟨rfl, hb1⟩
      obtain ⟨hB, s1, c0, c1, c2, c3, c4, c5⟩ := HCY.out w1 hb1
      have sb := hb1.size
      have HB1 := Lib.hid hb1
      clear hb1 c4 c5 hB
      go_wp2_with fail
      refine (HC.out _).mono ?_; rintro e w2 ⟨rfl, hb2⟩
      obtain ⟨hB, s2, d0, d1, d2, d3, d4, d5⟩ := HCY.out w2 (HB1.out.trans (hb2.mono sb))
      clear hb2
      go_wp2
      refine bodyPost_ret (v := .tuple #[puzV none 0 0, .bool false]) (by simp [results, Try.results51, go_sem, d4]) rfl ⟨none, 0, 0, rfl, World.ownsRow_nil _ _ _ _, ?_⟩
      exact bset (p := ⟨w.heap.size + 1 + 1, 0, none⟩) (by show w.heap.size ≤ w.heap.size + 1 + 1; omega) _ hB
  · obtain ⟨hp, hc, h6⟩ := addB_yes hd
    have HLR : Hid (addR S (x, y, z) = S ++ [(x, y, z)]) := by simp [Hid, addR, hd]
    obtain ⟨i0, hi, hz0, hi1, hi2⟩ := info_parts clue_info
    have n6 : n ≤ 6 := by have := (pzB_true hp).1; omega
    have hn6 : ¬ ((n : Int) = 6) := by omega
    have HL1 : Hid ((boxCells S).length = n * 3) := by simp only [Hid]; rw [length_boxCells, hll]
    rw [hp] at HG
    rw [hc] at HC
    clear hp hc hll hd h6
    go_enter Try.func51, Try.ntmps51
    go_wp2_with fail
    rw [← HW0.out]
    refine (HG.out _ HR.out).mono ?_; rintro e w1 ⟨rfl, hb1⟩
    obtain ⟨hB, s1, c0, c1, c2, c3, c4, c5⟩ := HCY.out w1 hb1
    have sb := hb1.size
    have HB1 := Lib.hid hb1
    clear hb1 c4 c5 hB
    go_wp2_with fail
    refine (HC.out _).mono ?_; rintro e w2 ⟨rfl, hb2⟩
    have hb02 := HB1.out.trans (hb2.mono sb)
    obtain ⟨hB, s2, d0, d1, d2, d3, d4, d5⟩ := HCY.out w2 hb02
    have HR2 := Lib.hid (HR.out.later hb02 (Nat.le_refl _))
    have HB := Lib.hid hB
    clear hb2 hb02 c0 c1 c2 c3 hB
    go_wp2
    refine wp_region_held_drew (S := (fun w' => w'.cell? ⟨w.heap.size, 0, none⟩ = some (.slice (some ⟨b, o, none⟩) n c) ∧ w'.cell? ⟨w.heap.size + 1, 0, none⟩ = some (.int .i64 x) ∧ w'.cell? ⟨w.heap.size + 1, 1, none⟩ = some (.int .i64 y) ∧ w'.cell? ⟨w.heap.size + 1, 2, none⟩ = some (.int .i64 z))) (by kernel_rfl) ?_ (fun hHeld => ?_)
    · ((try dsimp only); (repeat' apply And.intro); all_goals ((repeat (first | (with_reducible refine cell_drew ?_) | (with_reducible refine cell_drewN _ ?_) | ((with_reducible refine cell_alloc ?_ ?_); · first | omega | (simp; done) | (simp; omega) | assumption) | ((with_reducible refine cell_set ?_ ?_); · first | (intro e; injection e; omega) | (intro e; simp at e; done) | (intro e; simp at e; omega)))); first | assumption | (simp; done)))
    refine reg_on (i := 1) (d := 22) (v := ?rv12) rfl rfl (by kernel_rfl) (by kernel_rfl) (by kernel_rfl) (fun _ _ _ h => h) (by rfl) ?ry12 (by assumption) ?rr12
    case ry12 => (intro wz hSw; (try dsimp only at hSw); go_simp; try with_reducible rfl)
    (try simp only [Act.put, List.setIfInBounds_toArray, List.set_cons_zero, List.set_cons_succ])
    refine reg_on (i := 2) (d := 23) (v := ?rv13) rfl rfl (by kernel_rfl) (by kernel_rfl) (by kernel_rfl) (fun _ _ _ h => h) (by rfl) ?ry13 (by assumption) ?rr13
    case ry13 => (intro wz hSw; (try dsimp only at hSw); go_simp; try with_reducible rfl)
    (try simp only [Act.put, List.setIfInBounds_toArray, List.set_cons_zero, List.set_cons_succ])
    refine reg_on (i := 4) (d := 25) (v := ?rv14) rfl rfl (by kernel_rfl) (by kernel_rfl) (by kernel_rfl) (fun _ _ _ h => h) (by rfl) ?ry14 (by assumption) ?rr14
    case ry14 => (intro wz hSw; (try dsimp only at hSw); go_simp; try with_reducible rfl)
    (try simp only [Act.put, List.setIfInBounds_toArray, List.set_cons_zero, List.set_cons_succ])
    refine wpAnyH_ready (rs := [0, 5]) (by kernel_rfl) (by simp) ?_
    refine AllReadyH.cons rfl (fun K hK => ?_) (AllReadyH.cons rfl (fun K hK => ?_) (AllReadyH.nil))
    ·
      go_simp
      refine hK.out _ _ ?_ (fun hHeld => ?_)
      · ((try dsimp only); (repeat' apply And.intro); all_goals ((repeat (first | (with_reducible refine cell_drew ?_) | (with_reducible refine cell_drewN _ ?_) | ((with_reducible refine cell_alloc ?_ ?_); · first | omega | (simp; done) | (simp; omega) | assumption) | ((with_reducible refine cell_set ?_ ?_); · first | (intro e; injection e; omega) | (intro e; simp at e; done) | (intro e; simp at e; omega)))); first | assumption | (simp; done)))
      clear hK K
      (try simp only [Act.put, List.setIfInBounds_toArray, List.set_cons_zero, List.set_cons_succ])
      refine wpAnyH_ready (rs := [3, 5]) (by kernel_rfl) (by simp) ?_
      refine AllReadyH.cons rfl (fun K hK => ?_) (AllReadyH.cons rfl (fun K hK => ?_) (AllReadyH.nil))
      ·
        refine step_append_ownG rfl (.tmp 21) (.tmp 23) 33 rfl w2.heap.size 25 i0 (bx3 0 0 0) 3 24 Try.underlying33 hi hz0 hi1 hi2 rfl (by decide) _ 0 [] rfl (by first | exact World.ownsRow.drew (own_new w2 25 3 0 #[] rfl (by omega) (Nat.le_refl _)) | exact World.ownsRow.drew (own_alloc (own_new w2 25 3 0 #[] rfl (by omega) (Nat.le_refl _)) _) | (have hq := own_new (B := w2.heap.size) (w2.alloc (.cells #[.int .i64 x, .int .i64 y, .int .i64 z] 25)) 25 3 0 #[] rfl (by omega) (by simp); rw [show (w2.alloc (.cells #[.int .i64 x, .int .i64 y, .int .i64 z] 25)).heap.size = w2.heap.size + 1 by simp] at hq; exact World.ownsRow.drew hq)) ⟨b, o, none⟩ n c (boxCells S) rfl HL1.out (rd_newsG (HR2.out.later (B := w2.heap.size) (by first | exact ((Below.refl _ _).alloc (Nat.le_refl _) _).drew | exact (((Below.refl _ _).alloc (Nat.le_refl _) _).alloc (by simp) _).drew) (Nat.le_refl _))) (box_oneCell _) (by simp only [maxLen]; omega) (by omega) (by first | (show w2.heap.size ≤ (w2.alloc _).heap.size; simp) | (show w2.heap.size ≤ ((w2.alloc _).alloc _).heap.size; simp; omega)) ?_; intro v1 w3 hown1 hgrow1 _; obtain ⟨A3, c3', rfl⟩ := own_slice hown1; simp only [Nat.zero_add, List.nil_append] at hown1; (try rw [Nat.zero_add]); have hb3 : Below w2.heap.size w2 w3 := gb_new (Nat.le_refl _) (by first | exact ((Below.refl _ _).alloc (Nat.le_refl _) _).drew | exact (((Below.refl _ _).alloc (Nat.le_refl _) _).alloc (by simp) _).drew) hgrow1 (fun g hg => by cases hg; first | exact Nat.le_refl _ | exact Nat.le_succ _); have s3 := hb3.size; have m0 := (hb3.cell (p := ⟨w.heap.size, 0, none⟩) (by show w.heap.size < w2.heap.size; omega)).trans d0; have m1 := (hb3.cell (p := ⟨w.heap.size + 1, 0, none⟩) (by show w.heap.size + 1 < w2.heap.size; omega)).trans d1; have m2 := (hb3.cell (p := ⟨w.heap.size + 1, 1, none⟩) (by show w.heap.size + 1 < w2.heap.size; omega)).trans d2; have m3 := (hb3.cell (p := ⟨w.heap.size + 1, 2, none⟩) (by show w.heap.size + 1 < w2.heap.size; omega)).trans d3
        refine hK.out _ _ ?_ (fun hHeld => ?_)
        · ((try dsimp only); (repeat' apply And.intro); all_goals ((repeat (first | (with_reducible refine cell_drew ?_) | (with_reducible refine cell_drewN _ ?_) | ((with_reducible refine cell_alloc ?_ ?_); · first | omega | (simp; done) | (simp; omega) | assumption) | ((with_reducible refine cell_set ?_ ?_); · first | (intro e; injection e; omega) | (intro e; simp at e; done) | (intro e; simp at e; omega)))); first | assumption | (simp; done)))
        clear hK K
        (try simp only [Act.put, List.setIfInBounds_toArray, List.set_cons_zero, List.set_cons_succ])
        refine wpAnyH_ready (rs := [5]) (by kernel_rfl) (by simp) ?_
        refine AllReadyH.cons rfl (fun K hK => ?_) (AllReadyH.nil)
        go_simp
        refine hK.out _ _ ?_ (fun hHeld => ?_)
        · ((try dsimp only); (repeat' apply And.intro); all_goals ((repeat (first | (with_reducible refine cell_drew ?_) | (with_reducible refine cell_drewN _ ?_) | ((with_reducible refine cell_alloc ?_ ?_); · first | omega | (simp; done) | (simp; omega) | assumption) | ((with_reducible refine cell_set ?_ ?_); · first | (intro e; injection e; omega) | (intro e; simp at e; done) | (intro e; simp at e; omega)))); first | assumption | (simp; done)))
        clear hK K
        (try simp only [Act.put, List.setIfInBounds_toArray, List.set_cons_zero, List.set_cons_succ])
        refine wpAnyH_ready (rs := [6]) (by kernel_rfl) (by simp) ?_
        refine AllReadyH.cons rfl (fun K hK => ?_) AllReadyH.nil
        refine step_append_ownG rfl (.tmp 24) (.tmp 26) 33 rfl w2.heap.size 25 i0 (bx3 0 0 0) 3 24 Try.underlying33 hi hz0 hi1 hi2 rfl (by decide) (.slice A3 n c3') n (boxCells S) rfl (by first | exact hown1 | exact own_alloc hown1 _ | exact World.ownsRow.drew (own_alloc hown1 _)) _ 1 1 (boxCells [(x, y, z)]) rfl rfl (by first | exact fun j u hj => new3e w3 25 x y z j u hj | exact news_grown hgrow1 (fun j u hj => news_two w2 25 x y z _ j u hj) (by first | (show w2.heap.size + 1 < ((w2.alloc _).alloc _).heap.size; simp)) (show some (w2.heap.size + 1) ≠ some w2.heap.size by simp) | exact news_grown hgrow1 (fun j u hj => news_old w2 25 x y z _ j u hj) (by show w2.heap.size < ((w2.alloc _).alloc _).heap.size; simp; omega) (show some w2.heap.size ≠ some (w2.heap.size + 1) by simp)) (by intro u hu; simp [boxCells] at hu; rcases hu with rfl | rfl | rfl <;> rfl) (by simp only [maxLen]; omega) (by omega) (by first | exact s3 | (show w2.heap.size ≤ (w3.alloc _).heap.size; simp; omega)) ?_; intro v2 w4 hown2 hgrow2 _; obtain ⟨A4, c4', rfl⟩ := own_slice hown2; have hb4 : Below w2.heap.size w2 w4 := gb_new (Nat.le_refl _) (by first | exact hb3 | exact hb3.alloc s3 _ | exact (hb3.alloc s3 _).drew) hgrow2 (fun g hg => (hown1.lt g hg).1); have s4 := hb4.size; have e0 := (hb4.cell (p := ⟨w.heap.size, 0, none⟩) (by show w.heap.size < w2.heap.size; omega)).trans d0; have e1 := (hb4.cell (p := ⟨w.heap.size + 1, 0, none⟩) (by show w.heap.size + 1 < w2.heap.size; omega)).trans d1; have e2 := (hb4.cell (p := ⟨w.heap.size + 1, 1, none⟩) (by show w.heap.size + 1 < w2.heap.size; omega)).trans d2; have e3 := (hb4.cell (p := ⟨w.heap.size + 1, 2, none⟩) (by show w.heap.size + 1 < w2.heap.size; omega)).trans d3; have e4 := (hb4.cell (p := ⟨w.heap.size + 1 + 1, 0, none⟩) (by show w.heap.size + 1 + 1 < w2.heap.size; omega)).trans d4; have e5 := (hb4.frozen (p := ⟨w.heap.size + 1 + 1, 0, none⟩) (by show w.heap.size + 1 + 1 < w2.heap.size; omega)).trans d5
        refine hK.out _ _ ?_ (fun hHeld => ?_)
        · ((try dsimp only); (repeat' apply And.intro); all_goals ((repeat (first | (with_reducible refine cell_drew ?_) | (with_reducible refine cell_drewN _ ?_) | ((with_reducible refine cell_alloc ?_ ?_); · first | omega | (simp; done) | (simp; omega) | assumption) | ((with_reducible refine cell_set ?_ ?_); · first | (intro e; injection e; omega) | (intro e; simp at e; done) | (intro e; simp at e; omega)))); first | assumption | (simp; done)))
        clear hK K
        (try simp only [Act.put, List.setIfInBounds_toArray, List.set_cons_zero, List.set_cons_succ])
        refine reg_on (i := 7) (d := 28) (v := ?rv16) rfl rfl (by kernel_rfl) (by kernel_rfl) (by kernel_rfl) (fun _ _ _ h => h) (by rfl) ?ry16 (by assumption) ?rr16
        case ry16 => (intro wz hSw; (try dsimp only at hSw); go_simp; try with_reducible rfl)
        (try simp only [Act.put, List.setIfInBounds_toArray, List.set_cons_zero, List.set_cons_succ])
        refine wpAnyH_ready (rs := [8]) (by kernel_rfl) (by simp) ?_
        refine AllReadyH.cons rfl (fun K hK => ?_) AllReadyH.nil
        go_simp
        refine hK.out _ _ ?_ (fun hHeld => ?_)
        · ((try dsimp only); (repeat' apply And.intro); all_goals ((repeat (first | (with_reducible refine cell_drew ?_) | (with_reducible refine cell_drewN _ ?_) | ((with_reducible refine cell_alloc ?_ ?_); · first | omega | (simp; done) | (simp; omega) | assumption) | ((with_reducible refine cell_set ?_ ?_); · first | (intro e; injection e; omega) | (intro e; simp at e; done) | (intro e; simp at e; omega)))); first | assumption | (simp; done)))
        clear hK K
        (try simp only [Act.put, List.setIfInBounds_toArray, List.set_cons_zero, List.set_cons_succ])
        refine reg_on (i := 9) (d := 5) (v := ?rv18) rfl rfl (by kernel_rfl) (by kernel_rfl) (by kernel_rfl) (fun _ _ _ h => h) (by rfl) ?ry18 (by assumption) ?rr18
        case ry18 => (intro wz hSw; (try dsimp only at hSw); go_simp; try with_reducible rfl)
        (try simp only [Act.put, List.setIfInBounds_toArray, List.set_cons_zero, List.set_cons_succ])
        refine wpAnyH_done (by kernel_rfl) ?_ _
        have HO := Lib.hid (own_setO (b := w.heap.size + 1 + 1) (o := 0) (own_base hown2 (show w.heap.size ≤ w2.heap.size by omega)) (.slice A4 (n + 1) c4') (fun e => by have := (hown2.lt _ e).1; omega))
        have HBF := Lib.hid (HB.out.trans (hb4.mono HB.out.size))
        clear hown1 hown2 hgrow1 hgrow2 hb3 hb4 d0 d1 d2 d3 d4 d5 m0 m1 m2 m3
        go_wp2
        refine bodyPost_ret (v := .tuple #[puzV A4 (n + 1) c4', .bool true]) (by simp [results, Try.results51, go_sem, e4]) rfl ⟨A4, n + 1, c4', rfl, by rw [HLR.out, boxCells_append]; exact HO.out, ?_⟩
        exact bset (p := ⟨w.heap.size + 1 + 1, 0, none⟩) (by show w.heap.size ≤ w.heap.size + 1 + 1; omega) _ HBF.out
      ·
        go_simp
        refine hK.out _ _ ?_ (fun hHeld => ?_)
        · ((try dsimp only); (repeat' apply And.intro); all_goals ((repeat (first | (with_reducible refine cell_drew ?_) | (with_reducible refine cell_drewN _ ?_) | ((with_reducible refine cell_alloc ?_ ?_); · first | omega | (simp; done) | (simp; omega) | assumption) | ((with_reducible refine cell_set ?_ ?_); · first | (intro e; injection e; omega) | (intro e; simp at e; done) | (intro e; simp at e; omega)))); first | assumption | (simp; done)))
        clear hK K
        (try simp only [Act.put, List.setIfInBounds_toArray, List.set_cons_zero, List.set_cons_succ])
        refine wpAnyH_ready (rs := [3]) (by kernel_rfl) (by simp) ?_
        refine AllReadyH.cons rfl (fun K hK => ?_) (AllReadyH.nil)
        refine step_append_ownG rfl (.tmp 21) (.tmp 23) 33 rfl w2.heap.size 25 i0 (bx3 0 0 0) 3 24 Try.underlying33 hi hz0 hi1 hi2 rfl (by decide) _ 0 [] rfl (by first | exact World.ownsRow.drew (own_new w2 25 3 0 #[] rfl (by omega) (Nat.le_refl _)) | exact World.ownsRow.drew (own_alloc (own_new w2 25 3 0 #[] rfl (by omega) (Nat.le_refl _)) _) | (have hq := own_new (B := w2.heap.size) (w2.alloc (.cells #[.int .i64 x, .int .i64 y, .int .i64 z] 25)) 25 3 0 #[] rfl (by omega) (by simp); rw [show (w2.alloc (.cells #[.int .i64 x, .int .i64 y, .int .i64 z] 25)).heap.size = w2.heap.size + 1 by simp] at hq; exact World.ownsRow.drew hq)) ⟨b, o, none⟩ n c (boxCells S) rfl HL1.out (rd_newsG (HR2.out.later (B := w2.heap.size) (by first | exact ((Below.refl _ _).alloc (Nat.le_refl _) _).drew | exact (((Below.refl _ _).alloc (Nat.le_refl _) _).alloc (by simp) _).drew) (Nat.le_refl _))) (box_oneCell _) (by simp only [maxLen]; omega) (by omega) (by first | (show w2.heap.size ≤ (w2.alloc _).heap.size; simp) | (show w2.heap.size ≤ ((w2.alloc _).alloc _).heap.size; simp; omega)) ?_; intro v1 w3 hown1 hgrow1 _; obtain ⟨A3, c3', rfl⟩ := own_slice hown1; simp only [Nat.zero_add, List.nil_append] at hown1; (try rw [Nat.zero_add]); have hb3 : Below w2.heap.size w2 w3 := gb_new (Nat.le_refl _) (by first | exact ((Below.refl _ _).alloc (Nat.le_refl _) _).drew | exact (((Below.refl _ _).alloc (Nat.le_refl _) _).alloc (by simp) _).drew) hgrow1 (fun g hg => by cases hg; first | exact Nat.le_refl _ | exact Nat.le_succ _); have s3 := hb3.size; have m0 := (hb3.cell (p := ⟨w.heap.size, 0, none⟩) (by show w.heap.size < w2.heap.size; omega)).trans d0; have m1 := (hb3.cell (p := ⟨w.heap.size + 1, 0, none⟩) (by show w.heap.size + 1 < w2.heap.size; omega)).trans d1; have m2 := (hb3.cell (p := ⟨w.heap.size + 1, 1, none⟩) (by show w.heap.size + 1 < w2.heap.size; omega)).trans d2; have m3 := (hb3.cell (p := ⟨w.heap.size + 1, 2, none⟩) (by show w.heap.size + 1 < w2.heap.size; omega)).trans d3
        refine hK.out _ _ ?_ (fun hHeld => ?_)
        · ((try dsimp only); (repeat' apply And.intro); all_goals ((repeat (first | (with_reducible refine cell_drew ?_) | (with_reducible refine cell_drewN _ ?_) | ((with_reducible refine cell_alloc ?_ ?_); · first | omega | (simp; done) | (simp; omega) | assumption) | ((with_reducible refine cell_set ?_ ?_); · first | (intro e; injection e; omega) | (intro e; simp at e; done) | (intro e; simp at e; omega)))); first | assumption | (simp; done)))
        clear hK K
        (try simp only [Act.put, List.setIfInBounds_toArray, List.set_cons_zero, List.set_cons_succ])
        refine wpAnyH_ready (rs := [6]) (by kernel_rfl) (by simp) ?_
        refine AllReadyH.cons rfl (fun K hK => ?_) AllReadyH.nil
        refine step_append_ownG rfl (.tmp 24) (.tmp 26) 33 rfl w2.heap.size 25 i0 (bx3 0 0 0) 3 24 Try.underlying33 hi hz0 hi1 hi2 rfl (by decide) (.slice A3 n c3') n (boxCells S) rfl (by first | exact hown1 | exact own_alloc hown1 _ | exact World.ownsRow.drew (own_alloc hown1 _)) _ 1 1 (boxCells [(x, y, z)]) rfl rfl (by first | exact fun j u hj => new3e w3 25 x y z j u hj | exact news_grown hgrow1 (fun j u hj => news_two w2 25 x y z _ j u hj) (by first | (show w2.heap.size + 1 < ((w2.alloc _).alloc _).heap.size; simp)) (show some (w2.heap.size + 1) ≠ some w2.heap.size by simp) | exact news_grown hgrow1 (fun j u hj => news_old w2 25 x y z _ j u hj) (by show w2.heap.size < ((w2.alloc _).alloc _).heap.size; simp; omega) (show some w2.heap.size ≠ some (w2.heap.size + 1) by simp)) (by intro u hu; simp [boxCells] at hu; rcases hu with rfl | rfl | rfl <;> rfl) (by simp only [maxLen]; omega) (by omega) (by first | exact s3 | (show w2.heap.size ≤ (w3.alloc _).heap.size; simp; omega)) ?_; intro v2 w4 hown2 hgrow2 _; obtain ⟨A4, c4', rfl⟩ := own_slice hown2; have hb4 : Below w2.heap.size w2 w4 := gb_new (Nat.le_refl _) (by first | exact hb3 | exact hb3.alloc s3 _ | exact (hb3.alloc s3 _).drew) hgrow2 (fun g hg => (hown1.lt g hg).1); have s4 := hb4.size; have e0 := (hb4.cell (p := ⟨w.heap.size, 0, none⟩) (by show w.heap.size < w2.heap.size; omega)).trans d0; have e1 := (hb4.cell (p := ⟨w.heap.size + 1, 0, none⟩) (by show w.heap.size + 1 < w2.heap.size; omega)).trans d1; have e2 := (hb4.cell (p := ⟨w.heap.size + 1, 1, none⟩) (by show w.heap.size + 1 < w2.heap.size; omega)).trans d2; have e3 := (hb4.cell (p := ⟨w.heap.size + 1, 2, none⟩) (by show w.heap.size + 1 < w2.heap.size; omega)).trans d3; have e4 := (hb4.cell (p := ⟨w.heap.size + 1 + 1, 0, none⟩) (by show w.heap.size + 1 + 1 < w2.heap.size; omega)).trans d4; have e5 := (hb4.frozen (p := ⟨w.heap.size + 1 + 1, 0, none⟩) (by show w.heap.size + 1 + 1 < w2.heap.size; omega)).trans d5
        refine hK.out _ _ ?_ (fun hHeld => ?_)
        · ((try dsimp only); (repeat' apply And.intro); all_goals ((repeat (first | (with_reducible refine cell_drew ?_) | (with_reducible refine cell_drewN _ ?_) | ((with_reducible refine cell_alloc ?_ ?_); · first | omega | (simp; done) | (simp; omega) | assumption) | ((with_reducible refine cell_set ?_ ?_); · first | (intro e; injection e; omega) | (intro e; simp at e; done) | (intro e; simp at e; omega)))); first | assumption | (simp; done)))
        clear hK K
        (try simp only [Act.put, List.setIfInBounds_toArray, List.set_cons_zero, List.set_cons_succ])
        refine reg_on (i := 7) (d := 28) (v := ?rv20) rfl rfl (by kernel_rfl) (by kernel_rfl) (by kernel_rfl) (fun _ _ _ h => h) (by rfl) ?ry20 (by assumption) ?rr20
        case ry20 => (intro wz hSw; (try dsimp only at hSw); go_simp; try with_reducible rfl)
        (try simp only [Act.put, List.setIfInBounds_toArray, List.set_cons_zero, List.set_cons_succ])
        refine wpAnyH_ready (rs := [8]) (by kernel_rfl) (by simp) ?_
        refine AllReadyH.cons rfl (fun K hK => ?_) AllReadyH.nil
        go_simp
        refine hK.out _ _ ?_ (fun hHeld => ?_)
        · ((try dsimp only); (repeat' apply And.intro); all_goals ((repeat (first | (with_reducible refine cell_drew ?_) | (with_reducible refine cell_drewN _ ?_) | ((with_reducible refine cell_alloc ?_ ?_); · first | omega | (simp; done) | (simp; omega) | assumption) | ((with_reducible refine cell_set ?_ ?_); · first | (intro e; injection e; omega) | (intro e; simp at e; done) | (intro e; simp at e; omega)))); first | assumption | (simp; done)))
        clear hK K
        (try simp only [Act.put, List.setIfInBounds_toArray, List.set_cons_zero, List.set_cons_succ])
        refine reg_on (i := 9) (d := 5) (v := ?rv22) rfl rfl (by kernel_rfl) (by kernel_rfl) (by kernel_rfl) (fun _ _ _ h => h) (by rfl) ?ry22 (by assumption) ?rr22
        case ry22 => (intro wz hSw; (try dsimp only at hSw); go_simp; try with_reducible rfl)
        (try simp only [Act.put, List.setIfInBounds_toArray, List.set_cons_zero, List.set_cons_succ])
        refine wpAnyH_done (by kernel_rfl) ?_ _
        have HO := Lib.hid (own_setO (b := w.heap.size + 1 + 1) (o := 0) (own_base hown2 (show w.heap.size ≤ w2.heap.size by omega)) (.slice A4 (n + 1) c4') (fun e => by have := (hown2.lt _ e).1; omega))
        have HBF := Lib.hid (HB.out.trans (hb4.mono HB.out.size))
        clear hown1 hown2 hgrow1 hgrow2 hb3 hb4 d0 d1 d2 d3 d4 d5 m0 m1 m2 m3
        go_wp2
        refine bodyPost_ret (v := .tuple #[puzV A4 (n + 1) c4', .bool true]) (by simp [results, Try.results51, go_sem, e4]) rfl ⟨A4, n + 1, c4', rfl, by rw [HLR.out, boxCells_append]; exact HO.out, ?_⟩
        exact bset (p := ⟨w.heap.size + 1 + 1, 0, none⟩) (by show w.heap.size ≤ w.heap.size + 1 + 1; omega) _ HBF.out
    ·
      go_simp
      refine hK.out _ _ ?_ (fun hHeld => ?_)
      · ((try dsimp only); (repeat' apply And.intro); all_goals ((repeat (first | (with_reducible refine cell_drew ?_) | (with_reducible refine cell_drewN _ ?_) | ((with_reducible refine cell_alloc ?_ ?_); · first | omega | (simp; done) | (simp; omega) | assumption) | ((with_reducible refine cell_set ?_ ?_); · first | (intro e; injection e; omega) | (intro e; simp at e; done) | (intro e; simp at e; omega)))); first | assumption | (simp; done)))
      clear hK K
      (try simp only [Act.put, List.setIfInBounds_toArray, List.set_cons_zero, List.set_cons_succ])
      refine wpAnyH_ready (rs := [0]) (by kernel_rfl) (by simp) ?_
      refine AllReadyH.cons rfl (fun K hK => ?_) (AllReadyH.nil)
      go_simp
      refine hK.out _ _ ?_ (fun hHeld => ?_)
      · ((try dsimp only); (repeat' apply And.intro); all_goals ((repeat (first | (with_reducible refine cell_drew ?_) | (with_reducible refine cell_drewN _ ?_) | ((with_reducible refine cell_alloc ?_ ?_); · first | omega | (simp; done) | (simp; omega) | assumption) | ((with_reducible refine cell_set ?_ ?_); · first | (intro e; injection e; omega) | (intro e; simp at e; done) | (intro e; simp at e; omega)))); first | assumption | (simp; done)))
      clear hK K
      (try simp only [Act.put, List.setIfInBounds_toArray, List.set_cons_zero, List.set_cons_succ])
      refine wpAnyH_ready (rs := [3]) (by kernel_rfl) (by simp) ?_
      refine AllReadyH.cons rfl (fun K hK => ?_) (AllReadyH.nil)
      refine step_append_ownG rfl (.tmp 21) (.tmp 23) 33 rfl w2.heap.size 25 i0 (bx3 0 0 0) 3 24 Try.underlying33 hi hz0 hi1 hi2 rfl (by decide) _ 0 [] rfl (by first | exact World.ownsRow.drew (own_new w2 25 3 0 #[] rfl (by omega) (Nat.le_refl _)) | exact World.ownsRow.drew (own_alloc (own_new w2 25 3 0 #[] rfl (by omega) (Nat.le_refl _)) _) | (have hq := own_new (B := w2.heap.size) (w2.alloc (.cells #[.int .i64 x, .int .i64 y, .int .i64 z] 25)) 25 3 0 #[] rfl (by omega) (by simp); rw [show (w2.alloc (.cells #[.int .i64 x, .int .i64 y, .int .i64 z] 25)).heap.size = w2.heap.size + 1 by simp] at hq; exact World.ownsRow.drew hq)) ⟨b, o, none⟩ n c (boxCells S) rfl HL1.out (rd_newsG (HR2.out.later (B := w2.heap.size) (by first | exact ((Below.refl _ _).alloc (Nat.le_refl _) _).drew | exact (((Below.refl _ _).alloc (Nat.le_refl _) _).alloc (by simp) _).drew) (Nat.le_refl _))) (box_oneCell _) (by simp only [maxLen]; omega) (by omega) (by first | (show w2.heap.size ≤ (w2.alloc _).heap.size; simp) | (show w2.heap.size ≤ ((w2.alloc _).alloc _).heap.size; simp; omega)) ?_; intro v1 w3 hown1 hgrow1 _; obtain ⟨A3, c3', rfl⟩ := own_slice hown1; simp only [Nat.zero_add, List.nil_append] at hown1; (try rw [Nat.zero_add]); have hb3 : Below w2.heap.size w2 w3 := gb_new (Nat.le_refl _) (by first | exact ((Below.refl _ _).alloc (Nat.le_refl _) _).drew | exact (((Below.refl _ _).alloc (Nat.le_refl _) _).alloc (by simp) _).drew) hgrow1 (fun g hg => by cases hg; first | exact Nat.le_refl _ | exact Nat.le_succ _); have s3 := hb3.size; have m0 := (hb3.cell (p := ⟨w.heap.size, 0, none⟩) (by show w.heap.size < w2.heap.size; omega)).trans d0; have m1 := (hb3.cell (p := ⟨w.heap.size + 1, 0, none⟩) (by show w.heap.size + 1 < w2.heap.size; omega)).trans d1; have m2 := (hb3.cell (p := ⟨w.heap.size + 1, 1, none⟩) (by show w.heap.size + 1 < w2.heap.size; omega)).trans d2; have m3 := (hb3.cell (p := ⟨w.heap.size + 1, 2, none⟩) (by show w.heap.size + 1 < w2.heap.size; omega)).trans d3
      refine hK.out _ _ ?_ (fun hHeld => ?_)
      · ((try dsimp only); (repeat' apply And.intro); all_goals ((repeat (first | (with_reducible refine cell_drew ?_) | (with_reducible refine cell_drewN _ ?_) | ((with_reducible refine cell_alloc ?_ ?_); · first | omega | (simp; done) | (simp; omega) | assumption) | ((with_reducible refine cell_set ?_ ?_); · first | (intro e; injection e; omega) | (intro e; simp at e; done) | (intro e; simp at e; omega)))); first | assumption | (simp; done)))
      clear hK K
      (try simp only [Act.put, List.setIfInBounds_toArray, List.set_cons_zero, List.set_cons_succ])
      refine wpAnyH_ready (rs := [6]) (by kernel_rfl) (by simp) ?_
      refine AllReadyH.cons rfl (fun K hK => ?_) AllReadyH.nil
      refine step_append_ownG rfl (.tmp 24) (.tmp 26) 33 rfl w2.heap.size 25 i0 (bx3 0 0 0) 3 24 Try.underlying33 hi hz0 hi1 hi2 rfl (by decide) (.slice A3 n c3') n (boxCells S) rfl (by first | exact hown1 | exact own_alloc hown1 _ | exact World.ownsRow.drew (own_alloc hown1 _)) _ 1 1 (boxCells [(x, y, z)]) rfl rfl (by first | exact fun j u hj => new3e w3 25 x y z j u hj | exact news_grown hgrow1 (fun j u hj => news_two w2 25 x y z _ j u hj) (by first | (show w2.heap.size + 1 < ((w2.alloc _).alloc _).heap.size; simp)) (show some (w2.heap.size + 1) ≠ some w2.heap.size by simp) | exact news_grown hgrow1 (fun j u hj => news_old w2 25 x y z _ j u hj) (by show w2.heap.size < ((w2.alloc _).alloc _).heap.size; simp; omega) (show some w2.heap.size ≠ some (w2.heap.size + 1) by simp)) (by intro u hu; simp [boxCells] at hu; rcases hu with rfl | rfl | rfl <;> rfl) (by simp only [maxLen]; omega) (by omega) (by first | exact s3 | (show w2.heap.size ≤ (w3.alloc _).heap.size; simp; omega)) ?_; intro v2 w4 hown2 hgrow2 _; obtain ⟨A4, c4', rfl⟩ := own_slice hown2; have hb4 : Below w2.heap.size w2 w4 := gb_new (Nat.le_refl _) (by first | exact hb3 | exact hb3.alloc s3 _ | exact (hb3.alloc s3 _).drew) hgrow2 (fun g hg => (hown1.lt g hg).1); have s4 := hb4.size; have e0 := (hb4.cell (p := ⟨w.heap.size, 0, none⟩) (by show w.heap.size < w2.heap.size; omega)).trans d0; have e1 := (hb4.cell (p := ⟨w.heap.size + 1, 0, none⟩) (by show w.heap.size + 1 < w2.heap.size; omega)).trans d1; have e2 := (hb4.cell (p := ⟨w.heap.size + 1, 1, none⟩) (by show w.heap.size + 1 < w2.heap.size; omega)).trans d2; have e3 := (hb4.cell (p := ⟨w.heap.size + 1, 2, none⟩) (by show w.heap.size + 1 < w2.heap.size; omega)).trans d3; have e4 := (hb4.cell (p := ⟨w.heap.size + 1 + 1, 0, none⟩) (by show w.heap.size + 1 + 1 < w2.heap.size; omega)).trans d4; have e5 := (hb4.frozen (p := ⟨w.heap.size + 1 + 1, 0, none⟩) (by show w.heap.size + 1 + 1 < w2.heap.size; omega)).trans d5
      refine hK.out _ _ ?_ (fun hHeld => ?_)
      · ((try dsimp only); (repeat' apply And.intro); all_goals ((repeat (first | (with_reducible refine cell_drew ?_) | (with_reducible refine cell_drewN _ ?_) | ((with_reducible refine cell_alloc ?_ ?_); · first | omega | (simp; done) | (simp; omega) | assumption) | ((with_reducible refine cell_set ?_ ?_); · first | (intro e; injection e; omega) | (intro e; simp at e; done) | (intro e; simp at e; omega)))); first | assumption | (simp; done)))
      clear hK K
      (try simp only [Act.put, List.setIfInBounds_toArray, List.set_cons_zero, List.set_cons_succ])
      refine reg_on (i := 7) (d := 28) (v := ?rv24) rfl rfl (by kernel_rfl) (by kernel_rfl) (by kernel_rfl) (fun _ _ _ h => h) (by rfl) ?ry24 (by assumption) ?rr24
      case ry24 => (intro wz hSw; (try dsimp only at hSw); go_simp; try with_reducible rfl)
      (try simp only [Act.put, List.setIfInBounds_toArray, List.set_cons_zero, List.set_cons_succ])
      refine wpAnyH_ready (rs := [8]) (by kernel_rfl) (by simp) ?_
      refine AllReadyH.cons rfl (fun K hK => ?_) AllReadyH.nil
      go_simp
      refine hK.out _ _ ?_ (fun hHeld => ?_)
      · ((try dsimp only); (repeat' apply And.intro); all_goals ((repeat (first | (with_reducible refine cell_drew ?_) | (with_reducible refine cell_drewN _ ?_) | ((with_reducible refine cell_alloc ?_ ?_); · first | omega | (simp; done) | (simp; omega) | assumption) | ((with_reducible refine cell_set ?_ ?_); · first | (intro e; injection e; omega) | (intro e; simp at e; done) | (intro e; simp at e; omega)))); first | assumption | (simp; done)))
      clear hK K
      (try simp only [Act.put, List.setIfInBounds_toArray, List.set_cons_zero, List.set_cons_succ])
      refine reg_on (i := 9) (d := 5) (v := ?rv26) rfl rfl (by kernel_rfl) (by kernel_rfl) (by kernel_rfl) (fun _ _ _ h => h) (by rfl) ?ry26 (by assumption) ?rr26
      case ry26 => (intro wz hSw; (try dsimp only at hSw); go_simp; try with_reducible rfl)
      (try simp only [Act.put, List.setIfInBounds_toArray, List.set_cons_zero, List.set_cons_succ])
      refine wpAnyH_done (by kernel_rfl) ?_ _
      have HO := Lib.hid (own_setO (b := w.heap.size + 1 + 1) (o := 0) (own_base hown2 (show w.heap.size ≤ w2.heap.size by omega)) (.slice A4 (n + 1) c4') (fun e => by have := (hown2.lt _ e).1; omega))
      have HBF := Lib.hid (HB.out.trans (hb4.mono HB.out.size))
      clear hown1 hown2 hgrow1 hgrow2 hb3 hb4 d0 d1 d2 d3 d4 d5 m0 m1 m2 m3
      go_wp2
      refine bodyPost_ret (v := .tuple #[puzV A4 (n + 1) c4', .bool true]) (by simp [results, Try.results51, go_sem, e4]) rfl ⟨A4, n + 1, c4', rfl, by rw [HLR.out, boxCells_append]; exact HO.out, ?_⟩
      exact bset (p := ⟨w.heap.size + 1 + 1, 0, none⟩) (by show w.heap.size ≤ w.heap.size + 1 + 1; omega) _ HBF.out
end Go.Proofs.Ytghlgmbekgfmnaa
