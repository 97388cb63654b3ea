/-
  Contract: what the poorest of the program can have (poorestAtBest). Conditions: shares in order.
-/
import Derived.Test.YtkijcpbjjbhnhaaPoorP
import Derived.Test.YtkijcpbjjbhnhaaTk
namespace Go.Proofs.Ytkijcpbjjbhnhaa
open Go.RowKit
set_option linter.unusedVariables false
set_option linter.unusedSimpArgs false

theorem arr_lits (a : List Int) (h0 : (Lit.int .i64 (a.getD 0 0)).wf = true) (h1 : (Lit.int .i64 (a.getD 1 0)).wf = true) (h2 : (Lit.int .i64 (a.getD 2 0)).wf = true) (h3 : (Lit.int .i64 (a.getD 3 0)).wf = true) : Try.prog.keyLits 3 52 (arr4 a).cells.toList = some [.int .i64 (a.getD 0 0), .int .i64 (a.getD 1 0), .int .i64 (a.getD 2 0), .int .i64 (a.getD 3 0)] := by
  have hi : Try.prog.underlying 3 = some (.int .i64) := by kernel_rfl
  have ci : Try.prog.cellsOf 3 = 1 := by kernel_rfl
  have hc : Try.prog.cellsOf 52 = 4 := by kernel_rfl
  unfold arr4
  generalize a.getD 0 0 = x0 at *
  generalize a.getD 1 0 = x1 at *
  generalize a.getD 2 0 = x2 at *
  generalize a.getD 3 0 = x3 at *
  simp [Program.keyLits, Try.underlying52, hi, ci, hc, h0, h1, h2, h3, Value.cells, List.range, List.range.loop]
theorem arr_formed (a : List Int) : (arr4 a).formed Try.prog 52 = true := by
  have hc : Try.prog.cellsOf 52 = 4 := by kernel_rfl
  simp [Value.formed, Try.underlying52, hc]
theorem eql_arr (a b : List Int) (ha : ∀ j, j < 4 → (Lit.int .i64 (a.getD j 0)).wf = true) (hb : ∀ j, j < 4 → (Lit.int .i64 (b.getD j 0)).wf = true) (w : World) : (binOp .eql 52 (arr4 a) (arr4 b)).run Try.prog w = .ok (.bool (decide (a.getD 0 0 = b.getD 0 0 ∧ a.getD 1 0 = b.getD 1 0 ∧ a.getD 2 0 = b.getD 2 0 ∧ a.getD 3 0 = b.getD 3 0))) w := by
  have hk : EqAt Try.prog (9997 + 3) 52 := run_equalIn_deep 9997 3 _ (by kernel_rfl)
  obtain ⟨r, h1, h2⟩ := hk w 3 3 (arr4 a) (arr4 b) _ _ (arr_formed a) (arr_formed b) (arr_lits a (ha 0 (by omega)) (ha 1 (by omega)) (ha 2 (by omega)) (ha 3 (by omega))) (arr_lits b (hb 0 (by omega)) (hb 1 (by omega)) (hb 2 (by omega)) (hb 3 (by omega)))
  rw [run_eql_struct]
  have h3 : (Op.equalIn 10000 52 (arr4 a) (arr4 b)).run Try.prog w = .ok r w := h1
  rw [h3]
  have hr : r = decide (a.getD 0 0 = b.getD 0 0 ∧ a.getD 1 0 = b.getD 1 0 ∧ a.getD 2 0 = b.getD 2 0 ∧ a.getD 3 0 = b.getD 3 0) := by
    cases r
    · symm
      rw [decide_eq_false_iff_not]
      intro h
      have := h2.2 (by rw [h.1, h.2.1, h.2.2.1, h.2.2.2])
      cases this
    · symm
      rw [decide_eq_true_iff]
      have := h2.1 rfl
      simp only [List.cons.injEq, Lit.int.injEq, true_and, and_true] at this
      exact this
  rw [hr]; rfl
theorem Bx.put {w : World} {g : Nat} {T : List Int} (hb : Bx w g T) (S : List Int) : Bx ((((w.setCell ⟨g, 0, none⟩ (.int .i64 (S.getD 0 0))).setCell ⟨g, 1, none⟩ (.int .i64 (S.getD 1 0))).setCell ⟨g, 2, none⟩ (.int .i64 (S.getD 2 0))).setCell ⟨g, 3, none⟩ (.int .i64 (S.getD 3 0))) g S := by
  unfold Bx at *
  rw [heap_setCell_same _ g 3 _ _ _ (heap_setCell_same _ g 2 _ _ _ (heap_setCell_same _ g 1 _ _ _ (heap_setCell_same _ g 0 _ _ _ hb)))]
  simp [blk4]
/-- two in order that are as long and lie alike are the same -/
theorem arr_inj {a b : List Int} (hl : a.length = b.length) (h4 : a.length ≤ 4) (h : a.getD 0 0 = b.getD 0 0 ∧ a.getD 1 0 = b.getD 1 0 ∧ a.getD 2 0 = b.getD 2 0 ∧ a.getD 3 0 = b.getD 3 0) : a = b := by
  apply List.ext_getElem hl
  intro j h1 h2
  have e1 : a.getD j 0 = a[j] := by simp [List.getD, h1]
  have e2 : b.getD j 0 = b[j] := by simp [List.getD, h2]
  rw [← e1, ← e2]
  rcases (show j = 0 ∨ j = 1 ∨ j = 2 ∨ j = 3 by omega) with rfl | rfl | rfl | rfl
  · exact h.1
  · exact h.2.1
  · exact h.2.2.1
  · exact h.2.2.2
/-- what has been tried last: nothing yet, or what one of the choices before leaves -/
def Tried (h : List Int) (v : Int) (i : Nat) (T : List Int) : Prop := T = [] ∨ ∃ j, j < i ∧ T = srt (bumpL h j v)
theorem wf_getD {T : List Int} (h : ∀ x ∈ T, 0 ≤ x ∧ x ≤ 1000000) (j : Nat) : (Lit.int .i64 (T.getD j 0)).wf = true := by
  by_cases hj : j < T.length
  · have := h _ (List.getElem_mem hj)
    rw [show T.getD j 0 = T[j] by simp [List.getD, hj]]
    exact WalkArith.wf_i64 (by omega)
  · rw [getD_len (by omega)]; decide
theorem bump_bound {h : List Int} {i : Nat} {v : Int} {B : Int} (hh : ∀ x ∈ h, 0 ≤ x ∧ x ≤ B) (hv : 0 ≤ v ∧ v ≤ 1000) (hB : 0 ≤ B) : ∀ x ∈ srt (bumpL h i v), 0 ≤ x ∧ x ≤ B + 1000 := by
  intro x hx
  have hx := (srt_perm _).mem_iff.1 hx
  unfold bumpL at hx
  rcases List.mem_or_eq_of_mem_set hx with hx | hx
  · have := hh x hx; omega
  · rw [hx]
    by_cases hi : i < h.length
    · have := hh _ (List.getElem_mem hi)
      simp only [List.getD, List.getElem?_eq_getElem hi, Option.getD_some]
      omega
    · simp only [List.getD, List.getElem?_eq_none (by omega : h.length ≤ i), Option.getD_none]
      omega
/-- equal to what was tried last: tried before -/
theorem tried_same {h T : List Int} {v : Int} {i : Nat} (hT : Tried h v i T) (hi : i < h.length) (h4 : h.length ≤ 4) (hh : ∀ x ∈ h, 0 ≤ x) (hv : 1 ≤ v)
    (e : (srt (bumpL h i v)).getD 0 0 = T.getD 0 0 ∧ (srt (bumpL h i v)).getD 1 0 = T.getD 1 0 ∧ (srt (bumpL h i v)).getD 2 0 = T.getD 2 0 ∧ (srt (bumpL h i v)).getD 3 0 = T.getD 3 0) : ∃ j, j < i ∧ ∀ ws, poorV ws (bumpL h i v) = poorV ws (bumpL h j v) := by
  rcases hT with rfl | ⟨j, hj, rfl⟩
  · exfalso
    have hm : h.getD i 0 + v ∈ srt (bumpL h i v) := (srt_perm _).mem_iff.2 (by unfold bumpL; exact List.mem_iff_getElem.2 ⟨i, by simpa using hi, by simp⟩)
    obtain ⟨k, hk, ek⟩ := List.mem_iff_getElem.1 hm
    rw [length_srt, length_bumpL] at hk
    have hx := hh _ (List.getElem_mem hi)
    have e2 : (srt (bumpL h i v)).getD k 0 = h.getD i 0 + v := by rw [← ek]; simp [List.getD, length_srt, length_bumpL, hk]
    have e3 : h.getD i 0 = h[i] := by simp [List.getD, hi]
    simp only [List.getD_nil] at e
    rcases (show k = 0 ∨ k = 1 ∨ k = 2 ∨ k = 3 by omega) with rfl | rfl | rfl | rfl <;> omega
  · have := arr_inj (by rw [length_srt, length_srt, length_bumpL, length_bumpL]) (by rw [length_srt, length_bumpL]; exact h4) e
    refine ⟨j, hj, fun ws => ?_⟩
    rw [← poorV_perm ws (srt_perm (bumpL h i v)), this, poorV_perm ws (srt_perm _)]
end Go.Proofs.Ytkijcpbjjbhnhaa
