/-
  Contracts: ChompOfRank of the model and of the program.
-/
import Derived.Test.YtghlgmbekgfmnaaListS
import Derived.Test.YtghlgmbekgfmnaaListI
import Derived.Test.YtghlgmbekgfmnaaListM
namespace Go.Proofs.Ytghlgmbekgfmnaa
open Go.RowKit
set_option linter.unusedVariables false

theorem all_923 : (chs 6 6 []).length = 923 := by rw [length_chs, cntC_6]
def rankB (z : Int) : Bool := decide (0 ≤ z ∧ z ≤ 922)
def rankR (z : Int) : List Int := if rankB z then (chs 6 6 []).getD z.toNat [] else []
theorem rank_ok {i : Nat} (h : i ≤ 922) : ChOK ((chs 6 6 []).getD i []) := by
  have hl : i < (chs 6 6 []).length := by rw [all_923]; omega
  have e : (chs 6 6 []).getD i [] = (chs 6 6 [])[i] := by simp [List.getD, List.getElem?_eq_getElem hl]
  rw [e]
  exact ((mem_all (H := 6) (W := 6) (by omega) (by omega)).1 (List.getElem_mem hl)).1
theorem length_rankR (z : Int) : (rankR z).length ≤ 6 := by
  unfold rankR
  split
  · rename_i h
    simp only [rankB, decide_eq_true_eq] at h
    exact (rank_ok (i := z.toNat) (by omega)).2.1
  · simp
theorem rankR_yes {i : Nat} (h : i ≤ 922) : rankR (i : Int) = (chs 6 6 []).getD i [] := by
  unfold rankR
  rw [if_pos (by simp [rankB]; omega)]
  simp
theorem rankR_no {z : Int} (h : rankB z = false) : rankR z = [] := by simp [rankR, h]
theorem chCells_at (L : List (List Int)) (i j : Nat) (hi : i < L.length) (hj : j < 6) : (chCells L)[i * 6 + j]? = some (.int .i64 ((L.getD i []).getD j 0)) := by
  induction L generalizing i with
  | nil => simp at hi
  | cons l r ih =>
    have e : chCells (l :: r) = cellsF (fun j => l.getD j 0) ++ chCells r := by simp [chCells]
    rw [e]
    cases i with
    | zero =>
      rw [List.getElem?_append_left (by simp; omega), Nat.zero_mul, Nat.zero_add]
      exact cellsF_at _ hj
    | succ i =>
      rw [List.getElem?_append_right (by simp; omega)]
      have h := ih i (by simpa using hi)
      have e2 : (i + 1) * 6 + j - (cellsF fun j => l.getD j 0).length = i * 6 + j := by simp; omega
      rw [e2, h]
      simp

end Go.Proofs.Ytghlgmbekgfmnaa
