/-
  Words: clues, puzzles, hidden chomps, what a clue tells, solutions. Nothing of the program is named here.
-/
import Derived.Test.YtghlgmbekgfmnaaLostC
import Derived.Test.YtghlgmbekgfmnaaGoodC
import Derived.Test.YtghlgmbekgfmnaaBoxW
namespace Go.Proofs.Ytghlgmbekgfmnaa
open Go.RowKit
set_option linter.unusedVariables false

abbrev Clu := Int × Int × Int
def mostA (k : Int) : Int := if k = 1 then 3 else if k = 4 then 4 else 0
def mostB (k : Int) : Int := if k = 2 then 1 else 20
/-- a clue -/
def cluB (c : Clu) : Bool := decide (0 ≤ c.1 ∧ c.1 < 6 ∧ 0 ≤ c.2.1 ∧ c.2.1 ≤ mostA c.1 ∧ 0 ≤ c.2.2 ∧ c.2.2 ≤ mostB c.1)
theorem cluB_true {c : Clu} (h : cluB c = true) : 0 ≤ c.1 ∧ c.1 < 6 ∧ 0 ≤ c.2.1 ∧ c.2.1 ≤ mostA c.1 ∧ 0 ≤ c.2.2 ∧ c.2.2 ≤ mostB c.1 := of_decide_eq_true h
theorem mostA_le (k : Int) : 0 ≤ mostA k ∧ mostA k ≤ 4 := by unfold mostA; split <;> (try split) <;> omega
theorem mostB_le (k : Int) : 1 ≤ mostB k ∧ mostB k ≤ 20 := by unfold mostB; split <;> omega
/-- a puzzle -/
def pzB (S : List Clu) : Bool := decide (S.length ≤ 6) && S.all cluB
theorem pzB_true {S : List Clu} (h : pzB S = true) : S.length ≤ 6 ∧ ∀ c ∈ S, cluB c = true := by simpa [pzB] using h
/-- a hidden chomp -/
def hidB (l : List Int) : Bool := chB l && (decide (l.length ≤ 4) && decide (l.getD 0 0 ≤ 5))
theorem hidB_true {l : List Int} (h : hidB l = true) : ChOK l ∧ l.length ≤ 4 ∧ l.getD 0 0 ≤ 5 := by
  simp only [hidB, Bool.and_eq_true, decide_eq_true_eq] at h
  exact ⟨chB_true.1 h.1, h.2.1, h.2.2⟩

/-- how many rows are longer than a -/
def overL (a : Int) (l : List Int) : Nat := (l.filter fun z => decide (a < z)).length
/-- what a clue of a kind has to tell of a chomp -/
def tellI (k a : Int) (l : List Int) : Int :=
  if k = 0 then l.sum else if k = 1 then l.getD a.toNat 0 else if k = 2 then (if 0 < grI l then 1 else 0) else if k = 3 then grI l else if k = 4 then (overL a l : Nat) else ((gbL l).length : Nat)
theorem tellI_0 (a : Int) (l : List Int) : tellI 0 a l = l.sum := rfl
theorem tellI_1 (a : Int) (l : List Int) : tellI 1 a l = l.getD a.toNat 0 := rfl
theorem tellI_2 (a : Int) (l : List Int) : tellI 2 a l = if 0 < grI l then 1 else 0 := rfl
theorem tellI_3 (a : Int) (l : List Int) : tellI 3 a l = grI l := rfl
theorem tellI_4 (a : Int) (l : List Int) : tellI 4 a l = (overL a l : Nat) := rfl
theorem tellI_5 (a : Int) (l : List Int) : tellI 5 a l = ((gbL l).length : Nat) := rfl
theorem gbL_le {l : List Int} (hl : ChOK l) : (gbL l).length ≤ 36 := by
  refine Nat.le_trans (List.length_filter_le _ _) ?_
  have h := length_mv hl.fall 6
  simpa [mvL] using h
theorem overL_le (a : Int) (l : List Int) : overL a l ≤ l.length := List.length_filter_le _ _
theorem tellI_in {k a : Int} {l : List Int} (hl : ChOK l) (hk : 0 ≤ k ∧ k < 6) : 0 ≤ tellI k a l ∧ tellI k a l ≤ 36 := by
  have h1 := sumI_36 hl
  have h2 := hl.ge0 a.toNat
  have h3 := hl.le6 a.toNat
  have h4 := gr_le hl
  have h5 := overL_le a l
  have h6 := gbL_le hl
  have h7 := hl.2.1
  unfold tellI
  split
  · omega
  split
  · omega
  split
  · split <;> omega
  split
  · unfold grI; omega
  split
  · omega
  · omega
def fitB (c : Clu) (l : List Int) : Bool := decide (tellI c.1 c.2.1 l = c.2.2)
/-- a chomp fits all clues -/
def fits (S : List Clu) (l : List Int) : Bool := S.all fun c => fitB c l
/-- the solutions, in order -/
def solL (S : List Clu) : List (List Int) := (chs 4 5 []).filter (fits S)
theorem chs45_len : (chs 4 5 []).length = 125 := by rw [length_chs]; decide +kernel
theorem solL_le (S : List Clu) : (solL S).length ≤ 125 := by
  have h := List.length_filter_le (fits S) (chs 4 5 [])
  rw [chs45_len] at h
  exact h
theorem mem_solL {S : List Clu} {l : List Int} (h : l ∈ solL S) : ChOK l ∧ l.length ≤ 4 ∧ l.getD 0 0 ≤ 5 :=
  (mem_all (H := 4) (W := 5) (by decide) (by decide)).1 (List.mem_filter.1 h).1
def solK (S : List Clu) (k : Nat) : List (List Int) := ((chs 4 5 []).take k).filter (fits S)
theorem solK_succ {S : List Clu} {k : Nat} (h : k < (chs 4 5 []).length) : solK S (k + 1) = solK S k ++ (if fits S (chs 4 5 [])[k] then [(chs 4 5 [])[k]] else []) := by
  unfold solK
  rw [List.take_succ_eq_append_getElem h, List.filter_append]
  congr 1
  by_cases e : fits S (chs 4 5 [])[k]
  · rw [if_pos e]; simp [e]
  · rw [if_neg e]; simp [e]
theorem solK_all {S : List Clu} {k : Nat} (h : (chs 4 5 []).length ≤ k) : solK S k = solL S := by unfold solK solL; rw [List.take_of_length_le h]
theorem solK_le (S : List Clu) (k : Nat) : (solK S k).length ≤ k := by
  refine Nat.le_trans (List.length_filter_le _ _) ?_
  rw [List.length_take]; omega
end Go.Proofs.Ytghlgmbekgfmnaa
