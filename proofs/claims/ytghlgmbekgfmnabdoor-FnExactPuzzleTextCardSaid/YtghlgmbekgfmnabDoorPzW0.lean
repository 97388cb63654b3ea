/-
  Words: clues and puzzles. Nothing of the program is named here.
-/
import Derived.Test.YtghlgmbekgfmnabDoorBoxW
namespace Go.Proofs.YtghlgmbekgfmnabDoor
open Go.RowKit
set_option linter.unusedVariables false

abbrev Clu := Int × Int × Int
def mostA (k : Int) : Int := if k = 1 then 3 else if k = 4 then 4 else 0
def mostB (k : Int) : Int := if k = 2 then 1 else 20
/-- a clue -/
def cluB (c : Clu) : Bool := decide (0 ≤ c.1 ∧ c.1 < 6 ∧ 0 ≤ c.2.1 ∧ c.2.1 ≤ mostA c.1 ∧ 0 ≤ c.2.2 ∧ c.2.2 ≤ mostB c.1)
theorem cluB_true {c : Clu} (h : cluB c = true) : 0 ≤ c.1 ∧ c.1 < 6 ∧ 0 ≤ c.2.1 ∧ c.2.1 ≤ mostA c.1 ∧ 0 ≤ c.2.2 ∧ c.2.2 ≤ mostB c.1 := of_decide_eq_true h
theorem mostA_le (k : Int) : 0 ≤ mostA k ∧ mostA k ≤ 4 := by unfold mostA; split <;> (try split) <;> omega
theorem mostB_le (k : Int) : 1 ≤ mostB k ∧ mostB k ≤ 20 := by unfold mostB; split <;> omega
/-- a puzzle -/
def pzB (S : List Clu) : Bool := decide (S.length ≤ 6) && S.all cluB
theorem pzB_true {S : List Clu} (h : pzB S = true) : S.length ≤ 6 ∧ ∀ c ∈ S, cluB c = true := by simpa [pzB] using h
end Go.Proofs.YtghlgmbekgfmnabDoor
