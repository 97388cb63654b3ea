/-
  Words and contract: lost chomps within a bar, of the program (lostChomps).
-/
import Derived.Test.YtghlgmbekgfmnaaHeapC
import Derived.Test.YtghlgmbekgfmnaaRankC
namespace Go.Proofs.Ytghlgmbekgfmnaa
open Go.RowKit
set_option linter.unusedVariables false

/-- a lost chomp -/
def lsB (l : List Int) : Bool := !decide (0 < grI l)
def lsK (H W k : Nat) : List (List Int) := ((chs H W []).take k).filter lsB
/-- all lost ones -/
def lostL (H W : Nat) : List (List Int) := (chs H W []).filter lsB
theorem lsK_succ {H W k : Nat} (h : k < (chs H W []).length) : lsK H W (k + 1) = lsK H W k ++ (if lsB (chs H W [])[k] then [(chs H W [])[k]] else []) := by
  unfold lsK
  rw [List.take_succ_eq_append_getElem h, List.filter_append]
  congr 1
  by_cases e : lsB (chs H W [])[k]
  · rw [if_pos e]; simp [e]
  · rw [if_neg e]; simp [e]
theorem lsK_all {H W k : Nat} (h : (chs H W []).length ≤ k) : lsK H W k = lostL H W := by unfold lsK lostL; rw [List.take_of_length_le h]


end Go.Proofs.Ytghlgmbekgfmnaa
