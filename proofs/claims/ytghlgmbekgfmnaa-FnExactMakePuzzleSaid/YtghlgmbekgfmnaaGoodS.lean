/-
  Contracts: GoodChomps of the model; FirstGoodChomp of both.
-/
import Derived.Test.YtghlgmbekgfmnaaGoodC
import Derived.Test.YtghlgmbekgfmnaaSel
namespace Go.Proofs.Ytghlgmbekgfmnaa
open Go.RowKit
set_option linter.unusedVariables false

theorem mvL_len {l : List Int} (hl : ChOK l) : (mvL l).length ≤ 36 := by
  have h := grL_len35 hl
  have e : (grL l).length = (mvL l).length := by simp only [grL, List.length_map]
  omega


/-- what FirstGoodChomp returns -/
def fgR (l : List Int) : Int × Int × Bool := match goR l with | [] => (0, 0, false) | p :: _ => (p.1, p.2, true)



end Go.Proofs.Ytghlgmbekgfmnaa
