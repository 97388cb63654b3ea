/-
  Contracts: IsStack of the program and of the model. Conditions: none.
-/
import Derived.Test.YtkijcpbjjbhnhaaStkI
namespace Go.Proofs.Ytkijcpbjjbhnhaa
open Go.RowKit
set_option linter.unusedVariables false
set_option linter.unusedSimpArgs false


def isV (S : List Sb) (o : List Int) : Bool := if slB S then stk S o else false




end Go.Proofs.Ytkijcpbjjbhnhaa
