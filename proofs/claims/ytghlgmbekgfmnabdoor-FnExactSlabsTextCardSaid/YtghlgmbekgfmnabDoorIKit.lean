/-
  Contracts: the laws' comparison and marks of slices of numbers.
-/
import Derived.Test.YtghlgmbekgfmnabDoorStrs
import Derived.StillTailTactics
import Derived.Deep.QuietTactic
import Derived.BigQuiet
namespace Go.Proofs.YtghlgmbekgfmnabDoor
open Go.RowKit



/-- the marks that the laws write into a slice of numbers -/
def marks1 (k0 : Int) (n : Nat) : List Int := (List.range n).map fun (i : Nat) => k0 + (i : Int)



end Go.Proofs.YtghlgmbekgfmnabDoor
