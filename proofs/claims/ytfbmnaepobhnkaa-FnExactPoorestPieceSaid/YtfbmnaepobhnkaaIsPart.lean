/-
  Contract: whether a rectangle is inside a bar, of the program.
-/
import Derived.Test.YtfbmnaepobhnkaaNutAt
namespace Go.Proofs.Ytfbmnaepobhnkaa
open Go.RowKit

/-- a value of the struct of a part -/
abbrev part4 (x y a b : Int) : Value := .agg #[.int .i64 x, .int .i64 y, .int .i64 a, .int .i64 b]
def partB (W H x y a b : Int) : Bool := barB a b && decide (0 ≤ x) && decide (0 ≤ y) && decide (x ≤ W - a) && decide (y ≤ H - b)

end Go.Proofs.Ytfbmnaepobhnkaa
