/-
  DERIVED. GIVEN WITH THE SEED: THE CARDS: each row of YthbbddgjphdgjabDoorRows.lean that lists a variable, with what it lists TIED to the program's text (the seventh form; the later family's looks); each row that meets fmt, with fmt's text TOLD by the authors' own Lean function (tested against real Go, not proved from fmt's source: count such statements apart). THE CARD IS WHAT COUNTS. Prove the row's statement (the work); the ties are given (YthbbddgjphdgjabDoorTie.lean); close each card by the builder's one call (the guide's Derived/Test/ToyasCard.lean, 'card_holds'). Laid BY PROGRAM, IN A SANDBOX (cutbox-door.mjs). By AI agents, Wed Nov 11 2026. No macro, syntax, notation, axiom, sorry.
-/
import Derived.Test.YthbbddgjphdgjabDoorRows
import GoSem.ClaimSeven
namespace Go.Proofs.YthbbddgjphdgjabDoor
namespace Rows

/-- THE TIED CARD OF 'laws.FnExactBoxText'. -/
def fnExactBoxTextCard : Claim7 := { stood := { row := fnExactBoxTextRow, standIns := [], harness := (true, "3703bbcd9eb4bffcfb02aec49f4b9e56c7929005017d5f5e57722f499178e0fb"), looks := true }, kinds := [], alts := [], laidByText := true, laidKinds := [.data, .data, .data], laidTests := true, laidLooks := .later }
def FnExactBoxTextCardSaid : Prop := Claim7.holds Tryd.pinned (.plain (OpenSpec.ofChange fnExactBoxTextSpec)) fnExactBoxTextCard

/-- THE TIED CARD OF 'laws.FnExactParseBox'. -/
def fnExactParseBoxCard : Claim7 := { stood := { row := fnExactParseBoxRow, standIns := [], harness := (true, "3703bbcd9eb4bffcfb02aec49f4b9e56c7929005017d5f5e57722f499178e0fb"), looks := true }, kinds := [], alts := [], laidByText := true, laidKinds := [.data, .data, .data, .sentinel, .sentinel], laidTests := true, laidLooks := .later }
def FnExactParseBoxCardSaid : Prop := Claim7.holds Tryd.pinned (.plain (OpenSpec.ofChange fnExactParseBoxSpec)) fnExactParseBoxCard

/-- THE SECOND FORM's CARD OF 'laws.FnExactBoxText'. -/
def fnExactBoxTextUptoCard : Claim7 := { stood := { row := fnExactBoxTextUptoRow, standIns := [], harness := (true, "3703bbcd9eb4bffcfb02aec49f4b9e56c7929005017d5f5e57722f499178e0fb"), looks := true }, kinds := [], alts := [], laidByText := true, laidKinds := [.data, .data, .data], laidTests := true, laidLooks := .later }
def FnExactBoxTextUptoCardSaid : Prop := Claim7.holds Tryd.pinned (.plain (OpenSpec.upto fnExactBoxTextSpec)) fnExactBoxTextUptoCard

/-- THE SECOND FORM's CARD OF 'laws.FnExactParseBox'. -/
def fnExactParseBoxUptoCard : Claim7 := { stood := { row := fnExactParseBoxUptoRow, standIns := [], harness := (true, "3703bbcd9eb4bffcfb02aec49f4b9e56c7929005017d5f5e57722f499178e0fb"), looks := true }, kinds := [], alts := [], laidByText := true, laidKinds := [.data, .data, .data, .sentinel, .sentinel], laidTests := true, laidLooks := .later }
def FnExactParseBoxUptoCardSaid : Prop := Claim7.holds Tryd.pinned (.plain (OpenSpec.upto fnExactParseBoxSpec)) fnExactParseBoxUptoCard
end Rows
end Go.Proofs.YthbbddgjphdgjabDoor
