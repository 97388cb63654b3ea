/-
  DERIVED. GIVEN WITH THE SEED: THE CARDS: each row of YtfbmnaepobhnkaaDoorRows.lean that lists a variable, with what it lists TIED to the program's text (the seventh form; the later family's looks); each row that meets fmt, with fmt's text TOLD by the authors' own Lean function (tested against real Go, not proved from fmt's source: count such statements apart). THE CARD IS WHAT COUNTS. Prove the row's statement (the work); the ties are given (YtfbmnaepobhnkaaDoorTie.lean); close each card by the builder's one call (the guide's Derived/Test/ToyasCard.lean, 'card_holds'). Laid BY PROGRAM, IN A SANDBOX (cutbox-door.mjs). By AI agents, Wed Nov 11 2026. No macro, syntax, notation, axiom, sorry.
-/
import Derived.Test.YtfbmnaepobhnkaaDoorRows
import GoSem.ClaimSeven
namespace Go.Proofs.YtfbmnaepobhnkaaDoor
namespace Rows

/-- THE TIED CARD OF 'laws.FnExactBarText'. -/
def fnExactBarTextCard : Claim7 := { stood := { row := fnExactBarTextRow, standIns := [], harness := (true, "24d57ba88109fd547ec64c0d45e001e8a87ff0d26a667c3532ed828c5e67b5ef"), looks := true }, kinds := [], alts := [], laidByText := true, laidKinds := [.data, .data, .data], laidTests := true, laidLooks := .later }
def FnExactBarTextCardSaid : Prop := Claim7.holds Tryd.pinned (.plain (OpenSpec.ofChange fnExactBarTextSpec)) fnExactBarTextCard

/-- THE TIED CARD OF 'laws.FnExactParseBar'. -/
def fnExactParseBarCard : Claim7 := { stood := { row := fnExactParseBarRow, standIns := [], harness := (true, "24d57ba88109fd547ec64c0d45e001e8a87ff0d26a667c3532ed828c5e67b5ef"), looks := true }, kinds := [], alts := [], laidByText := true, laidKinds := [.data, .data, .data, .sentinel, .sentinel], laidTests := true, laidLooks := .later }
def FnExactParseBarCardSaid : Prop := Claim7.holds Tryd.pinned (.plain (OpenSpec.ofChange fnExactParseBarSpec)) fnExactParseBarCard

/-- THE TIED CARD OF 'laws.FnExactParseNuts'. -/
def fnExactParseNutsCard : Claim7 := { stood := { row := fnExactParseNutsRow, standIns := [], harness := (true, "24d57ba88109fd547ec64c0d45e001e8a87ff0d26a667c3532ed828c5e67b5ef"), looks := true }, kinds := [], alts := [], laidByText := true, laidKinds := [.data, .pinned], laidTests := true, laidLooks := .later }
def FnExactParseNutsCardSaid : Prop := Claim7.holds Tryd.pinned (.plain (OpenSpec.ofChange fnExactParseNutsSpec)) fnExactParseNutsCard

/-- THE SECOND FORM's CARD OF 'laws.FnExactBarText'. -/
def fnExactBarTextUptoCard : Claim7 := { stood := { row := fnExactBarTextUptoRow, standIns := [], harness := (true, "24d57ba88109fd547ec64c0d45e001e8a87ff0d26a667c3532ed828c5e67b5ef"), looks := true }, kinds := [], alts := [], laidByText := true, laidKinds := [.data, .data, .data], laidTests := true, laidLooks := .later }
def FnExactBarTextUptoCardSaid : Prop := Claim7.holds Tryd.pinned (.plain (OpenSpec.upto fnExactBarTextSpec)) fnExactBarTextUptoCard

/-- THE SECOND FORM's CARD OF 'laws.FnExactParseBar'. -/
def fnExactParseBarUptoCard : Claim7 := { stood := { row := fnExactParseBarUptoRow, standIns := [], harness := (true, "24d57ba88109fd547ec64c0d45e001e8a87ff0d26a667c3532ed828c5e67b5ef"), looks := true }, kinds := [], alts := [], laidByText := true, laidKinds := [.data, .data, .data, .sentinel, .sentinel], laidTests := true, laidLooks := .later }
def FnExactParseBarUptoCardSaid : Prop := Claim7.holds Tryd.pinned (.plain (OpenSpec.upto fnExactParseBarSpec)) fnExactParseBarUptoCard

/-- THE SECOND FORM's CARD OF 'laws.FnExactParseNuts'. -/
def fnExactParseNutsUptoCard : Claim7 := { stood := { row := fnExactParseNutsUptoRow, standIns := [], harness := (true, "24d57ba88109fd547ec64c0d45e001e8a87ff0d26a667c3532ed828c5e67b5ef"), looks := true }, kinds := [], alts := [], laidByText := true, laidKinds := [.data, .pinned], laidTests := true, laidLooks := .later }
def FnExactParseNutsUptoCardSaid : Prop := Claim7.holds Tryd.pinned (.plain (OpenSpec.upto fnExactParseNutsSpec)) fnExactParseNutsUptoCard
end Rows
end Go.Proofs.YtfbmnaepobhnkaaDoor
