/-
  DERIVED. GIVEN WITH THE SEED: THE CARDS: each row of YtghlgmbekgfmnabDoorRows.lean that lists a variable, with what it lists TIED to the program's text (the seventh form; the later family's looks); each row that meets fmt, with fmt's text TOLD by the authors' own Lean function (tested against real Go, not proved from fmt's source: count such statements apart). THE CARD IS WHAT COUNTS. Prove the row's statement (the work); the ties are given (YtghlgmbekgfmnabDoorTie.lean); close each card by the builder's one call (the guide's Derived/Test/ToyasCard.lean, 'card_holds'). Laid BY PROGRAM, IN A SANDBOX (cutbox-door.mjs). By AI agents, Wed Nov 11 2026. No macro, syntax, notation, axiom, sorry.
-/
import Derived.Test.YtghlgmbekgfmnabDoorRows
import GoSem.ClaimSeven
namespace Go.Proofs.YtghlgmbekgfmnabDoor
namespace Rows

/-- THE TIED CARD OF 'laws.FnExactSlabsText'. -/
def fnExactSlabsTextCard : Claim7 := { stood := { row := fnExactSlabsTextRow, standIns := [], harness := (true, "18bfed379d81ee1d94ccdad4e33204b5a4454a34ac024094cae1383c0dc43425"), looks := true }, kinds := [], alts := [], laidByText := true, laidKinds := [.data, .data, .data], laidTests := true, laidLooks := .later }
def FnExactSlabsTextCardSaid : Prop := Claim7.holds Tryd.pinned (.plain (OpenSpec.ofChange fnExactSlabsTextSpec)) fnExactSlabsTextCard

/-- THE TIED CARD OF 'laws.FnExactParseSlabs'. -/
def fnExactParseSlabsCard : Claim7 := { stood := { row := fnExactParseSlabsRow, standIns := [], harness := (true, "18bfed379d81ee1d94ccdad4e33204b5a4454a34ac024094cae1383c0dc43425"), looks := true }, kinds := [], alts := [], laidByText := true, laidKinds := [.data, .data, .data, .data, .sentinel, .sentinel, .pinned], laidTests := true, laidLooks := .later }
def FnExactParseSlabsCardSaid : Prop := Claim7.holds Tryd.pinned (.plain (OpenSpec.ofChange fnExactParseSlabsSpec)) fnExactParseSlabsCard

/-- THE TIED CARD OF 'laws.FnExactPuzzleText'. -/
def fnExactPuzzleTextCard : Claim7 := { stood := { row := fnExactPuzzleTextRow, standIns := [], harness := (true, "18bfed379d81ee1d94ccdad4e33204b5a4454a34ac024094cae1383c0dc43425"), looks := true }, kinds := [], alts := [], laidByText := true, laidKinds := [.data, .data, .data], laidTests := true, laidLooks := .later }
def FnExactPuzzleTextCardSaid : Prop := Claim7.holds Tryd.pinned (.plain (OpenSpec.ofChange fnExactPuzzleTextSpec)) fnExactPuzzleTextCard

/-- THE TIED CARD OF 'laws.FnExactParsePuzzle'. -/
def fnExactParsePuzzleCard : Claim7 := { stood := { row := fnExactParsePuzzleRow, standIns := [], harness := (true, "18bfed379d81ee1d94ccdad4e33204b5a4454a34ac024094cae1383c0dc43425"), looks := true }, kinds := [], alts := [], laidByText := true, laidKinds := [.data, .data, .data, .data, .sentinel, .sentinel, .pinned], laidTests := true, laidLooks := .later }
def FnExactParsePuzzleCardSaid : Prop := Claim7.holds Tryd.pinned (.plain (OpenSpec.ofChange fnExactParsePuzzleSpec)) fnExactParsePuzzleCard

/-- THE SECOND FORM's CARD OF 'laws.FnExactSlabsText'. -/
def fnExactSlabsTextUptoCard : Claim7 := { stood := { row := fnExactSlabsTextUptoRow, standIns := [], harness := (true, "18bfed379d81ee1d94ccdad4e33204b5a4454a34ac024094cae1383c0dc43425"), looks := true }, kinds := [], alts := [], laidByText := true, laidKinds := [.data, .data, .data], laidTests := true, laidLooks := .later }
def FnExactSlabsTextUptoCardSaid : Prop := Claim7.holds Tryd.pinned (.plain (OpenSpec.upto fnExactSlabsTextSpec)) fnExactSlabsTextUptoCard

/-- THE SECOND FORM's CARD OF 'laws.FnExactParseSlabs'. -/
def fnExactParseSlabsUptoCard : Claim7 := { stood := { row := fnExactParseSlabsUptoRow, standIns := [], harness := (true, "18bfed379d81ee1d94ccdad4e33204b5a4454a34ac024094cae1383c0dc43425"), looks := true }, kinds := [], alts := [], laidByText := true, laidKinds := [.data, .data, .data, .data, .sentinel, .sentinel, .pinned], laidTests := true, laidLooks := .later }
def FnExactParseSlabsUptoCardSaid : Prop := Claim7.holds Tryd.pinned (.plain (OpenSpec.upto fnExactParseSlabsSpec)) fnExactParseSlabsUptoCard

/-- THE SECOND FORM's CARD OF 'laws.FnExactPuzzleText'. -/
def fnExactPuzzleTextUptoCard : Claim7 := { stood := { row := fnExactPuzzleTextUptoRow, standIns := [], harness := (true, "18bfed379d81ee1d94ccdad4e33204b5a4454a34ac024094cae1383c0dc43425"), looks := true }, kinds := [], alts := [], laidByText := true, laidKinds := [.data, .data, .data], laidTests := true, laidLooks := .later }
def FnExactPuzzleTextUptoCardSaid : Prop := Claim7.holds Tryd.pinned (.plain (OpenSpec.upto fnExactPuzzleTextSpec)) fnExactPuzzleTextUptoCard

/-- THE SECOND FORM's CARD OF 'laws.FnExactParsePuzzle'. -/
def fnExactParsePuzzleUptoCard : Claim7 := { stood := { row := fnExactParsePuzzleUptoRow, standIns := [], harness := (true, "18bfed379d81ee1d94ccdad4e33204b5a4454a34ac024094cae1383c0dc43425"), looks := true }, kinds := [], alts := [], laidByText := true, laidKinds := [.data, .data, .data, .data, .sentinel, .sentinel, .pinned], laidTests := true, laidLooks := .later }
def FnExactParsePuzzleUptoCardSaid : Prop := Claim7.holds Tryd.pinned (.plain (OpenSpec.upto fnExactParsePuzzleSpec)) fnExactParsePuzzleUptoCard
end Rows
end Go.Proofs.YtghlgmbekgfmnabDoor
