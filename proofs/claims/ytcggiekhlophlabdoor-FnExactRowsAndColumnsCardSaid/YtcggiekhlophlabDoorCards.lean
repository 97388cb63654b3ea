/-
  DERIVED. GIVEN WITH THE SEED: THE CARDS: each row of YtcggiekhlophlabDoorRows.lean that lists a variable, with what it lists TIED to the program's text (the seventh form; the later family's looks); each row that meets fmt, with fmt's text TOLD by the authors' own Lean function (tested against real Go, not proved from fmt's source: count such statements apart). THE CARD IS WHAT COUNTS. Prove the row's statement (the work); the ties are given (YtcggiekhlophlabDoorTie.lean); close each card by the builder's one call (the guide's Derived/Test/ToyasCard.lean, 'card_holds'). Laid BY PROGRAM, IN A SANDBOX (cutbox-door.mjs). By AI agents, Wed Nov 11 2026. No macro, syntax, notation, axiom, sorry.
-/
import Derived.Test.YtcggiekhlophlabDoorRows
import GoSem.ClaimSeven
namespace Go.Proofs.YtcggiekhlophlabDoor
namespace Rows

/-- THE TIED CARD OF 'laws.FnExactTestsOfBox'. -/
def fnExactTestsOfBoxCard : Claim7 := { stood := { row := fnExactTestsOfBoxRow, standIns := [], harness := (true, "4683d9c686a2f5ea22be4b3b40b5ebc27d89dae6d1b905fd5ccc1f2369e687d2"), looks := false }, kinds := [], alts := [], laidByText := true, laidKinds := [.data, .pinned], laidTests := true, laidLooks := .later }
def FnExactTestsOfBoxCardSaid : Prop := Claim7.holds Tryd.pinned (.plain (OpenSpec.ofChange fnExactTestsOfBoxSpec)) fnExactTestsOfBoxCard

/-- THE TIED CARD OF 'laws.FnExactBestGroupOf'. -/
def fnExactBestGroupOfCard : Claim7 := { stood := { row := fnExactBestGroupOfRow, standIns := [], harness := (true, "4683d9c686a2f5ea22be4b3b40b5ebc27d89dae6d1b905fd5ccc1f2369e687d2"), looks := false }, kinds := [], alts := [], goes := true, laidByText := true, laidKinds := [.data, .pinned], laidTests := true, laidLooks := .later }
def FnExactBestGroupOfCardSaid : Prop := Claim7.holds Tryd.pinned (.plain (OpenSpec.ofChange fnExactBestGroupOfSpec)) fnExactBestGroupOfCard

/-- THE TIED CARD OF 'laws.FnExactRowsAndColumns'. -/
def fnExactRowsAndColumnsCard : Claim7 := { stood := { row := fnExactRowsAndColumnsRow, standIns := [], harness := (true, "4683d9c686a2f5ea22be4b3b40b5ebc27d89dae6d1b905fd5ccc1f2369e687d2"), looks := false }, kinds := [], alts := [], laidByText := true, laidKinds := [.data, .pinned], laidTests := true, laidLooks := .later }
def FnExactRowsAndColumnsCardSaid : Prop := Claim7.holds Tryd.pinned (.plain (OpenSpec.ofChange fnExactRowsAndColumnsSpec)) fnExactRowsAndColumnsCard

/-- THE SECOND FORM's CARD OF 'laws.FnExactTestsOfBox'. -/
def fnExactTestsOfBoxUptoCard : Claim7 := { stood := { row := fnExactTestsOfBoxUptoRow, standIns := [], harness := (true, "4683d9c686a2f5ea22be4b3b40b5ebc27d89dae6d1b905fd5ccc1f2369e687d2"), looks := false }, kinds := [], alts := [], laidByText := true, laidKinds := [.data, .pinned], laidTests := true, laidLooks := .later }
def FnExactTestsOfBoxUptoCardSaid : Prop := Claim7.holds Tryd.pinned (.plain (OpenSpec.upto fnExactTestsOfBoxSpec)) fnExactTestsOfBoxUptoCard

/-- THE SECOND FORM's CARD OF 'laws.FnExactBestGroupOf'. -/
def fnExactBestGroupOfUptoCard : Claim7 := { stood := { row := fnExactBestGroupOfUptoRow, standIns := [], harness := (true, "4683d9c686a2f5ea22be4b3b40b5ebc27d89dae6d1b905fd5ccc1f2369e687d2"), looks := false }, kinds := [], alts := [], goes := true, laidByText := true, laidKinds := [.data, .pinned], laidTests := true, laidLooks := .later }
def FnExactBestGroupOfUptoCardSaid : Prop := Claim7.holds Tryd.pinned (.plain (OpenSpec.upto fnExactBestGroupOfSpec)) fnExactBestGroupOfUptoCard

/-- THE SECOND FORM's CARD OF 'laws.FnExactRowsAndColumns'. -/
def fnExactRowsAndColumnsUptoCard : Claim7 := { stood := { row := fnExactRowsAndColumnsUptoRow, standIns := [], harness := (true, "4683d9c686a2f5ea22be4b3b40b5ebc27d89dae6d1b905fd5ccc1f2369e687d2"), looks := false }, kinds := [], alts := [], laidByText := true, laidKinds := [.data, .pinned], laidTests := true, laidLooks := .later }
def FnExactRowsAndColumnsUptoCardSaid : Prop := Claim7.holds Tryd.pinned (.plain (OpenSpec.upto fnExactRowsAndColumnsSpec)) fnExactRowsAndColumnsUptoCard
end Rows
end Go.Proofs.YtcggiekhlophlabDoor
