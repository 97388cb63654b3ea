/-
  DERIVED. GIVEN WITH THE SEED: THE CARDS: each row of YthemmckchmpicaaDoorRows.lean that lists a variable, with what it lists TIED to the program's text (the seventh form; the later family's looks); each row that meets fmt, with fmt's text TOLD by the authors' own Lean function (tested against real Go, not proved from fmt's source: count such statements apart). THE CARD IS WHAT COUNTS. Prove the row's statement (the work); the ties are given (YthemmckchmpicaaDoorTie.lean); close each card by the builder's one call (the guide's Derived/Test/ToyasCard.lean, 'card_holds'). Laid BY PROGRAM, IN A SANDBOX (cutbox-door.mjs). By AI agents, Wed Nov 11 2026. No macro, syntax, notation, axiom, sorry.
-/
import Derived.Test.YthemmckchmpicaaDoorRows
import GoSem.ClaimSeven
namespace Go.Proofs.YthemmckchmpicaaDoor
namespace Rows

/-- THE TIED CARD OF 'laws.FnExactStripValue'. -/
def fnExactStripValueCard : Claim7 := { stood := { row := fnExactStripValueRow, standIns := [], harness := (true, "b6d3d4bc456ed955be7d4b07c25acc2e809950fd7fdf8d85e81dd873311a8f29"), looks := true }, kinds := [], alts := [], laidByText := true, laidKinds := [.handle, .sentinel], laidTests := true, laidLooks := .later }
def FnExactStripValueCardSaid : Prop := Claim7.holds Tryd.pinned (.plain (OpenSpec.ofChange fnExactStripValueSpec)) fnExactStripValueCard

/-- THE TIED CARD OF 'laws.FnExactStripMoves'. -/
def fnExactStripMovesCard : Claim7 := { stood := { row := fnExactStripMovesRow, standIns := [], harness := (true, "b6d3d4bc456ed955be7d4b07c25acc2e809950fd7fdf8d85e81dd873311a8f29"), looks := true }, kinds := [], alts := [], laidByText := true, laidKinds := [.handle, .sentinel], laidTests := true, laidLooks := .later }
def FnExactStripMovesCardSaid : Prop := Claim7.holds Tryd.pinned (.plain (OpenSpec.ofChange fnExactStripMovesSpec)) fnExactStripMovesCard

/-- THE TIED CARD OF 'laws.FnExactLostStrips'. -/
def fnExactLostStripsCard : Claim7 := { stood := { row := fnExactLostStripsRow, standIns := [], harness := (true, "b6d3d4bc456ed955be7d4b07c25acc2e809950fd7fdf8d85e81dd873311a8f29"), looks := true }, kinds := [], alts := [], laidByText := true, laidKinds := [.handle, .sentinel], laidTests := true, laidLooks := .later }
def FnExactLostStripsCardSaid : Prop := Claim7.holds Tryd.pinned (.plain (OpenSpec.ofChange fnExactLostStripsSpec)) fnExactLostStripsCard

/-- THE SECOND FORM's CARD OF 'laws.FnExactStripValue'. -/
def fnExactStripValueUptoCard : Claim7 := { stood := { row := fnExactStripValueUptoRow, standIns := [], harness := (true, "b6d3d4bc456ed955be7d4b07c25acc2e809950fd7fdf8d85e81dd873311a8f29"), looks := true }, kinds := [], alts := [], laidByText := true, laidKinds := [.handle, .sentinel], laidTests := true, laidLooks := .later }
def FnExactStripValueUptoCardSaid : Prop := Claim7.holds Tryd.pinned (.plain (OpenSpec.upto fnExactStripValueSpec)) fnExactStripValueUptoCard

/-- THE SECOND FORM's CARD OF 'laws.FnExactStripMoves'. -/
def fnExactStripMovesUptoCard : Claim7 := { stood := { row := fnExactStripMovesUptoRow, standIns := [], harness := (true, "b6d3d4bc456ed955be7d4b07c25acc2e809950fd7fdf8d85e81dd873311a8f29"), looks := true }, kinds := [], alts := [], laidByText := true, laidKinds := [.handle, .sentinel], laidTests := true, laidLooks := .later }
def FnExactStripMovesUptoCardSaid : Prop := Claim7.holds Tryd.pinned (.plain (OpenSpec.upto fnExactStripMovesSpec)) fnExactStripMovesUptoCard

/-- THE SECOND FORM's CARD OF 'laws.FnExactLostStrips'. -/
def fnExactLostStripsUptoCard : Claim7 := { stood := { row := fnExactLostStripsUptoRow, standIns := [], harness := (true, "b6d3d4bc456ed955be7d4b07c25acc2e809950fd7fdf8d85e81dd873311a8f29"), looks := true }, kinds := [], alts := [], laidByText := true, laidKinds := [.handle, .sentinel], laidTests := true, laidLooks := .later }
def FnExactLostStripsUptoCardSaid : Prop := Claim7.holds Tryd.pinned (.plain (OpenSpec.upto fnExactLostStripsSpec)) fnExactLostStripsUptoCard
end Rows
end Go.Proofs.YthemmckchmpicaaDoor
