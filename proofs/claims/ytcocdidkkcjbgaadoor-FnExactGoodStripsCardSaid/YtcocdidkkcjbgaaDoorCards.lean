/-
  DERIVED. GIVEN WITH THE SEED: THE CARDS: each row of YtcocdidkkcjbgaaDoorRows.lean that lists a variable, with what it lists TIED to the program's text (the seventh form; the later family's looks); each row that meets fmt, with fmt's text TOLD by the authors' own Lean function (tested against real Go, not proved from fmt's source: count such statements apart). THE CARD IS WHAT COUNTS. Prove the row's statement (the work); the ties are given (YtcocdidkkcjbgaaDoorTie.lean); close each card by the builder's one call (the guide's Derived/Test/ToyasCard.lean, 'card_holds'). Laid BY PROGRAM, IN A SANDBOX (cutbox-door.mjs). By AI agents, Wed Nov 11 2026. No macro, syntax, notation, axiom, sorry.
-/
import Derived.Test.YtcocdidkkcjbgaaDoorRows
import GoSem.ClaimSeven
namespace Go.Proofs.YtcocdidkkcjbgaaDoor
namespace Rows

/-- THE TIED CARD OF 'laws.FnExactParseBar'. -/
def fnExactParseBarCard : Claim7 := { stood := { row := fnExactParseBarRow, standIns := [], harness := (true, "8763b2fe60e89338b6e56fb427e0977fda09e0ac6dff10337bec613ded2e5776"), looks := true }, kinds := [], alts := [], laidByText := true, laidKinds := [.data, .data, .data, .sentinel, .sentinel], laidTests := true, laidLooks := .later }
def FnExactParseBarCardSaid : Prop := Claim7.holds Tryd.pinned (.plain (OpenSpec.ofChange fnExactParseBarSpec)) fnExactParseBarCard

/-- THE TIED CARD OF 'laws.FnExactParseNuts'. -/
def fnExactParseNutsCard : Claim7 := { stood := { row := fnExactParseNutsRow, standIns := [], harness := (true, "8763b2fe60e89338b6e56fb427e0977fda09e0ac6dff10337bec613ded2e5776"), looks := true }, kinds := [], alts := [], laidByText := true, laidKinds := [.data, .pinned], laidTests := true, laidLooks := .later }
def FnExactParseNutsCardSaid : Prop := Claim7.holds Tryd.pinned (.plain (OpenSpec.ofChange fnExactParseNutsSpec)) fnExactParseNutsCard

/-- THE TIED CARD OF 'laws.FnExactGoodStrips'. -/
def fnExactGoodStripsCard : Claim7 := { stood := { row := fnExactGoodStripsRow, standIns := [], harness := (true, "8763b2fe60e89338b6e56fb427e0977fda09e0ac6dff10337bec613ded2e5776"), looks := true }, kinds := [], alts := [], laidByText := true, laidKinds := [.handle, .sentinel], laidTests := true, laidLooks := .later }
def FnExactGoodStripsCardSaid : Prop := Claim7.holds Tryd.pinned (.plain (OpenSpec.ofChange fnExactGoodStripsSpec)) fnExactGoodStripsCard

/-- THE SECOND FORM's CARD OF 'laws.FnExactParseBar'. -/
def fnExactParseBarUptoCard : Claim7 := { stood := { row := fnExactParseBarUptoRow, standIns := [], harness := (true, "8763b2fe60e89338b6e56fb427e0977fda09e0ac6dff10337bec613ded2e5776"), looks := true }, kinds := [], alts := [], laidByText := true, laidKinds := [.data, .data, .data, .sentinel, .sentinel], laidTests := true, laidLooks := .later }
def FnExactParseBarUptoCardSaid : Prop := Claim7.holds Tryd.pinned (.plain (OpenSpec.upto fnExactParseBarSpec)) fnExactParseBarUptoCard

/-- THE SECOND FORM's CARD OF 'laws.FnExactParseNuts'. -/
def fnExactParseNutsUptoCard : Claim7 := { stood := { row := fnExactParseNutsUptoRow, standIns := [], harness := (true, "8763b2fe60e89338b6e56fb427e0977fda09e0ac6dff10337bec613ded2e5776"), looks := true }, kinds := [], alts := [], laidByText := true, laidKinds := [.data, .pinned], laidTests := true, laidLooks := .later }
def FnExactParseNutsUptoCardSaid : Prop := Claim7.holds Tryd.pinned (.plain (OpenSpec.upto fnExactParseNutsSpec)) fnExactParseNutsUptoCard

/-- THE SECOND FORM's CARD OF 'laws.FnExactGoodStrips'. -/
def fnExactGoodStripsUptoCard : Claim7 := { stood := { row := fnExactGoodStripsUptoRow, standIns := [], harness := (true, "8763b2fe60e89338b6e56fb427e0977fda09e0ac6dff10337bec613ded2e5776"), looks := true }, kinds := [], alts := [], laidByText := true, laidKinds := [.handle, .sentinel], laidTests := true, laidLooks := .later }
def FnExactGoodStripsUptoCardSaid : Prop := Claim7.holds Tryd.pinned (.plain (OpenSpec.upto fnExactGoodStripsSpec)) fnExactGoodStripsUptoCard
end Rows
end Go.Proofs.YtcocdidkkcjbgaaDoor
