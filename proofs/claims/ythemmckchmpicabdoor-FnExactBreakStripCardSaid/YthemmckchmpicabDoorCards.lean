/-
  DERIVED. GIVEN WITH THE SEED: THE CARDS: each row of YthemmckchmpicabDoorRows.lean that lists a variable, with what it lists TIED to the program's text (the seventh form; the later family's looks); each row that meets fmt, with fmt's text TOLD by the authors' own Lean function (tested against real Go, not proved from fmt's source: count such statements apart). THE CARD IS WHAT COUNTS. Prove the row's statement (the work); the ties are given (YthemmckchmpicabDoorTie.lean); close each card by the builder's one call (the guide's Derived/Test/ToyasCard.lean, 'card_holds'). Laid BY PROGRAM, IN A SANDBOX (cutbox-door.mjs). By AI agents, Wed Nov 11 2026. No macro, syntax, notation, axiom, sorry.
-/
import Derived.Test.YthemmckchmpicabDoorRows
import GoSem.ClaimSeven
namespace Go.Proofs.YthemmckchmpicabDoor
namespace Rows

/-- THE TIED CARD OF 'laws.FnExactWinsStrips'. -/
def fnExactWinsStripsCard : Claim7 := { stood := { row := fnExactWinsStripsRow, standIns := [], harness := (true, "38842fd35e741de33539ab02ce5b83613bbb74f70c7f62d7570e038ad61d1b3a"), looks := true }, kinds := [], alts := [], laidByText := true, laidKinds := [.handle, .sentinel], laidTests := true, laidLooks := .later }
def FnExactWinsStripsCardSaid : Prop := Claim7.holds Tryd.pinned (.plain (OpenSpec.ofChange fnExactWinsStripsSpec)) fnExactWinsStripsCard

/-- THE TIED CARD OF 'laws.FnExactGoodStrips'. -/
def fnExactGoodStripsCard : Claim7 := { stood := { row := fnExactGoodStripsRow, standIns := [], harness := (true, "38842fd35e741de33539ab02ce5b83613bbb74f70c7f62d7570e038ad61d1b3a"), looks := true }, kinds := [], alts := [], laidByText := true, laidKinds := [.handle, .sentinel], laidTests := true, laidLooks := .later }
def FnExactGoodStripsCardSaid : Prop := Claim7.holds Tryd.pinned (.plain (OpenSpec.ofChange fnExactGoodStripsSpec)) fnExactGoodStripsCard

/-- THE TIED CARD OF 'laws.FnExactLongestStripPlay'. -/
def fnExactLongestStripPlayCard : Claim7 := { stood := { row := fnExactLongestStripPlayRow, standIns := [], harness := (true, "38842fd35e741de33539ab02ce5b83613bbb74f70c7f62d7570e038ad61d1b3a"), looks := true }, kinds := [], alts := [], laidByText := true, laidKinds := [.handle, .sentinel], laidTests := true, laidLooks := .later }
def FnExactLongestStripPlayCardSaid : Prop := Claim7.holds Tryd.pinned (.plain (OpenSpec.ofChange fnExactLongestStripPlaySpec)) fnExactLongestStripPlayCard

/-- THE TIED CARD OF 'laws.FnExactShortestStripPlay'. -/
def fnExactShortestStripPlayCard : Claim7 := { stood := { row := fnExactShortestStripPlayRow, standIns := [], harness := (true, "38842fd35e741de33539ab02ce5b83613bbb74f70c7f62d7570e038ad61d1b3a"), looks := true }, kinds := [], alts := [], laidByText := true, laidKinds := [.handle, .sentinel], laidTests := true, laidLooks := .later }
def FnExactShortestStripPlayCardSaid : Prop := Claim7.holds Tryd.pinned (.plain (OpenSpec.ofChange fnExactShortestStripPlaySpec)) fnExactShortestStripPlayCard

/-- THE TIED CARD OF 'laws.FnExactBreakStrip'. -/
def fnExactBreakStripCard : Claim7 := { stood := { row := fnExactBreakStripRow, standIns := [], harness := (true, "38842fd35e741de33539ab02ce5b83613bbb74f70c7f62d7570e038ad61d1b3a"), looks := true }, kinds := [], alts := [], laidByText := true, laidKinds := [.sentinel, .sentinel, .sentinel], laidTests := true, laidLooks := .later }
def FnExactBreakStripCardSaid : Prop := Claim7.holds Tryd.pinned (.plain (OpenSpec.ofChange fnExactBreakStripSpec)) fnExactBreakStripCard

/-- THE SECOND FORM's CARD OF 'laws.FnExactWinsStrips'. -/
def fnExactWinsStripsUptoCard : Claim7 := { stood := { row := fnExactWinsStripsUptoRow, standIns := [], harness := (true, "38842fd35e741de33539ab02ce5b83613bbb74f70c7f62d7570e038ad61d1b3a"), looks := true }, kinds := [], alts := [], laidByText := true, laidKinds := [.handle, .sentinel], laidTests := true, laidLooks := .later }
def FnExactWinsStripsUptoCardSaid : Prop := Claim7.holds Tryd.pinned (.plain (OpenSpec.upto fnExactWinsStripsSpec)) fnExactWinsStripsUptoCard

/-- THE SECOND FORM's CARD OF 'laws.FnExactGoodStrips'. -/
def fnExactGoodStripsUptoCard : Claim7 := { stood := { row := fnExactGoodStripsUptoRow, standIns := [], harness := (true, "38842fd35e741de33539ab02ce5b83613bbb74f70c7f62d7570e038ad61d1b3a"), looks := true }, kinds := [], alts := [], laidByText := true, laidKinds := [.handle, .sentinel], laidTests := true, laidLooks := .later }
def FnExactGoodStripsUptoCardSaid : Prop := Claim7.holds Tryd.pinned (.plain (OpenSpec.upto fnExactGoodStripsSpec)) fnExactGoodStripsUptoCard

/-- THE SECOND FORM's CARD OF 'laws.FnExactLongestStripPlay'. -/
def fnExactLongestStripPlayUptoCard : Claim7 := { stood := { row := fnExactLongestStripPlayUptoRow, standIns := [], harness := (true, "38842fd35e741de33539ab02ce5b83613bbb74f70c7f62d7570e038ad61d1b3a"), looks := true }, kinds := [], alts := [], laidByText := true, laidKinds := [.handle, .sentinel], laidTests := true, laidLooks := .later }
def FnExactLongestStripPlayUptoCardSaid : Prop := Claim7.holds Tryd.pinned (.plain (OpenSpec.upto fnExactLongestStripPlaySpec)) fnExactLongestStripPlayUptoCard

/-- THE SECOND FORM's CARD OF 'laws.FnExactShortestStripPlay'. -/
def fnExactShortestStripPlayUptoCard : Claim7 := { stood := { row := fnExactShortestStripPlayUptoRow, standIns := [], harness := (true, "38842fd35e741de33539ab02ce5b83613bbb74f70c7f62d7570e038ad61d1b3a"), looks := true }, kinds := [], alts := [], laidByText := true, laidKinds := [.handle, .sentinel], laidTests := true, laidLooks := .later }
def FnExactShortestStripPlayUptoCardSaid : Prop := Claim7.holds Tryd.pinned (.plain (OpenSpec.upto fnExactShortestStripPlaySpec)) fnExactShortestStripPlayUptoCard

/-- THE SECOND FORM's CARD OF 'laws.FnExactBreakStrip'. -/
def fnExactBreakStripUptoCard : Claim7 := { stood := { row := fnExactBreakStripUptoRow, standIns := [], harness := (true, "38842fd35e741de33539ab02ce5b83613bbb74f70c7f62d7570e038ad61d1b3a"), looks := true }, kinds := [], alts := [], laidByText := true, laidKinds := [.sentinel, .sentinel, .sentinel], laidTests := true, laidLooks := .later }
def FnExactBreakStripUptoCardSaid : Prop := Claim7.holds Tryd.pinned (.plain (OpenSpec.upto fnExactBreakStripSpec)) fnExactBreakStripUptoCard
end Rows
end Go.Proofs.YthemmckchmpicabDoor
