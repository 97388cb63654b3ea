/-
  DERIVED. GIVEN WITH THE SEED: THE CARDS: each row of YtieiakljholkaabDoorRows.lean that lists a variable, with what it lists TIED to the program's text (the seventh form; the later family's looks); each row that meets fmt, with fmt's text TOLD by the authors' own Lean function (tested against real Go, not proved from fmt's source: count such statements apart). THE CARD IS WHAT COUNTS. Prove the row's statement (the work); the ties are given (YtieiakljholkaabDoorTie.lean); close each card by the builder's one call (the guide's Derived/Test/ToyasCard.lean, 'card_holds'). Laid BY PROGRAM, IN A SANDBOX (cutbox-door.mjs). By AI agents, Wed Nov 11 2026. No macro, syntax, notation, axiom, sorry.
-/
import Derived.Test.YtieiakljholkaabDoorRows
import GoSem.ClaimSeven
namespace Go.Proofs.YtieiakljholkaabDoor
namespace Rows

/-- THE TIED CARD OF 'laws.FnExactMostPiecesWhile'. -/
def fnExactMostPiecesWhileCard : Claim7 := { stood := { row := fnExactMostPiecesWhileRow, standIns := [], harness := (true, "c4c853088a19ec7667d67a9d337deb240c6a750b8d6f02c9b7995d975dd8a60f"), looks := false }, kinds := [], alts := [], goes := true, laidByText := true, laidKinds := [.data, .pinned], laidTests := true, laidLooks := .later }
def FnExactMostPiecesWhileCardSaid : Prop := Claim7.holds Tryd.pinned (.plain (OpenSpec.ofChange fnExactMostPiecesWhileSpec)) fnExactMostPiecesWhileCard

/-- THE TIED CARD OF 'laws.FnExactSunHour'. -/
def fnExactSunHourCard : Claim7 := { stood := { row := fnExactSunHourRow, standIns := [], harness := (true, "c4c853088a19ec7667d67a9d337deb240c6a750b8d6f02c9b7995d975dd8a60f"), looks := false }, kinds := [], alts := [], laidByText := true, laidKinds := [.data, .pinned], laidTests := true, laidLooks := .later }
def FnExactSunHourCardSaid : Prop := Claim7.holds Tryd.pinned (.plain (OpenSpec.ofChange fnExactSunHourSpec)) fnExactSunHourCard

/-- THE TIED CARD OF 'laws.FnExactHoursBySun'. -/
def fnExactHoursBySunCard : Claim7 := { stood := { row := fnExactHoursBySunRow, standIns := [], harness := (true, "c4c853088a19ec7667d67a9d337deb240c6a750b8d6f02c9b7995d975dd8a60f"), looks := false }, kinds := [], alts := [], laidByText := true, laidKinds := [.data, .pinned], laidTests := true, laidLooks := .later }
def FnExactHoursBySunCardSaid : Prop := Claim7.holds Tryd.pinned (.plain (OpenSpec.ofChange fnExactHoursBySunSpec)) fnExactHoursBySunCard

/-- THE TIED CARD OF 'laws.FnExactBiteSquare'. -/
def fnExactBiteSquareCard : Claim7 := { stood := { row := fnExactBiteSquareRow, standIns := [], harness := (true, "c4c853088a19ec7667d67a9d337deb240c6a750b8d6f02c9b7995d975dd8a60f"), looks := false }, kinds := [], alts := [], laidByText := true, laidKinds := [.data, .pinned], laidTests := true, laidLooks := .later }
def FnExactBiteSquareCardSaid : Prop := Claim7.holds Tryd.pinned (.plain (OpenSpec.ofChange fnExactBiteSquareSpec)) fnExactBiteSquareCard

/-- THE TIED CARD OF 'laws.FnExactCoolestBite'. -/
def fnExactCoolestBiteCard : Claim7 := { stood := { row := fnExactCoolestBiteRow, standIns := [], harness := (true, "c4c853088a19ec7667d67a9d337deb240c6a750b8d6f02c9b7995d975dd8a60f"), looks := false }, kinds := [], alts := [], goes := true, laidByText := true, laidKinds := [.data, .pinned], laidTests := true, laidLooks := .later }
def FnExactCoolestBiteCardSaid : Prop := Claim7.holds Tryd.pinned (.plain (OpenSpec.ofChange fnExactCoolestBiteSpec)) fnExactCoolestBiteCard

/-- THE TIED CARD OF 'laws.FnExactTurnTablet'. -/
def fnExactTurnTabletCard : Claim7 := { stood := { row := fnExactTurnTabletRow, standIns := [], harness := (true, "c4c853088a19ec7667d67a9d337deb240c6a750b8d6f02c9b7995d975dd8a60f"), looks := false }, kinds := [], alts := [], laidByText := true, laidKinds := [.data, .pinned], laidTests := true, laidLooks := .later }
def FnExactTurnTabletCardSaid : Prop := Claim7.holds Tryd.pinned (.plain (OpenSpec.ofChange fnExactTurnTabletSpec)) fnExactTurnTabletCard

/-- THE TIED CARD OF 'laws.FnExactTabletText'. -/
def fnExactTabletTextCard : Claim7 := { stood := { row := fnExactTabletTextRow, standIns := [], harness := (true, "c4c853088a19ec7667d67a9d337deb240c6a750b8d6f02c9b7995d975dd8a60f"), looks := false }, kinds := [], alts := [], laidByText := true, laidKinds := [.data, .pinned], laidTests := true, laidLooks := .later }
def FnExactTabletTextCardSaid : Prop := Claim7.holds Tryd.pinned (.plain (OpenSpec.ofChange fnExactTabletTextSpec)) fnExactTabletTextCard

/-- THE TIED CARD OF 'laws.FnExactParseTablet'. -/
def fnExactParseTabletCard : Claim7 := { stood := { row := fnExactParseTabletRow, standIns := [], harness := (true, "c4c853088a19ec7667d67a9d337deb240c6a750b8d6f02c9b7995d975dd8a60f"), looks := false }, kinds := [], alts := [], laidByText := true, laidKinds := [.data, .pinned], laidTests := true, laidLooks := .later }
def FnExactParseTabletCardSaid : Prop := Claim7.holds Tryd.pinned (.plain (OpenSpec.ofChange fnExactParseTabletSpec)) fnExactParseTabletCard

/-- THE SECOND FORM's CARD OF 'laws.FnExactSunHour'. -/
def fnExactSunHourUptoCard : Claim7 := { stood := { row := fnExactSunHourUptoRow, standIns := [], harness := (true, "c4c853088a19ec7667d67a9d337deb240c6a750b8d6f02c9b7995d975dd8a60f"), looks := false }, kinds := [], alts := [], laidByText := true, laidKinds := [.data, .pinned], laidTests := true, laidLooks := .later }
def FnExactSunHourUptoCardSaid : Prop := Claim7.holds Tryd.pinned (.plain (OpenSpec.upto fnExactSunHourSpec)) fnExactSunHourUptoCard

/-- THE SECOND FORM's CARD OF 'laws.FnExactHoursBySun'. -/
def fnExactHoursBySunUptoCard : Claim7 := { stood := { row := fnExactHoursBySunUptoRow, standIns := [], harness := (true, "c4c853088a19ec7667d67a9d337deb240c6a750b8d6f02c9b7995d975dd8a60f"), looks := false }, kinds := [], alts := [], laidByText := true, laidKinds := [.data, .pinned], laidTests := true, laidLooks := .later }
def FnExactHoursBySunUptoCardSaid : Prop := Claim7.holds Tryd.pinned (.plain (OpenSpec.upto fnExactHoursBySunSpec)) fnExactHoursBySunUptoCard

/-- THE SECOND FORM's CARD OF 'laws.FnExactBiteSquare'. -/
def fnExactBiteSquareUptoCard : Claim7 := { stood := { row := fnExactBiteSquareUptoRow, standIns := [], harness := (true, "c4c853088a19ec7667d67a9d337deb240c6a750b8d6f02c9b7995d975dd8a60f"), looks := false }, kinds := [], alts := [], laidByText := true, laidKinds := [.data, .pinned], laidTests := true, laidLooks := .later }
def FnExactBiteSquareUptoCardSaid : Prop := Claim7.holds Tryd.pinned (.plain (OpenSpec.upto fnExactBiteSquareSpec)) fnExactBiteSquareUptoCard

/-- THE SECOND FORM's CARD OF 'laws.FnExactTurnTablet'. -/
def fnExactTurnTabletUptoCard : Claim7 := { stood := { row := fnExactTurnTabletUptoRow, standIns := [], harness := (true, "c4c853088a19ec7667d67a9d337deb240c6a750b8d6f02c9b7995d975dd8a60f"), looks := false }, kinds := [], alts := [], laidByText := true, laidKinds := [.data, .pinned], laidTests := true, laidLooks := .later }
def FnExactTurnTabletUptoCardSaid : Prop := Claim7.holds Tryd.pinned (.plain (OpenSpec.upto fnExactTurnTabletSpec)) fnExactTurnTabletUptoCard

/-- THE SECOND FORM's CARD OF 'laws.FnExactTabletText'. -/
def fnExactTabletTextUptoCard : Claim7 := { stood := { row := fnExactTabletTextUptoRow, standIns := [], harness := (true, "c4c853088a19ec7667d67a9d337deb240c6a750b8d6f02c9b7995d975dd8a60f"), looks := false }, kinds := [], alts := [], laidByText := true, laidKinds := [.data, .pinned], laidTests := true, laidLooks := .later }
def FnExactTabletTextUptoCardSaid : Prop := Claim7.holds Tryd.pinned (.plain (OpenSpec.upto fnExactTabletTextSpec)) fnExactTabletTextUptoCard

/-- THE SECOND FORM's CARD OF 'laws.FnExactParseTablet'. -/
def fnExactParseTabletUptoCard : Claim7 := { stood := { row := fnExactParseTabletUptoRow, standIns := [], harness := (true, "c4c853088a19ec7667d67a9d337deb240c6a750b8d6f02c9b7995d975dd8a60f"), looks := false }, kinds := [], alts := [], laidByText := true, laidKinds := [.data, .pinned], laidTests := true, laidLooks := .later }
def FnExactParseTabletUptoCardSaid : Prop := Claim7.holds Tryd.pinned (.plain (OpenSpec.upto fnExactParseTabletSpec)) fnExactParseTabletUptoCard
end Rows
end Go.Proofs.YtieiakljholkaabDoor
