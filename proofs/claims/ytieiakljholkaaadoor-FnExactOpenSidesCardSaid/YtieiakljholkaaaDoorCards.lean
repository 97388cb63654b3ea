/-
  DERIVED. GIVEN WITH THE SEED: THE CARDS: each row of YtieiakljholkaaaDoorRows.lean that lists a variable, with what it lists TIED to the program's text (the seventh form; the later family's looks); each row that meets fmt, with fmt's text TOLD by the authors' own Lean function (tested against real Go, not proved from fmt's source: count such statements apart). THE CARD IS WHAT COUNTS. Prove the row's statement (the work); the ties are given (YtieiakljholkaaaDoorTie.lean); close each card by the builder's one call (the guide's Derived/Test/ToyasCard.lean, 'card_holds'). Laid BY PROGRAM, IN A SANDBOX (cutbox-door.mjs). By AI agents, Wed Nov 11 2026. No macro, syntax, notation, axiom, sorry.
-/
import Derived.Test.YtieiakljholkaaaDoorRows
import GoSem.ClaimSeven
namespace Go.Proofs.YtieiakljholkaaaDoor
namespace Rows

/-- THE TIED CARD OF 'laws.FnExactIsTablet'. -/
def fnExactIsTabletCard : Claim7 := { stood := { row := fnExactIsTabletRow, standIns := [], harness := (true, "47dbb7776c4efaf219f06c11f3f1cb3520f182104a2efad37e5d0489c8a99c2f"), looks := false }, kinds := [], alts := [], laidByText := true, laidKinds := [.data, .pinned], laidTests := true, laidLooks := .later }
def FnExactIsTabletCardSaid : Prop := Claim7.holds Tryd.pinned (.plain (OpenSpec.ofChange fnExactIsTabletSpec)) fnExactIsTabletCard

/-- THE TIED CARD OF 'laws.FnExactLeftOnTablet'. -/
def fnExactLeftOnTabletCard : Claim7 := { stood := { row := fnExactLeftOnTabletRow, standIns := [], harness := (true, "47dbb7776c4efaf219f06c11f3f1cb3520f182104a2efad37e5d0489c8a99c2f"), looks := false }, kinds := [], alts := [], laidByText := true, laidKinds := [.data, .pinned], laidTests := true, laidLooks := .later }
def FnExactLeftOnTabletCardSaid : Prop := Claim7.holds Tryd.pinned (.plain (OpenSpec.ofChange fnExactLeftOnTabletSpec)) fnExactLeftOnTabletCard

/-- THE TIED CARD OF 'laws.FnExactOpenSides'. -/
def fnExactOpenSidesCard : Claim7 := { stood := { row := fnExactOpenSidesRow, standIns := [], harness := (true, "47dbb7776c4efaf219f06c11f3f1cb3520f182104a2efad37e5d0489c8a99c2f"), looks := false }, kinds := [], alts := [], laidByText := true, laidKinds := [.data, .pinned], laidTests := true, laidLooks := .later }
def FnExactOpenSidesCardSaid : Prop := Claim7.holds Tryd.pinned (.plain (OpenSpec.ofChange fnExactOpenSidesSpec)) fnExactOpenSidesCard

/-- THE TIED CARD OF 'laws.FnExactMeltHour'. -/
def fnExactMeltHourCard : Claim7 := { stood := { row := fnExactMeltHourRow, standIns := [], harness := (true, "47dbb7776c4efaf219f06c11f3f1cb3520f182104a2efad37e5d0489c8a99c2f"), looks := false }, kinds := [], alts := [], goes := true, laidByText := true, laidKinds := [.data, .pinned], laidTests := true, laidLooks := .later }
def FnExactMeltHourCardSaid : Prop := Claim7.holds Tryd.pinned (.plain (OpenSpec.ofChange fnExactMeltHourSpec)) fnExactMeltHourCard

/-- THE TIED CARD OF 'laws.FnExactTabletAfter'. -/
def fnExactTabletAfterCard : Claim7 := { stood := { row := fnExactTabletAfterRow, standIns := [], harness := (true, "47dbb7776c4efaf219f06c11f3f1cb3520f182104a2efad37e5d0489c8a99c2f"), looks := false }, kinds := [], alts := [], goes := true, laidByText := true, laidKinds := [.data, .pinned], laidTests := true, laidLooks := .later }
def FnExactTabletAfterCardSaid : Prop := Claim7.holds Tryd.pinned (.plain (OpenSpec.ofChange fnExactTabletAfterSpec)) fnExactTabletAfterCard

/-- THE TIED CARD OF 'laws.FnExactHoursToMelt'. -/
def fnExactHoursToMeltCard : Claim7 := { stood := { row := fnExactHoursToMeltRow, standIns := [], harness := (true, "47dbb7776c4efaf219f06c11f3f1cb3520f182104a2efad37e5d0489c8a99c2f"), looks := false }, kinds := [], alts := [], goes := true, laidByText := true, laidKinds := [.data, .pinned], laidTests := true, laidLooks := .later }
def FnExactHoursToMeltCardSaid : Prop := Claim7.holds Tryd.pinned (.plain (OpenSpec.ofChange fnExactHoursToMeltSpec)) fnExactHoursToMeltCard

/-- THE TIED CARD OF 'laws.FnExactEverLeft'. -/
def fnExactEverLeftCard : Claim7 := { stood := { row := fnExactEverLeftRow, standIns := [], harness := (true, "47dbb7776c4efaf219f06c11f3f1cb3520f182104a2efad37e5d0489c8a99c2f"), looks := false }, kinds := [], alts := [], goes := true, laidByText := true, laidKinds := [.data, .pinned], laidTests := true, laidLooks := .later }
def FnExactEverLeftCardSaid : Prop := Claim7.holds Tryd.pinned (.plain (OpenSpec.ofChange fnExactEverLeftSpec)) fnExactEverLeftCard

/-- THE TIED CARD OF 'laws.FnExactMeltsAt'. -/
def fnExactMeltsAtCard : Claim7 := { stood := { row := fnExactMeltsAtRow, standIns := [], harness := (true, "47dbb7776c4efaf219f06c11f3f1cb3520f182104a2efad37e5d0489c8a99c2f"), looks := false }, kinds := [], alts := [], goes := true, laidByText := true, laidKinds := [.data, .pinned], laidTests := true, laidLooks := .later }
def FnExactMeltsAtCardSaid : Prop := Claim7.holds Tryd.pinned (.plain (OpenSpec.ofChange fnExactMeltsAtSpec)) fnExactMeltsAtCard

/-- THE TIED CARD OF 'laws.FnExactMeltedEach'. -/
def fnExactMeltedEachCard : Claim7 := { stood := { row := fnExactMeltedEachRow, standIns := [], harness := (true, "47dbb7776c4efaf219f06c11f3f1cb3520f182104a2efad37e5d0489c8a99c2f"), looks := false }, kinds := [], alts := [], goes := true, laidByText := true, laidKinds := [.data, .pinned], laidTests := true, laidLooks := .later }
def FnExactMeltedEachCardSaid : Prop := Claim7.holds Tryd.pinned (.plain (OpenSpec.ofChange fnExactMeltedEachSpec)) fnExactMeltedEachCard

/-- THE TIED CARD OF 'laws.FnExactPiecesOfTablet'. -/
def fnExactPiecesOfTabletCard : Claim7 := { stood := { row := fnExactPiecesOfTabletRow, standIns := [], harness := (true, "47dbb7776c4efaf219f06c11f3f1cb3520f182104a2efad37e5d0489c8a99c2f"), looks := false }, kinds := [], alts := [], laidByText := true, laidKinds := [.data, .pinned], laidTests := true, laidLooks := .later }
def FnExactPiecesOfTabletCardSaid : Prop := Claim7.holds Tryd.pinned (.plain (OpenSpec.ofChange fnExactPiecesOfTabletSpec)) fnExactPiecesOfTabletCard

/-- THE SECOND FORM's CARD OF 'laws.FnExactIsTablet'. -/
def fnExactIsTabletUptoCard : Claim7 := { stood := { row := fnExactIsTabletUptoRow, standIns := [], harness := (true, "47dbb7776c4efaf219f06c11f3f1cb3520f182104a2efad37e5d0489c8a99c2f"), looks := false }, kinds := [], alts := [], laidByText := true, laidKinds := [.data, .pinned], laidTests := true, laidLooks := .later }
def FnExactIsTabletUptoCardSaid : Prop := Claim7.holds Tryd.pinned (.plain (OpenSpec.upto fnExactIsTabletSpec)) fnExactIsTabletUptoCard

/-- THE SECOND FORM's CARD OF 'laws.FnExactLeftOnTablet'. -/
def fnExactLeftOnTabletUptoCard : Claim7 := { stood := { row := fnExactLeftOnTabletUptoRow, standIns := [], harness := (true, "47dbb7776c4efaf219f06c11f3f1cb3520f182104a2efad37e5d0489c8a99c2f"), looks := false }, kinds := [], alts := [], laidByText := true, laidKinds := [.data, .pinned], laidTests := true, laidLooks := .later }
def FnExactLeftOnTabletUptoCardSaid : Prop := Claim7.holds Tryd.pinned (.plain (OpenSpec.upto fnExactLeftOnTabletSpec)) fnExactLeftOnTabletUptoCard

/-- THE SECOND FORM's CARD OF 'laws.FnExactOpenSides'. -/
def fnExactOpenSidesUptoCard : Claim7 := { stood := { row := fnExactOpenSidesUptoRow, standIns := [], harness := (true, "47dbb7776c4efaf219f06c11f3f1cb3520f182104a2efad37e5d0489c8a99c2f"), looks := false }, kinds := [], alts := [], laidByText := true, laidKinds := [.data, .pinned], laidTests := true, laidLooks := .later }
def FnExactOpenSidesUptoCardSaid : Prop := Claim7.holds Tryd.pinned (.plain (OpenSpec.upto fnExactOpenSidesSpec)) fnExactOpenSidesUptoCard

/-- THE SECOND FORM's CARD OF 'laws.FnExactPiecesOfTablet'. -/
def fnExactPiecesOfTabletUptoCard : Claim7 := { stood := { row := fnExactPiecesOfTabletUptoRow, standIns := [], harness := (true, "47dbb7776c4efaf219f06c11f3f1cb3520f182104a2efad37e5d0489c8a99c2f"), looks := false }, kinds := [], alts := [], laidByText := true, laidKinds := [.data, .pinned], laidTests := true, laidLooks := .later }
def FnExactPiecesOfTabletUptoCardSaid : Prop := Claim7.holds Tryd.pinned (.plain (OpenSpec.upto fnExactPiecesOfTabletSpec)) fnExactPiecesOfTabletUptoCard
end Rows
end Go.Proofs.YtieiakljholkaaaDoor
