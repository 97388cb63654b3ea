/-
  No cell of these rows narrows 'for every input' (looked for: loops, veiled, ifaces, maps, wideKeys, modest, calm, conditions, laid).
  DERIVED. THE GIVEN ROWS OF THIS SEAT. 6 by the template 'for every input the law returns true; each argument reads behind the call as it read before'; 0 by the template 'total and deterministic' (their statements: YtbjjpndhfgfedabTotals.lean).
  GIVEN WITH THE SEED: the statements are not yours to turn. If you find one false, say at which input.
  Laid BY PROGRAM, IN A SANDBOX (cutbox-rows.mjs): the forced cells as the released guide's own fill.sh prints them over the translation 0513af0ca04f4e19… (all of the seat's roots in one cut). By AI agents, Wed Nov 11 2026. No macro, syntax, notation, axiom, sorry.
-/
import Derived.Test.YtbjjpndhfgfedabChecked
import GoSem.Claim
import GoSem.ClaimJoined
import GoSem.ClaimMapViews
import Derived.JoinedTies
import Derived.KernelRfl
namespace Go.Proofs.Ytbjjpndhfgfedab
/- THE CELL 'sum', in the pinned program and in every row, IS THE sha256 OF THE DUMP (.gsa) THAT YtbjjpndhfgfedabProg.lean LOADS. Nothing in Lean hashes anything: it is a label: what it is worth is what the hold of that sum in a sandbox is worth. -/
noncomputable def Try.pinned : Pinned := { name := "ytbjjpndhfgfedab", sum := "0513af0ca04f4e19da7cf38b61af3f71c5dc19d529937faa8bf62a61172a3a8d", checked := Try.checked }
namespace Rows
def none {H : Type} : Left H := { results := [], args := [] }

/-- 'laws.FnExactPoorestPiece': WHATEVER THE INPUT: true; the input reads as it did. -/
def fnExactPoorestPieceSpec : ChangeSpec := { name := "fnExactPoorestPiece", fn := fun _ => fun
  | [d1, d2] => { results := [.lit (.bool true)], args := [d1, d2] }
  | _ => none }
def fnExactPoorestPieceRow : OpenClaim := { program := "ytbjjpndhfgfedab", sum := "0513af0ca04f4e19da7cf38b61af3f71c5dc19d529937faa8bf62a61172a3a8d", func := "loop.example/g01377/laws.FnExactPoorestPiece", spec := "fnExactPoorestPiece", recurses := true, plainKeys := false, apart := false }
def FnExactPoorestPieceSaid : Prop := fnExactPoorestPieceRow.holds Try.pinned (OpenSpec.ofChange fnExactPoorestPieceSpec)

/-- ITS FALSE NEIGHBOUR: 'it returns false'. Refute it at one input. -/
def fnExactPoorestPieceWrong : ChangeSpec := { name := "fnExactPoorestPiece", fn := fun _ => fun
  | [d1, d2] => { results := [.lit (.bool false)], args := [d1, d2] }
  | _ => none }
def FnExactPoorestPieceWrongFalsely : Prop := fnExactPoorestPieceRow.holds Try.pinned (OpenSpec.ofChange fnExactPoorestPieceWrong)

/-- 'laws.FnExactFewestPieces': WHATEVER THE INPUT: true; the input reads as it did. -/
def fnExactFewestPiecesSpec : ChangeSpec := { name := "fnExactFewestPieces", fn := fun _ => fun
  | [d1, d2] => { results := [.lit (.bool true)], args := [d1, d2] }
  | _ => none }
def fnExactFewestPiecesRow : OpenClaim := { program := "ytbjjpndhfgfedab", sum := "0513af0ca04f4e19da7cf38b61af3f71c5dc19d529937faa8bf62a61172a3a8d", func := "loop.example/g01377/laws.FnExactFewestPieces", spec := "fnExactFewestPieces", recurses := true, plainKeys := false, apart := false }
def FnExactFewestPiecesSaid : Prop := fnExactFewestPiecesRow.holds Try.pinned (OpenSpec.ofChange fnExactFewestPiecesSpec)

/-- ITS FALSE NEIGHBOUR: 'it returns false'. Refute it at one input. -/
def fnExactFewestPiecesWrong : ChangeSpec := { name := "fnExactFewestPieces", fn := fun _ => fun
  | [d1, d2] => { results := [.lit (.bool false)], args := [d1, d2] }
  | _ => none }
def FnExactFewestPiecesWrongFalsely : Prop := fnExactFewestPiecesRow.holds Try.pinned (OpenSpec.ofChange fnExactFewestPiecesWrong)

/-- 'laws.FnExactPutNut': WHATEVER THE INPUT: true; the input reads as it did. -/
def fnExactPutNutSpec : ChangeSpec := { name := "fnExactPutNut", fn := fun _ => fun
  | [d1, d2, d3] => { results := [.lit (.bool true)], args := [d1, d2, d3] }
  | _ => none }
def fnExactPutNutRow : OpenClaim := { program := "ytbjjpndhfgfedab", sum := "0513af0ca04f4e19da7cf38b61af3f71c5dc19d529937faa8bf62a61172a3a8d", func := "loop.example/g01377/laws.FnExactPutNut", spec := "fnExactPutNut", recurses := true, plainKeys := false, apart := false }
def FnExactPutNutSaid : Prop := fnExactPutNutRow.holds Try.pinned (OpenSpec.ofChange fnExactPutNutSpec)

/-- ITS FALSE NEIGHBOUR: 'it returns false'. Refute it at one input. -/
def fnExactPutNutWrong : ChangeSpec := { name := "fnExactPutNut", fn := fun _ => fun
  | [d1, d2, d3] => { results := [.lit (.bool false)], args := [d1, d2, d3] }
  | _ => none }
def FnExactPutNutWrongFalsely : Prop := fnExactPutNutRow.holds Try.pinned (OpenSpec.ofChange fnExactPutNutWrong)

/-- 'laws.FnExactTurnNuts': WHATEVER THE INPUT: true; the input reads as it did. -/
def fnExactTurnNutsSpec : ChangeSpec := { name := "fnExactTurnNuts", fn := fun _ => fun
  | [d] => { results := [.lit (.bool true)], args := [d] }
  | _ => none }
def fnExactTurnNutsRow : OpenClaim := { program := "ytbjjpndhfgfedab", sum := "0513af0ca04f4e19da7cf38b61af3f71c5dc19d529937faa8bf62a61172a3a8d", func := "loop.example/g01377/laws.FnExactTurnNuts", spec := "fnExactTurnNuts", plainKeys := false, apart := false }
def FnExactTurnNutsSaid : Prop := fnExactTurnNutsRow.holds Try.pinned (OpenSpec.ofChange fnExactTurnNutsSpec)

/-- ITS FALSE NEIGHBOUR: 'it returns false'. Refute it at one input. -/
def fnExactTurnNutsWrong : ChangeSpec := { name := "fnExactTurnNuts", fn := fun _ => fun
  | [d] => { results := [.lit (.bool false)], args := [d] }
  | _ => none }
def FnExactTurnNutsWrongFalsely : Prop := fnExactTurnNutsRow.holds Try.pinned (OpenSpec.ofChange fnExactTurnNutsWrong)

/-- 'laws.FnExactSameNuts': WHATEVER THE INPUT: true; the input reads as it did. -/
def fnExactSameNutsSpec : ChangeSpec := { name := "fnExactSameNuts", fn := fun _ => fun
  | [d1, d2] => { results := [.lit (.bool true)], args := [d1, d2] }
  | _ => none }
def fnExactSameNutsRow : OpenClaim := { program := "ytbjjpndhfgfedab", sum := "0513af0ca04f4e19da7cf38b61af3f71c5dc19d529937faa8bf62a61172a3a8d", func := "loop.example/g01377/laws.FnExactSameNuts", spec := "fnExactSameNuts", plainKeys := false, apart := false }
def FnExactSameNutsSaid : Prop := fnExactSameNutsRow.holds Try.pinned (OpenSpec.ofChange fnExactSameNutsSpec)

/-- ITS FALSE NEIGHBOUR: 'it returns false'. Refute it at one input. -/
def fnExactSameNutsWrong : ChangeSpec := { name := "fnExactSameNuts", fn := fun _ => fun
  | [d1, d2] => { results := [.lit (.bool false)], args := [d1, d2] }
  | _ => none }
def FnExactSameNutsWrongFalsely : Prop := fnExactSameNutsRow.holds Try.pinned (OpenSpec.ofChange fnExactSameNutsWrong)

/-- 'laws.FnExactNutsText': WHATEVER THE INPUT: true; the input reads as it did. -/
def fnExactNutsTextSpec : ChangeSpec := { name := "fnExactNutsText", fn := fun _ => fun
  | [d] => { results := [.lit (.bool true)], args := [d] }
  | _ => none }
def fnExactNutsTextRow : OpenClaim := { program := "ytbjjpndhfgfedab", sum := "0513af0ca04f4e19da7cf38b61af3f71c5dc19d529937faa8bf62a61172a3a8d", func := "loop.example/g01377/laws.FnExactNutsText", spec := "fnExactNutsText", inPlace := ["internal/abi.NoEscape", "internal/bytealg.MakeNoZero"], plainKeys := false, apart := false }
def FnExactNutsTextSaid : Prop := fnExactNutsTextRow.holds Try.pinned (OpenSpec.ofChange fnExactNutsTextSpec)

/-- ITS FALSE NEIGHBOUR: 'it returns false'. Refute it at one input. -/
def fnExactNutsTextWrong : ChangeSpec := { name := "fnExactNutsText", fn := fun _ => fun
  | [d] => { results := [.lit (.bool false)], args := [d] }
  | _ => none }
def FnExactNutsTextWrongFalsely : Prop := fnExactNutsTextRow.holds Try.pinned (OpenSpec.ofChange fnExactNutsTextWrong)

/- THE SECOND FORM. 'bulk': how many values and letters a reading holds, each counted each time it is reached (what is shared counts as often as it is met; a slice's spare places count too). A statement '..UptoSaid' is the law's where the arguments, and the package variables that the reading takes, are together of bulk at most 1048576: NARROWER than '..Said'. Prove '..Said' where nothing that the law and all that it calls make is longer than what came in: it says more and counts as full. Else prove '..UptoSaid'. A law counts once. -/
mutual
def uptoBulk {H : Type} : DataW H → Nat
  | .lit (.string bytes) => bytes.length + 1
  | .lit _ => 1
  | .nil => 1
  | .ptr d => uptoBulk d + 1
  | .slice elems spare => uptoBulkAll elems + uptoBulkAll spare + 1
  | .agg parts => uptoBulkAll parts + 1
  | .iface _ d => uptoBulk d + 1
  | .map entries => uptoBulkEntries entries + 1
  | .held _ => 1
def uptoBulkAll {H : Type} : List (DataW H) → Nat
  | [] => 0
  | d :: r => uptoBulk d + uptoBulkAll r
def uptoBulkEntries {H : Type} : List (Lit × DataW H) → Nat
  | [] => 0
  | x :: r => uptoBulkEntry x + uptoBulkEntries r
def uptoBulkEntry {H : Type} : Lit × DataW H → Nat
  | (.string bytes, d) => bytes.length + uptoBulk d + 1
  | (_, d) => uptoBulk d + 1
 end
def uptoSmall : (H : Type) → List (DataW H) → Bool := fun _ ds => decide (uptoBulkAll ds ≤ 1048576)
def OpenSpec.upto (s : _root_.Go.ChangeSpec) : _root_.Go.OpenSpec := { _root_.Go.OpenSpec.ofChange s with cond := some uptoSmall }

/-- 'laws.FnExactPoorestPiece', WHERE WHAT IT READS IS OF BULK AT MOST 1048576: true; the input reads as it did. -/
def fnExactPoorestPieceUptoRow : OpenClaim := { program := "ytbjjpndhfgfedab", sum := "0513af0ca04f4e19da7cf38b61af3f71c5dc19d529937faa8bf62a61172a3a8d", func := "loop.example/g01377/laws.FnExactPoorestPiece", spec := "fnExactPoorestPiece", recurses := true, plainKeys := false, apart := false, narrowed := true }
def FnExactPoorestPieceUptoSaid : Prop := fnExactPoorestPieceUptoRow.holds Try.pinned (OpenSpec.upto fnExactPoorestPieceSpec)

/-- 'laws.FnExactFewestPieces', WHERE WHAT IT READS IS OF BULK AT MOST 1048576: true; the input reads as it did. -/
def fnExactFewestPiecesUptoRow : OpenClaim := { program := "ytbjjpndhfgfedab", sum := "0513af0ca04f4e19da7cf38b61af3f71c5dc19d529937faa8bf62a61172a3a8d", func := "loop.example/g01377/laws.FnExactFewestPieces", spec := "fnExactFewestPieces", recurses := true, plainKeys := false, apart := false, narrowed := true }
def FnExactFewestPiecesUptoSaid : Prop := fnExactFewestPiecesUptoRow.holds Try.pinned (OpenSpec.upto fnExactFewestPiecesSpec)

/-- 'laws.FnExactPutNut', WHERE WHAT IT READS IS OF BULK AT MOST 1048576: true; the input reads as it did. -/
def fnExactPutNutUptoRow : OpenClaim := { program := "ytbjjpndhfgfedab", sum := "0513af0ca04f4e19da7cf38b61af3f71c5dc19d529937faa8bf62a61172a3a8d", func := "loop.example/g01377/laws.FnExactPutNut", spec := "fnExactPutNut", recurses := true, plainKeys := false, apart := false, narrowed := true }
def FnExactPutNutUptoSaid : Prop := fnExactPutNutUptoRow.holds Try.pinned (OpenSpec.upto fnExactPutNutSpec)

/-- 'laws.FnExactTurnNuts', WHERE WHAT IT READS IS OF BULK AT MOST 1048576: true; the input reads as it did. -/
def fnExactTurnNutsUptoRow : OpenClaim := { program := "ytbjjpndhfgfedab", sum := "0513af0ca04f4e19da7cf38b61af3f71c5dc19d529937faa8bf62a61172a3a8d", func := "loop.example/g01377/laws.FnExactTurnNuts", spec := "fnExactTurnNuts", plainKeys := false, apart := false, narrowed := true }
def FnExactTurnNutsUptoSaid : Prop := fnExactTurnNutsUptoRow.holds Try.pinned (OpenSpec.upto fnExactTurnNutsSpec)

/-- 'laws.FnExactSameNuts', WHERE WHAT IT READS IS OF BULK AT MOST 1048576: true; the input reads as it did. -/
def fnExactSameNutsUptoRow : OpenClaim := { program := "ytbjjpndhfgfedab", sum := "0513af0ca04f4e19da7cf38b61af3f71c5dc19d529937faa8bf62a61172a3a8d", func := "loop.example/g01377/laws.FnExactSameNuts", spec := "fnExactSameNuts", plainKeys := false, apart := false, narrowed := true }
def FnExactSameNutsUptoSaid : Prop := fnExactSameNutsUptoRow.holds Try.pinned (OpenSpec.upto fnExactSameNutsSpec)

/-- 'laws.FnExactNutsText', WHERE WHAT IT READS IS OF BULK AT MOST 1048576: true; the input reads as it did. -/
def fnExactNutsTextUptoRow : OpenClaim := { program := "ytbjjpndhfgfedab", sum := "0513af0ca04f4e19da7cf38b61af3f71c5dc19d529937faa8bf62a61172a3a8d", func := "loop.example/g01377/laws.FnExactNutsText", spec := "fnExactNutsText", inPlace := ["internal/abi.NoEscape", "internal/bytealg.MakeNoZero"], plainKeys := false, apart := false, narrowed := true }
def FnExactNutsTextUptoSaid : Prop := fnExactNutsTextUptoRow.holds Try.pinned (OpenSpec.upto fnExactNutsTextSpec)

end Rows
end Go.Proofs.Ytbjjpndhfgfedab
