/-
  No cell of these rows narrows 'for every input' (looked for: loops, veiled, ifaces, maps, wideKeys, modest, calm, conditions, laid).
  DERIVED. THE GIVEN ROWS OF THIS SEAT. 12 by the template 'for every input the law returns true; each argument reads behind the call as it read before'; 0 by the template 'total and deterministic' (their statements: YtclkddehaomdjaaTotals.lean).
  GIVEN WITH THE SEED: the statements are not yours to turn. If you find one false, say at which input.
  Laid BY PROGRAM, IN A SANDBOX (cutbox-rows.mjs): the forced cells as the released guide's own fill.sh prints them over the translation 971e4ca5405a7572… (all of the seat's roots in one cut). By AI agents, Wed Nov 11 2026. No macro, syntax, notation, axiom, sorry.
-/
import Derived.Test.YtclkddehaomdjaaChecked
import GoSem.Claim
import GoSem.ClaimJoined
import GoSem.ClaimMapViews
import Derived.JoinedTies
import Derived.KernelRfl
namespace Go.Proofs.Ytclkddehaomdjaa
/- THE CELL 'sum', in the pinned program and in every row, IS THE sha256 OF THE DUMP (.gsa) THAT YtclkddehaomdjaaProg.lean LOADS. Nothing in Lean hashes anything: it is a label: what it is worth is what the hold of that sum in a sandbox is worth. -/
noncomputable def Try.pinned : Pinned := { name := "ytclkddehaomdjaa", sum := "971e4ca5405a7572e226d050060611479a93027cb1a5663697622ea17005d69d", checked := Try.checked }
namespace Rows
def none {H : Type} : Left H := { results := [], args := [] }

/-- 'laws.FnExactIsChomp': WHATEVER THE INPUT: true; the input reads as it did. -/
def fnExactIsChompSpec : ChangeSpec := { name := "fnExactIsChomp", fn := fun _ => fun
  | [d] => { results := [.lit (.bool true)], args := [d] }
  | _ => none }
def fnExactIsChompRow : OpenClaim := { program := "ytclkddehaomdjaa", sum := "971e4ca5405a7572e226d050060611479a93027cb1a5663697622ea17005d69d", func := "loop.example/g01377/laws.FnExactIsChomp", spec := "fnExactIsChomp", plainKeys := false, apart := false }
def FnExactIsChompSaid : Prop := fnExactIsChompRow.holds Try.pinned (OpenSpec.ofChange fnExactIsChompSpec)

/-- ITS FALSE NEIGHBOUR: 'it returns false'. Refute it at one input. -/
def fnExactIsChompWrong : ChangeSpec := { name := "fnExactIsChomp", fn := fun _ => fun
  | [d] => { results := [.lit (.bool false)], args := [d] }
  | _ => none }
def FnExactIsChompWrongFalsely : Prop := fnExactIsChompRow.holds Try.pinned (OpenSpec.ofChange fnExactIsChompWrong)

/-- 'laws.FnExactWholeChomp': WHATEVER THE INPUT: true; the input reads as it did. -/
def fnExactWholeChompSpec : ChangeSpec := { name := "fnExactWholeChomp", fn := fun _ => fun
  | [d1, d2] => { results := [.lit (.bool true)], args := [d1, d2] }
  | _ => none }
def fnExactWholeChompRow : OpenClaim := { program := "ytclkddehaomdjaa", sum := "971e4ca5405a7572e226d050060611479a93027cb1a5663697622ea17005d69d", func := "loop.example/g01377/laws.FnExactWholeChomp", spec := "fnExactWholeChomp", plainKeys := false, apart := false }
def FnExactWholeChompSaid : Prop := fnExactWholeChompRow.holds Try.pinned (OpenSpec.ofChange fnExactWholeChompSpec)

/-- ITS FALSE NEIGHBOUR: 'it returns false'. Refute it at one input. -/
def fnExactWholeChompWrong : ChangeSpec := { name := "fnExactWholeChomp", fn := fun _ => fun
  | [d1, d2] => { results := [.lit (.bool false)], args := [d1, d2] }
  | _ => none }
def FnExactWholeChompWrongFalsely : Prop := fnExactWholeChompRow.holds Try.pinned (OpenSpec.ofChange fnExactWholeChompWrong)

/-- 'laws.FnExactLeftSquares': WHATEVER THE INPUT: true; the input reads as it did. -/
def fnExactLeftSquaresSpec : ChangeSpec := { name := "fnExactLeftSquares", fn := fun _ => fun
  | [d] => { results := [.lit (.bool true)], args := [d] }
  | _ => none }
def fnExactLeftSquaresRow : OpenClaim := { program := "ytclkddehaomdjaa", sum := "971e4ca5405a7572e226d050060611479a93027cb1a5663697622ea17005d69d", func := "loop.example/g01377/laws.FnExactLeftSquares", spec := "fnExactLeftSquares", plainKeys := false, apart := false }
def FnExactLeftSquaresSaid : Prop := fnExactLeftSquaresRow.holds Try.pinned (OpenSpec.ofChange fnExactLeftSquaresSpec)

/-- ITS FALSE NEIGHBOUR: 'it returns false'. Refute it at one input. -/
def fnExactLeftSquaresWrong : ChangeSpec := { name := "fnExactLeftSquares", fn := fun _ => fun
  | [d] => { results := [.lit (.bool false)], args := [d] }
  | _ => none }
def FnExactLeftSquaresWrongFalsely : Prop := fnExactLeftSquaresRow.holds Try.pinned (OpenSpec.ofChange fnExactLeftSquaresWrong)

/-- 'laws.FnExactChompAt': WHATEVER THE INPUT: true; the input reads as it did. -/
def fnExactChompAtSpec : ChangeSpec := { name := "fnExactChompAt", fn := fun _ => fun
  | [d1, d2, d3] => { results := [.lit (.bool true)], args := [d1, d2, d3] }
  | _ => none }
def fnExactChompAtRow : OpenClaim := { program := "ytclkddehaomdjaa", sum := "971e4ca5405a7572e226d050060611479a93027cb1a5663697622ea17005d69d", func := "loop.example/g01377/laws.FnExactChompAt", spec := "fnExactChompAt", plainKeys := false, apart := false }
def FnExactChompAtSaid : Prop := fnExactChompAtRow.holds Try.pinned (OpenSpec.ofChange fnExactChompAtSpec)

/-- ITS FALSE NEIGHBOUR: 'it returns false'. Refute it at one input. -/
def fnExactChompAtWrong : ChangeSpec := { name := "fnExactChompAt", fn := fun _ => fun
  | [d1, d2, d3] => { results := [.lit (.bool false)], args := [d1, d2, d3] }
  | _ => none }
def FnExactChompAtWrongFalsely : Prop := fnExactChompAtRow.holds Try.pinned (OpenSpec.ofChange fnExactChompAtWrong)

/-- 'laws.FnExactChompMoves': WHATEVER THE INPUT: true; the input reads as it did. -/
def fnExactChompMovesSpec : ChangeSpec := { name := "fnExactChompMoves", fn := fun _ => fun
  | [d] => { results := [.lit (.bool true)], args := [d] }
  | _ => none }
def fnExactChompMovesRow : OpenClaim := { program := "ytclkddehaomdjaa", sum := "971e4ca5405a7572e226d050060611479a93027cb1a5663697622ea17005d69d", func := "loop.example/g01377/laws.FnExactChompMoves", spec := "fnExactChompMoves", plainKeys := false, apart := false }
def FnExactChompMovesSaid : Prop := fnExactChompMovesRow.holds Try.pinned (OpenSpec.ofChange fnExactChompMovesSpec)

/-- ITS FALSE NEIGHBOUR: 'it returns false'. Refute it at one input. -/
def fnExactChompMovesWrong : ChangeSpec := { name := "fnExactChompMoves", fn := fun _ => fun
  | [d] => { results := [.lit (.bool false)], args := [d] }
  | _ => none }
def FnExactChompMovesWrongFalsely : Prop := fnExactChompMovesRow.holds Try.pinned (OpenSpec.ofChange fnExactChompMovesWrong)

/-- 'laws.FnExactPlayChomp': WHATEVER THE INPUT: true; the input reads as it did. -/
def fnExactPlayChompSpec : ChangeSpec := { name := "fnExactPlayChomp", fn := fun _ => fun
  | [d1, d2] => { results := [.lit (.bool true)], args := [d1, d2] }
  | _ => none }
def fnExactPlayChompRow : OpenClaim := { program := "ytclkddehaomdjaa", sum := "971e4ca5405a7572e226d050060611479a93027cb1a5663697622ea17005d69d", func := "loop.example/g01377/laws.FnExactPlayChomp", spec := "fnExactPlayChomp", plainKeys := false, apart := false }
def FnExactPlayChompSaid : Prop := fnExactPlayChompRow.holds Try.pinned (OpenSpec.ofChange fnExactPlayChompSpec)

/-- ITS FALSE NEIGHBOUR: 'it returns false'. Refute it at one input. -/
def fnExactPlayChompWrong : ChangeSpec := { name := "fnExactPlayChomp", fn := fun _ => fun
  | [d1, d2] => { results := [.lit (.bool false)], args := [d1, d2] }
  | _ => none }
def FnExactPlayChompWrongFalsely : Prop := fnExactPlayChompRow.holds Try.pinned (OpenSpec.ofChange fnExactPlayChompWrong)

/-- 'laws.FnExactWinsChomp': WHATEVER THE INPUT: true; the input reads as it did. -/
def fnExactWinsChompSpec : ChangeSpec := { name := "fnExactWinsChomp", fn := fun _ => fun
  | [d] => { results := [.lit (.bool true)], args := [d] }
  | _ => none }
def fnExactWinsChompRow : OpenClaim := { program := "ytclkddehaomdjaa", sum := "971e4ca5405a7572e226d050060611479a93027cb1a5663697622ea17005d69d", func := "loop.example/g01377/laws.FnExactWinsChomp", spec := "fnExactWinsChomp", unfollowed := true, recurses := true, plainKeys := false, apart := false }
def FnExactWinsChompSaid : Prop := fnExactWinsChompRow.holds Try.pinned (OpenSpec.ofChange fnExactWinsChompSpec)

/-- ITS FALSE NEIGHBOUR: 'it returns false'. Refute it at one input. -/
def fnExactWinsChompWrong : ChangeSpec := { name := "fnExactWinsChomp", fn := fun _ => fun
  | [d] => { results := [.lit (.bool false)], args := [d] }
  | _ => none }
def FnExactWinsChompWrongFalsely : Prop := fnExactWinsChompRow.holds Try.pinned (OpenSpec.ofChange fnExactWinsChompWrong)

/-- 'laws.FnExactGoodChomps': WHATEVER THE INPUT: true; the input reads as it did. -/
def fnExactGoodChompsSpec : ChangeSpec := { name := "fnExactGoodChomps", fn := fun _ => fun
  | [d] => { results := [.lit (.bool true)], args := [d] }
  | _ => none }
def fnExactGoodChompsRow : OpenClaim := { program := "ytclkddehaomdjaa", sum := "971e4ca5405a7572e226d050060611479a93027cb1a5663697622ea17005d69d", func := "loop.example/g01377/laws.FnExactGoodChomps", spec := "fnExactGoodChomps", unfollowed := true, recurses := true, plainKeys := false, apart := false }
def FnExactGoodChompsSaid : Prop := fnExactGoodChompsRow.holds Try.pinned (OpenSpec.ofChange fnExactGoodChompsSpec)

/-- ITS FALSE NEIGHBOUR: 'it returns false'. Refute it at one input. -/
def fnExactGoodChompsWrong : ChangeSpec := { name := "fnExactGoodChomps", fn := fun _ => fun
  | [d] => { results := [.lit (.bool false)], args := [d] }
  | _ => none }
def FnExactGoodChompsWrongFalsely : Prop := fnExactGoodChompsRow.holds Try.pinned (OpenSpec.ofChange fnExactGoodChompsWrong)

/-- 'laws.FnExactFirstGoodChomp': WHATEVER THE INPUT: true; the input reads as it did. -/
def fnExactFirstGoodChompSpec : ChangeSpec := { name := "fnExactFirstGoodChomp", fn := fun _ => fun
  | [d] => { results := [.lit (.bool true)], args := [d] }
  | _ => none }
def fnExactFirstGoodChompRow : OpenClaim := { program := "ytclkddehaomdjaa", sum := "971e4ca5405a7572e226d050060611479a93027cb1a5663697622ea17005d69d", func := "loop.example/g01377/laws.FnExactFirstGoodChomp", spec := "fnExactFirstGoodChomp", unfollowed := true, recurses := true, plainKeys := false, apart := false }
def FnExactFirstGoodChompSaid : Prop := fnExactFirstGoodChompRow.holds Try.pinned (OpenSpec.ofChange fnExactFirstGoodChompSpec)

/-- ITS FALSE NEIGHBOUR: 'it returns false'. Refute it at one input. -/
def fnExactFirstGoodChompWrong : ChangeSpec := { name := "fnExactFirstGoodChomp", fn := fun _ => fun
  | [d] => { results := [.lit (.bool false)], args := [d] }
  | _ => none }
def FnExactFirstGoodChompWrongFalsely : Prop := fnExactFirstGoodChompRow.holds Try.pinned (OpenSpec.ofChange fnExactFirstGoodChompWrong)

/-- 'laws.FnExactMostChompMoves': WHATEVER THE INPUT: true; the input reads as it did. -/
def fnExactMostChompMovesSpec : ChangeSpec := { name := "fnExactMostChompMoves", fn := fun _ => fun
  | [d] => { results := [.lit (.bool true)], args := [d] }
  | _ => none }
def fnExactMostChompMovesRow : OpenClaim := { program := "ytclkddehaomdjaa", sum := "971e4ca5405a7572e226d050060611479a93027cb1a5663697622ea17005d69d", func := "loop.example/g01377/laws.FnExactMostChompMoves", spec := "fnExactMostChompMoves", plainKeys := false, apart := false }
def FnExactMostChompMovesSaid : Prop := fnExactMostChompMovesRow.holds Try.pinned (OpenSpec.ofChange fnExactMostChompMovesSpec)

/-- ITS FALSE NEIGHBOUR: 'it returns false'. Refute it at one input. -/
def fnExactMostChompMovesWrong : ChangeSpec := { name := "fnExactMostChompMoves", fn := fun _ => fun
  | [d] => { results := [.lit (.bool false)], args := [d] }
  | _ => none }
def FnExactMostChompMovesWrongFalsely : Prop := fnExactMostChompMovesRow.holds Try.pinned (OpenSpec.ofChange fnExactMostChompMovesWrong)

/-- 'laws.FnExactQuickestWin': WHATEVER THE INPUT: true; the input reads as it did. -/
def fnExactQuickestWinSpec : ChangeSpec := { name := "fnExactQuickestWin", fn := fun _ => fun
  | [d] => { results := [.lit (.bool true)], args := [d] }
  | _ => none }
def fnExactQuickestWinRow : OpenClaim := { program := "ytclkddehaomdjaa", sum := "971e4ca5405a7572e226d050060611479a93027cb1a5663697622ea17005d69d", func := "loop.example/g01377/laws.FnExactQuickestWin", spec := "fnExactQuickestWin", unfollowed := true, recurses := true, plainKeys := false, apart := false }
def FnExactQuickestWinSaid : Prop := fnExactQuickestWinRow.holds Try.pinned (OpenSpec.ofChange fnExactQuickestWinSpec)

/-- ITS FALSE NEIGHBOUR: 'it returns false'. Refute it at one input. -/
def fnExactQuickestWinWrong : ChangeSpec := { name := "fnExactQuickestWin", fn := fun _ => fun
  | [d] => { results := [.lit (.bool false)], args := [d] }
  | _ => none }
def FnExactQuickestWinWrongFalsely : Prop := fnExactQuickestWinRow.holds Try.pinned (OpenSpec.ofChange fnExactQuickestWinWrong)

/-- 'laws.FnExactHeapOfChomp': WHATEVER THE INPUT: true; the input reads as it did. -/
def fnExactHeapOfChompSpec : ChangeSpec := { name := "fnExactHeapOfChomp", fn := fun _ => fun
  | [d] => { results := [.lit (.bool true)], args := [d] }
  | _ => none }
def fnExactHeapOfChompRow : OpenClaim := { program := "ytclkddehaomdjaa", sum := "971e4ca5405a7572e226d050060611479a93027cb1a5663697622ea17005d69d", func := "loop.example/g01377/laws.FnExactHeapOfChomp", spec := "fnExactHeapOfChomp", unfollowed := true, recurses := true, plainKeys := false, apart := false }
def FnExactHeapOfChompSaid : Prop := fnExactHeapOfChompRow.holds Try.pinned (OpenSpec.ofChange fnExactHeapOfChompSpec)

/-- ITS FALSE NEIGHBOUR: 'it returns false'. Refute it at one input. -/
def fnExactHeapOfChompWrong : ChangeSpec := { name := "fnExactHeapOfChomp", fn := fun _ => fun
  | [d] => { results := [.lit (.bool false)], args := [d] }
  | _ => none }
def FnExactHeapOfChompWrongFalsely : Prop := fnExactHeapOfChompRow.holds Try.pinned (OpenSpec.ofChange fnExactHeapOfChompWrong)

/- THE SECOND FORM. 'bulk': how many values and letters a reading holds, each counted each time it is reached (what is shared counts as often as it is met; a slice's spare places count too). A statement '..UptoSaid' is the law's where the arguments, and the package variables that the reading takes, are together of bulk at most 1048576: NARROWER than '..Said'. Prove '..Said' where nothing that the law and all that it calls make is longer than what came in: it says more and counts as full. Else prove '..UptoSaid'. A law counts once. -/
mutual
def uptoBulk {H : Type} : DataW H → Nat
  | .lit (.string bytes) => bytes.length + 1
  | .lit _ => 1
  | .nil => 1
  | .ptr d => uptoBulk d + 1
  | .slice elems spare => uptoBulkAll elems + uptoBulkAll spare + 1
  | .agg parts => uptoBulkAll parts + 1
  | .iface _ d => uptoBulk d + 1
  | .map entries => uptoBulkEntries entries + 1
  | .held _ => 1
def uptoBulkAll {H : Type} : List (DataW H) → Nat
  | [] => 0
  | d :: r => uptoBulk d + uptoBulkAll r
def uptoBulkEntries {H : Type} : List (Lit × DataW H) → Nat
  | [] => 0
  | x :: r => uptoBulkEntry x + uptoBulkEntries r
def uptoBulkEntry {H : Type} : Lit × DataW H → Nat
  | (.string bytes, d) => bytes.length + uptoBulk d + 1
  | (_, d) => uptoBulk d + 1
 end
def uptoSmall : (H : Type) → List (DataW H) → Bool := fun _ ds => decide (uptoBulkAll ds ≤ 1048576)
def OpenSpec.upto (s : _root_.Go.ChangeSpec) : _root_.Go.OpenSpec := { _root_.Go.OpenSpec.ofChange s with cond := some uptoSmall }

/-- 'laws.FnExactIsChomp', WHERE WHAT IT READS IS OF BULK AT MOST 1048576: true; the input reads as it did. -/
def fnExactIsChompUptoRow : OpenClaim := { program := "ytclkddehaomdjaa", sum := "971e4ca5405a7572e226d050060611479a93027cb1a5663697622ea17005d69d", func := "loop.example/g01377/laws.FnExactIsChomp", spec := "fnExactIsChomp", plainKeys := false, apart := false, narrowed := true }
def FnExactIsChompUptoSaid : Prop := fnExactIsChompUptoRow.holds Try.pinned (OpenSpec.upto fnExactIsChompSpec)

/-- 'laws.FnExactWholeChomp', WHERE WHAT IT READS IS OF BULK AT MOST 1048576: true; the input reads as it did. -/
def fnExactWholeChompUptoRow : OpenClaim := { program := "ytclkddehaomdjaa", sum := "971e4ca5405a7572e226d050060611479a93027cb1a5663697622ea17005d69d", func := "loop.example/g01377/laws.FnExactWholeChomp", spec := "fnExactWholeChomp", plainKeys := false, apart := false, narrowed := true }
def FnExactWholeChompUptoSaid : Prop := fnExactWholeChompUptoRow.holds Try.pinned (OpenSpec.upto fnExactWholeChompSpec)

/-- 'laws.FnExactLeftSquares', WHERE WHAT IT READS IS OF BULK AT MOST 1048576: true; the input reads as it did. -/
def fnExactLeftSquaresUptoRow : OpenClaim := { program := "ytclkddehaomdjaa", sum := "971e4ca5405a7572e226d050060611479a93027cb1a5663697622ea17005d69d", func := "loop.example/g01377/laws.FnExactLeftSquares", spec := "fnExactLeftSquares", plainKeys := false, apart := false, narrowed := true }
def FnExactLeftSquaresUptoSaid : Prop := fnExactLeftSquaresUptoRow.holds Try.pinned (OpenSpec.upto fnExactLeftSquaresSpec)

/-- 'laws.FnExactChompAt', WHERE WHAT IT READS IS OF BULK AT MOST 1048576: true; the input reads as it did. -/
def fnExactChompAtUptoRow : OpenClaim := { program := "ytclkddehaomdjaa", sum := "971e4ca5405a7572e226d050060611479a93027cb1a5663697622ea17005d69d", func := "loop.example/g01377/laws.FnExactChompAt", spec := "fnExactChompAt", plainKeys := false, apart := false, narrowed := true }
def FnExactChompAtUptoSaid : Prop := fnExactChompAtUptoRow.holds Try.pinned (OpenSpec.upto fnExactChompAtSpec)

/-- 'laws.FnExactChompMoves', WHERE WHAT IT READS IS OF BULK AT MOST 1048576: true; the input reads as it did. -/
def fnExactChompMovesUptoRow : OpenClaim := { program := "ytclkddehaomdjaa", sum := "971e4ca5405a7572e226d050060611479a93027cb1a5663697622ea17005d69d", func := "loop.example/g01377/laws.FnExactChompMoves", spec := "fnExactChompMoves", plainKeys := false, apart := false, narrowed := true }
def FnExactChompMovesUptoSaid : Prop := fnExactChompMovesUptoRow.holds Try.pinned (OpenSpec.upto fnExactChompMovesSpec)

/-- 'laws.FnExactPlayChomp', WHERE WHAT IT READS IS OF BULK AT MOST 1048576: true; the input reads as it did. -/
def fnExactPlayChompUptoRow : OpenClaim := { program := "ytclkddehaomdjaa", sum := "971e4ca5405a7572e226d050060611479a93027cb1a5663697622ea17005d69d", func := "loop.example/g01377/laws.FnExactPlayChomp", spec := "fnExactPlayChomp", plainKeys := false, apart := false, narrowed := true }
def FnExactPlayChompUptoSaid : Prop := fnExactPlayChompUptoRow.holds Try.pinned (OpenSpec.upto fnExactPlayChompSpec)

/-- 'laws.FnExactWinsChomp', WHERE WHAT IT READS IS OF BULK AT MOST 1048576: true; the input reads as it did. -/
def fnExactWinsChompUptoRow : OpenClaim := { program := "ytclkddehaomdjaa", sum := "971e4ca5405a7572e226d050060611479a93027cb1a5663697622ea17005d69d", func := "loop.example/g01377/laws.FnExactWinsChomp", spec := "fnExactWinsChomp", unfollowed := true, recurses := true, plainKeys := false, apart := false, narrowed := true }
def FnExactWinsChompUptoSaid : Prop := fnExactWinsChompUptoRow.holds Try.pinned (OpenSpec.upto fnExactWinsChompSpec)

/-- 'laws.FnExactGoodChomps', WHERE WHAT IT READS IS OF BULK AT MOST 1048576: true; the input reads as it did. -/
def fnExactGoodChompsUptoRow : OpenClaim := { program := "ytclkddehaomdjaa", sum := "971e4ca5405a7572e226d050060611479a93027cb1a5663697622ea17005d69d", func := "loop.example/g01377/laws.FnExactGoodChomps", spec := "fnExactGoodChomps", unfollowed := true, recurses := true, plainKeys := false, apart := false, narrowed := true }
def FnExactGoodChompsUptoSaid : Prop := fnExactGoodChompsUptoRow.holds Try.pinned (OpenSpec.upto fnExactGoodChompsSpec)

/-- 'laws.FnExactFirstGoodChomp', WHERE WHAT IT READS IS OF BULK AT MOST 1048576: true; the input reads as it did. -/
def fnExactFirstGoodChompUptoRow : OpenClaim := { program := "ytclkddehaomdjaa", sum := "971e4ca5405a7572e226d050060611479a93027cb1a5663697622ea17005d69d", func := "loop.example/g01377/laws.FnExactFirstGoodChomp", spec := "fnExactFirstGoodChomp", unfollowed := true, recurses := true, plainKeys := false, apart := false, narrowed := true }
def FnExactFirstGoodChompUptoSaid : Prop := fnExactFirstGoodChompUptoRow.holds Try.pinned (OpenSpec.upto fnExactFirstGoodChompSpec)

/-- 'laws.FnExactMostChompMoves', WHERE WHAT IT READS IS OF BULK AT MOST 1048576: true; the input reads as it did. -/
def fnExactMostChompMovesUptoRow : OpenClaim := { program := "ytclkddehaomdjaa", sum := "971e4ca5405a7572e226d050060611479a93027cb1a5663697622ea17005d69d", func := "loop.example/g01377/laws.FnExactMostChompMoves", spec := "fnExactMostChompMoves", plainKeys := false, apart := false, narrowed := true }
def FnExactMostChompMovesUptoSaid : Prop := fnExactMostChompMovesUptoRow.holds Try.pinned (OpenSpec.upto fnExactMostChompMovesSpec)

/-- 'laws.FnExactQuickestWin', WHERE WHAT IT READS IS OF BULK AT MOST 1048576: true; the input reads as it did. -/
def fnExactQuickestWinUptoRow : OpenClaim := { program := "ytclkddehaomdjaa", sum := "971e4ca5405a7572e226d050060611479a93027cb1a5663697622ea17005d69d", func := "loop.example/g01377/laws.FnExactQuickestWin", spec := "fnExactQuickestWin", unfollowed := true, recurses := true, plainKeys := false, apart := false, narrowed := true }
def FnExactQuickestWinUptoSaid : Prop := fnExactQuickestWinUptoRow.holds Try.pinned (OpenSpec.upto fnExactQuickestWinSpec)

/-- 'laws.FnExactHeapOfChomp', WHERE WHAT IT READS IS OF BULK AT MOST 1048576: true; the input reads as it did. -/
def fnExactHeapOfChompUptoRow : OpenClaim := { program := "ytclkddehaomdjaa", sum := "971e4ca5405a7572e226d050060611479a93027cb1a5663697622ea17005d69d", func := "loop.example/g01377/laws.FnExactHeapOfChomp", spec := "fnExactHeapOfChomp", unfollowed := true, recurses := true, plainKeys := false, apart := false, narrowed := true }
def FnExactHeapOfChompUptoSaid : Prop := fnExactHeapOfChompUptoRow.holds Try.pinned (OpenSpec.upto fnExactHeapOfChompSpec)

end Rows
end Go.Proofs.Ytclkddehaomdjaa
