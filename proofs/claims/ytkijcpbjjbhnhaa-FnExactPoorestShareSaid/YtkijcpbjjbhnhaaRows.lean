/-
  No cell of these rows narrows 'for every input' (looked for: loops, veiled, ifaces, maps, wideKeys, modest, calm, conditions, laid).
  DERIVED. THE GIVEN ROWS OF THIS SEAT. 12 by the template 'for every input the law returns true; each argument reads behind the call as it read before'; 0 by the template 'total and deterministic' (their statements: YtkijcpbjjbhnhaaTotals.lean).
  GIVEN WITH THE SEED: the statements are not yours to turn. If you find one false, say at which input.
  Laid BY PROGRAM, IN A SANDBOX (cutbox-rows.mjs): the forced cells as the released guide's own fill.sh prints them over the translation 4c63b8aae4c80585… (all of the seat's roots in one cut). By AI agents, Wed Nov 11 2026. No macro, syntax, notation, axiom, sorry.
-/
import Derived.Test.YtkijcpbjjbhnhaaChecked
import GoSem.Claim
import GoSem.ClaimJoined
import GoSem.ClaimMapViews
import Derived.JoinedTies
import Derived.KernelRfl
namespace Go.Proofs.Ytkijcpbjjbhnhaa
/- THE CELL 'sum', in the pinned program and in every row, IS THE sha256 OF THE DUMP (.gsa) THAT YtkijcpbjjbhnhaaProg.lean LOADS. Nothing in Lean hashes anything: it is a label: what it is worth is what the hold of that sum in a sandbox is worth. -/
noncomputable def Try.pinned : Pinned := { name := "ytkijcpbjjbhnhaa", sum := "4c63b8aae4c80585c1029806ee116e4eb8ef6a1d9de8a3c5063f0a407bd42b6a", checked := Try.checked }
namespace Rows
def none {H : Type} : Left H := { results := [], args := [] }

/-- 'laws.FnExactAreWeights': WHATEVER THE INPUT: true; the input reads as it did. -/
def fnExactAreWeightsSpec : ChangeSpec := { name := "fnExactAreWeights", fn := fun _ => fun
  | [d] => { results := [.lit (.bool true)], args := [d] }
  | _ => none }
def fnExactAreWeightsRow : OpenClaim := { program := "ytkijcpbjjbhnhaa", sum := "4c63b8aae4c80585c1029806ee116e4eb8ef6a1d9de8a3c5063f0a407bd42b6a", func := "loop.example/g01377/laws.FnExactAreWeights", spec := "fnExactAreWeights", apart := false }
def FnExactAreWeightsSaid : Prop := fnExactAreWeightsRow.holds Try.pinned (OpenSpec.ofChange fnExactAreWeightsSpec)

/-- ITS FALSE NEIGHBOUR: 'it returns false'. Refute it at one input. -/
def fnExactAreWeightsWrong : ChangeSpec := { name := "fnExactAreWeights", fn := fun _ => fun
  | [d] => { results := [.lit (.bool false)], args := [d] }
  | _ => none }
def FnExactAreWeightsWrongFalsely : Prop := fnExactAreWeightsRow.holds Try.pinned (OpenSpec.ofChange fnExactAreWeightsWrong)

/-- 'laws.FnExactLeastDifference': WHATEVER THE INPUT: true; the input reads as it did. -/
def fnExactLeastDifferenceSpec : ChangeSpec := { name := "fnExactLeastDifference", fn := fun _ => fun
  | [d] => { results := [.lit (.bool true)], args := [d] }
  | _ => none }
def fnExactLeastDifferenceRow : OpenClaim := { program := "ytkijcpbjjbhnhaa", sum := "4c63b8aae4c80585c1029806ee116e4eb8ef6a1d9de8a3c5063f0a407bd42b6a", func := "loop.example/g01377/laws.FnExactLeastDifference", spec := "fnExactLeastDifference", unfollowed := true, recurses := true, apart := false }
def FnExactLeastDifferenceSaid : Prop := fnExactLeastDifferenceRow.holds Try.pinned (OpenSpec.ofChange fnExactLeastDifferenceSpec)

/-- ITS FALSE NEIGHBOUR: 'it returns false'. Refute it at one input. -/
def fnExactLeastDifferenceWrong : ChangeSpec := { name := "fnExactLeastDifference", fn := fun _ => fun
  | [d] => { results := [.lit (.bool false)], args := [d] }
  | _ => none }
def FnExactLeastDifferenceWrongFalsely : Prop := fnExactLeastDifferenceRow.holds Try.pinned (OpenSpec.ofChange fnExactLeastDifferenceWrong)

/-- 'laws.FnExactFirstHalf': WHATEVER THE INPUT: true; the input reads as it did. -/
def fnExactFirstHalfSpec : ChangeSpec := { name := "fnExactFirstHalf", fn := fun _ => fun
  | [d] => { results := [.lit (.bool true)], args := [d] }
  | _ => none }
def fnExactFirstHalfRow : OpenClaim := { program := "ytkijcpbjjbhnhaa", sum := "4c63b8aae4c80585c1029806ee116e4eb8ef6a1d9de8a3c5063f0a407bd42b6a", func := "loop.example/g01377/laws.FnExactFirstHalf", spec := "fnExactFirstHalf", unfollowed := true, recurses := true, apart := false }
def FnExactFirstHalfSaid : Prop := fnExactFirstHalfRow.holds Try.pinned (OpenSpec.ofChange fnExactFirstHalfSpec)

/-- ITS FALSE NEIGHBOUR: 'it returns false'. Refute it at one input. -/
def fnExactFirstHalfWrong : ChangeSpec := { name := "fnExactFirstHalf", fn := fun _ => fun
  | [d] => { results := [.lit (.bool false)], args := [d] }
  | _ => none }
def FnExactFirstHalfWrongFalsely : Prop := fnExactFirstHalfRow.holds Try.pinned (OpenSpec.ofChange fnExactFirstHalfWrong)

/-- 'laws.FnExactCountHalves': WHATEVER THE INPUT: true; the input reads as it did. -/
def fnExactCountHalvesSpec : ChangeSpec := { name := "fnExactCountHalves", fn := fun _ => fun
  | [d] => { results := [.lit (.bool true)], args := [d] }
  | _ => none }
def fnExactCountHalvesRow : OpenClaim := { program := "ytkijcpbjjbhnhaa", sum := "4c63b8aae4c80585c1029806ee116e4eb8ef6a1d9de8a3c5063f0a407bd42b6a", func := "loop.example/g01377/laws.FnExactCountHalves", spec := "fnExactCountHalves", unfollowed := true, recurses := true, apart := false }
def FnExactCountHalvesSaid : Prop := fnExactCountHalvesRow.holds Try.pinned (OpenSpec.ofChange fnExactCountHalvesSpec)

/-- ITS FALSE NEIGHBOUR: 'it returns false'. Refute it at one input. -/
def fnExactCountHalvesWrong : ChangeSpec := { name := "fnExactCountHalves", fn := fun _ => fun
  | [d] => { results := [.lit (.bool false)], args := [d] }
  | _ => none }
def FnExactCountHalvesWrongFalsely : Prop := fnExactCountHalvesRow.holds Try.pinned (OpenSpec.ofChange fnExactCountHalvesWrong)

/-- 'laws.FnExactSumsReached': WHATEVER THE INPUT: true; the input reads as it did. -/
def fnExactSumsReachedSpec : ChangeSpec := { name := "fnExactSumsReached", fn := fun _ => fun
  | [d] => { results := [.lit (.bool true)], args := [d] }
  | _ => none }
def fnExactSumsReachedRow : OpenClaim := { program := "ytkijcpbjjbhnhaa", sum := "4c63b8aae4c80585c1029806ee116e4eb8ef6a1d9de8a3c5063f0a407bd42b6a", func := "loop.example/g01377/laws.FnExactSumsReached", spec := "fnExactSumsReached", recurses := true, apart := false }
def FnExactSumsReachedSaid : Prop := fnExactSumsReachedRow.holds Try.pinned (OpenSpec.ofChange fnExactSumsReachedSpec)

/-- ITS FALSE NEIGHBOUR: 'it returns false'. Refute it at one input. -/
def fnExactSumsReachedWrong : ChangeSpec := { name := "fnExactSumsReached", fn := fun _ => fun
  | [d] => { results := [.lit (.bool false)], args := [d] }
  | _ => none }
def FnExactSumsReachedWrongFalsely : Prop := fnExactSumsReachedRow.holds Try.pinned (OpenSpec.ofChange fnExactSumsReachedWrong)

/-- 'laws.FnExactPoorestShare': WHATEVER THE INPUT: true; the input reads as it did. -/
def fnExactPoorestShareSpec : ChangeSpec := { name := "fnExactPoorestShare", fn := fun _ => fun
  | [d1, d2] => { results := [.lit (.bool true)], args := [d1, d2] }
  | _ => none }
def fnExactPoorestShareRow : OpenClaim := { program := "ytkijcpbjjbhnhaa", sum := "4c63b8aae4c80585c1029806ee116e4eb8ef6a1d9de8a3c5063f0a407bd42b6a", func := "loop.example/g01377/laws.FnExactPoorestShare", spec := "fnExactPoorestShare", recurses := true, apart := false }
def FnExactPoorestShareSaid : Prop := fnExactPoorestShareRow.holds Try.pinned (OpenSpec.ofChange fnExactPoorestShareSpec)

/-- ITS FALSE NEIGHBOUR: 'it returns false'. Refute it at one input. -/
def fnExactPoorestShareWrong : ChangeSpec := { name := "fnExactPoorestShare", fn := fun _ => fun
  | [d1, d2] => { results := [.lit (.bool false)], args := [d1, d2] }
  | _ => none }
def FnExactPoorestShareWrongFalsely : Prop := fnExactPoorestShareRow.holds Try.pinned (OpenSpec.ofChange fnExactPoorestShareWrong)

/-- 'laws.FnExactBestTake': WHATEVER THE INPUT: true; the input reads as it did. -/
def fnExactBestTakeSpec : ChangeSpec := { name := "fnExactBestTake", fn := fun _ => fun
  | [d] => { results := [.lit (.bool true)], args := [d] }
  | _ => none }
def fnExactBestTakeRow : OpenClaim := { program := "ytkijcpbjjbhnhaa", sum := "4c63b8aae4c80585c1029806ee116e4eb8ef6a1d9de8a3c5063f0a407bd42b6a", func := "loop.example/g01377/laws.FnExactBestTake", spec := "fnExactBestTake", unfollowed := true, recurses := true, apart := false }
def FnExactBestTakeSaid : Prop := fnExactBestTakeRow.holds Try.pinned (OpenSpec.ofChange fnExactBestTakeSpec)

/-- ITS FALSE NEIGHBOUR: 'it returns false'. Refute it at one input. -/
def fnExactBestTakeWrong : ChangeSpec := { name := "fnExactBestTake", fn := fun _ => fun
  | [d] => { results := [.lit (.bool false)], args := [d] }
  | _ => none }
def FnExactBestTakeWrongFalsely : Prop := fnExactBestTakeRow.holds Try.pinned (OpenSpec.ofChange fnExactBestTakeWrong)

/-- 'laws.FnExactFirstTakes': WHATEVER THE INPUT: true; the input reads as it did. -/
def fnExactFirstTakesSpec : ChangeSpec := { name := "fnExactFirstTakes", fn := fun _ => fun
  | [d] => { results := [.lit (.bool true)], args := [d] }
  | _ => none }
def fnExactFirstTakesRow : OpenClaim := { program := "ytkijcpbjjbhnhaa", sum := "4c63b8aae4c80585c1029806ee116e4eb8ef6a1d9de8a3c5063f0a407bd42b6a", func := "loop.example/g01377/laws.FnExactFirstTakes", spec := "fnExactFirstTakes", unfollowed := true, recurses := true, apart := false }
def FnExactFirstTakesSaid : Prop := fnExactFirstTakesRow.holds Try.pinned (OpenSpec.ofChange fnExactFirstTakesSpec)

/-- ITS FALSE NEIGHBOUR: 'it returns false'. Refute it at one input. -/
def fnExactFirstTakesWrong : ChangeSpec := { name := "fnExactFirstTakes", fn := fun _ => fun
  | [d] => { results := [.lit (.bool false)], args := [d] }
  | _ => none }
def FnExactFirstTakesWrongFalsely : Prop := fnExactFirstTakesRow.holds Try.pinned (OpenSpec.ofChange fnExactFirstTakesWrong)

/-- 'laws.FnExactGreedyTake': WHATEVER THE INPUT: true; the input reads as it did. -/
def fnExactGreedyTakeSpec : ChangeSpec := { name := "fnExactGreedyTake", fn := fun _ => fun
  | [d] => { results := [.lit (.bool true)], args := [d] }
  | _ => none }
def fnExactGreedyTakeRow : OpenClaim := { program := "ytkijcpbjjbhnhaa", sum := "4c63b8aae4c80585c1029806ee116e4eb8ef6a1d9de8a3c5063f0a407bd42b6a", func := "loop.example/g01377/laws.FnExactGreedyTake", spec := "fnExactGreedyTake", unfollowed := true, recurses := true, apart := false }
def FnExactGreedyTakeSaid : Prop := fnExactGreedyTakeRow.holds Try.pinned (OpenSpec.ofChange fnExactGreedyTakeSpec)

/-- ITS FALSE NEIGHBOUR: 'it returns false'. Refute it at one input. -/
def fnExactGreedyTakeWrong : ChangeSpec := { name := "fnExactGreedyTake", fn := fun _ => fun
  | [d] => { results := [.lit (.bool false)], args := [d] }
  | _ => none }
def FnExactGreedyTakeWrongFalsely : Prop := fnExactGreedyTakeRow.holds Try.pinned (OpenSpec.ofChange fnExactGreedyTakeWrong)

/-- 'laws.FnExactBitesToEat': WHATEVER THE INPUT: true; the input reads as it did. -/
def fnExactBitesToEatSpec : ChangeSpec := { name := "fnExactBitesToEat", fn := fun _ => fun
  | [d1, d2] => { results := [.lit (.bool true)], args := [d1, d2] }
  | _ => none }
def fnExactBitesToEatRow : OpenClaim := { program := "ytkijcpbjjbhnhaa", sum := "4c63b8aae4c80585c1029806ee116e4eb8ef6a1d9de8a3c5063f0a407bd42b6a", func := "loop.example/g01377/laws.FnExactBitesToEat", spec := "fnExactBitesToEat", apart := false }
def FnExactBitesToEatSaid : Prop := fnExactBitesToEatRow.holds Try.pinned (OpenSpec.ofChange fnExactBitesToEatSpec)

/-- ITS FALSE NEIGHBOUR: 'it returns false'. Refute it at one input. -/
def fnExactBitesToEatWrong : ChangeSpec := { name := "fnExactBitesToEat", fn := fun _ => fun
  | [d1, d2] => { results := [.lit (.bool false)], args := [d1, d2] }
  | _ => none }
def FnExactBitesToEatWrongFalsely : Prop := fnExactBitesToEatRow.holds Try.pinned (OpenSpec.ofChange fnExactBitesToEatWrong)

/-- 'laws.FnExactLeftAfterBites': WHATEVER THE INPUT: true; the input reads as it did. -/
def fnExactLeftAfterBitesSpec : ChangeSpec := { name := "fnExactLeftAfterBites", fn := fun _ => fun
  | [d1, d2, d3] => { results := [.lit (.bool true)], args := [d1, d2, d3] }
  | _ => none }
def fnExactLeftAfterBitesRow : OpenClaim := { program := "ytkijcpbjjbhnhaa", sum := "4c63b8aae4c80585c1029806ee116e4eb8ef6a1d9de8a3c5063f0a407bd42b6a", func := "loop.example/g01377/laws.FnExactLeftAfterBites", spec := "fnExactLeftAfterBites", apart := false }
def FnExactLeftAfterBitesSaid : Prop := fnExactLeftAfterBitesRow.holds Try.pinned (OpenSpec.ofChange fnExactLeftAfterBitesSpec)

/-- ITS FALSE NEIGHBOUR: 'it returns false'. Refute it at one input. -/
def fnExactLeftAfterBitesWrong : ChangeSpec := { name := "fnExactLeftAfterBites", fn := fun _ => fun
  | [d1, d2, d3] => { results := [.lit (.bool false)], args := [d1, d2, d3] }
  | _ => none }
def FnExactLeftAfterBitesWrongFalsely : Prop := fnExactLeftAfterBitesRow.holds Try.pinned (OpenSpec.ofChange fnExactLeftAfterBitesWrong)

/-- 'laws.FnExactAreSlabs': WHATEVER THE INPUT: true; the input reads as it did. -/
def fnExactAreSlabsSpec : ChangeSpec := { name := "fnExactAreSlabs", fn := fun _ => fun
  | [d] => { results := [.lit (.bool true)], args := [d] }
  | _ => none }
def fnExactAreSlabsRow : OpenClaim := { program := "ytkijcpbjjbhnhaa", sum := "4c63b8aae4c80585c1029806ee116e4eb8ef6a1d9de8a3c5063f0a407bd42b6a", func := "loop.example/g01377/laws.FnExactAreSlabs", spec := "fnExactAreSlabs", apart := false }
def FnExactAreSlabsSaid : Prop := fnExactAreSlabsRow.holds Try.pinned (OpenSpec.ofChange fnExactAreSlabsSpec)

/-- ITS FALSE NEIGHBOUR: 'it returns false'. Refute it at one input. -/
def fnExactAreSlabsWrong : ChangeSpec := { name := "fnExactAreSlabs", fn := fun _ => fun
  | [d] => { results := [.lit (.bool false)], args := [d] }
  | _ => none }
def FnExactAreSlabsWrongFalsely : Prop := fnExactAreSlabsRow.holds Try.pinned (OpenSpec.ofChange fnExactAreSlabsWrong)

/- THE SECOND FORM. 'bulk': how many values and letters a reading holds, each counted each time it is reached (what is shared counts as often as it is met; a slice's spare places count too). A statement '..UptoSaid' is the law's where the arguments, and the package variables that the reading takes, are together of bulk at most 1048576: NARROWER than '..Said'. Prove '..Said' where nothing that the law and all that it calls make is longer than what came in: it says more and counts as full. Else prove '..UptoSaid'. A law counts once. -/
mutual
def uptoBulk {H : Type} : DataW H → Nat
  | .lit (.string bytes) => bytes.length + 1
  | .lit _ => 1
  | .nil => 1
  | .ptr d => uptoBulk d + 1
  | .slice elems spare => uptoBulkAll elems + uptoBulkAll spare + 1
  | .agg parts => uptoBulkAll parts + 1
  | .iface _ d => uptoBulk d + 1
  | .map entries => uptoBulkEntries entries + 1
  | .held _ => 1
def uptoBulkAll {H : Type} : List (DataW H) → Nat
  | [] => 0
  | d :: r => uptoBulk d + uptoBulkAll r
def uptoBulkEntries {H : Type} : List (Lit × DataW H) → Nat
  | [] => 0
  | x :: r => uptoBulkEntry x + uptoBulkEntries r
def uptoBulkEntry {H : Type} : Lit × DataW H → Nat
  | (.string bytes, d) => bytes.length + uptoBulk d + 1
  | (_, d) => uptoBulk d + 1
 end
def uptoSmall : (H : Type) → List (DataW H) → Bool := fun _ ds => decide (uptoBulkAll ds ≤ 1048576)
def OpenSpec.upto (s : _root_.Go.ChangeSpec) : _root_.Go.OpenSpec := { _root_.Go.OpenSpec.ofChange s with cond := some uptoSmall }

/-- 'laws.FnExactAreWeights', WHERE WHAT IT READS IS OF BULK AT MOST 1048576: true; the input reads as it did. -/
def fnExactAreWeightsUptoRow : OpenClaim := { program := "ytkijcpbjjbhnhaa", sum := "4c63b8aae4c80585c1029806ee116e4eb8ef6a1d9de8a3c5063f0a407bd42b6a", func := "loop.example/g01377/laws.FnExactAreWeights", spec := "fnExactAreWeights", apart := false, narrowed := true }
def FnExactAreWeightsUptoSaid : Prop := fnExactAreWeightsUptoRow.holds Try.pinned (OpenSpec.upto fnExactAreWeightsSpec)

/-- 'laws.FnExactLeastDifference', WHERE WHAT IT READS IS OF BULK AT MOST 1048576: true; the input reads as it did. -/
def fnExactLeastDifferenceUptoRow : OpenClaim := { program := "ytkijcpbjjbhnhaa", sum := "4c63b8aae4c80585c1029806ee116e4eb8ef6a1d9de8a3c5063f0a407bd42b6a", func := "loop.example/g01377/laws.FnExactLeastDifference", spec := "fnExactLeastDifference", unfollowed := true, recurses := true, apart := false, narrowed := true }
def FnExactLeastDifferenceUptoSaid : Prop := fnExactLeastDifferenceUptoRow.holds Try.pinned (OpenSpec.upto fnExactLeastDifferenceSpec)

/-- 'laws.FnExactFirstHalf', WHERE WHAT IT READS IS OF BULK AT MOST 1048576: true; the input reads as it did. -/
def fnExactFirstHalfUptoRow : OpenClaim := { program := "ytkijcpbjjbhnhaa", sum := "4c63b8aae4c80585c1029806ee116e4eb8ef6a1d9de8a3c5063f0a407bd42b6a", func := "loop.example/g01377/laws.FnExactFirstHalf", spec := "fnExactFirstHalf", unfollowed := true, recurses := true, apart := false, narrowed := true }
def FnExactFirstHalfUptoSaid : Prop := fnExactFirstHalfUptoRow.holds Try.pinned (OpenSpec.upto fnExactFirstHalfSpec)

/-- 'laws.FnExactCountHalves', WHERE WHAT IT READS IS OF BULK AT MOST 1048576: true; the input reads as it did. -/
def fnExactCountHalvesUptoRow : OpenClaim := { program := "ytkijcpbjjbhnhaa", sum := "4c63b8aae4c80585c1029806ee116e4eb8ef6a1d9de8a3c5063f0a407bd42b6a", func := "loop.example/g01377/laws.FnExactCountHalves", spec := "fnExactCountHalves", unfollowed := true, recurses := true, apart := false, narrowed := true }
def FnExactCountHalvesUptoSaid : Prop := fnExactCountHalvesUptoRow.holds Try.pinned (OpenSpec.upto fnExactCountHalvesSpec)

/-- 'laws.FnExactSumsReached', WHERE WHAT IT READS IS OF BULK AT MOST 1048576: true; the input reads as it did. -/
def fnExactSumsReachedUptoRow : OpenClaim := { program := "ytkijcpbjjbhnhaa", sum := "4c63b8aae4c80585c1029806ee116e4eb8ef6a1d9de8a3c5063f0a407bd42b6a", func := "loop.example/g01377/laws.FnExactSumsReached", spec := "fnExactSumsReached", recurses := true, apart := false, narrowed := true }
def FnExactSumsReachedUptoSaid : Prop := fnExactSumsReachedUptoRow.holds Try.pinned (OpenSpec.upto fnExactSumsReachedSpec)

/-- 'laws.FnExactPoorestShare', WHERE WHAT IT READS IS OF BULK AT MOST 1048576: true; the input reads as it did. -/
def fnExactPoorestShareUptoRow : OpenClaim := { program := "ytkijcpbjjbhnhaa", sum := "4c63b8aae4c80585c1029806ee116e4eb8ef6a1d9de8a3c5063f0a407bd42b6a", func := "loop.example/g01377/laws.FnExactPoorestShare", spec := "fnExactPoorestShare", recurses := true, apart := false, narrowed := true }
def FnExactPoorestShareUptoSaid : Prop := fnExactPoorestShareUptoRow.holds Try.pinned (OpenSpec.upto fnExactPoorestShareSpec)

/-- 'laws.FnExactBestTake', WHERE WHAT IT READS IS OF BULK AT MOST 1048576: true; the input reads as it did. -/
def fnExactBestTakeUptoRow : OpenClaim := { program := "ytkijcpbjjbhnhaa", sum := "4c63b8aae4c80585c1029806ee116e4eb8ef6a1d9de8a3c5063f0a407bd42b6a", func := "loop.example/g01377/laws.FnExactBestTake", spec := "fnExactBestTake", unfollowed := true, recurses := true, apart := false, narrowed := true }
def FnExactBestTakeUptoSaid : Prop := fnExactBestTakeUptoRow.holds Try.pinned (OpenSpec.upto fnExactBestTakeSpec)

/-- 'laws.FnExactFirstTakes', WHERE WHAT IT READS IS OF BULK AT MOST 1048576: true; the input reads as it did. -/
def fnExactFirstTakesUptoRow : OpenClaim := { program := "ytkijcpbjjbhnhaa", sum := "4c63b8aae4c80585c1029806ee116e4eb8ef6a1d9de8a3c5063f0a407bd42b6a", func := "loop.example/g01377/laws.FnExactFirstTakes", spec := "fnExactFirstTakes", unfollowed := true, recurses := true, apart := false, narrowed := true }
def FnExactFirstTakesUptoSaid : Prop := fnExactFirstTakesUptoRow.holds Try.pinned (OpenSpec.upto fnExactFirstTakesSpec)

/-- 'laws.FnExactGreedyTake', WHERE WHAT IT READS IS OF BULK AT MOST 1048576: true; the input reads as it did. -/
def fnExactGreedyTakeUptoRow : OpenClaim := { program := "ytkijcpbjjbhnhaa", sum := "4c63b8aae4c80585c1029806ee116e4eb8ef6a1d9de8a3c5063f0a407bd42b6a", func := "loop.example/g01377/laws.FnExactGreedyTake", spec := "fnExactGreedyTake", unfollowed := true, recurses := true, apart := false, narrowed := true }
def FnExactGreedyTakeUptoSaid : Prop := fnExactGreedyTakeUptoRow.holds Try.pinned (OpenSpec.upto fnExactGreedyTakeSpec)

/-- 'laws.FnExactBitesToEat', WHERE WHAT IT READS IS OF BULK AT MOST 1048576: true; the input reads as it did. -/
def fnExactBitesToEatUptoRow : OpenClaim := { program := "ytkijcpbjjbhnhaa", sum := "4c63b8aae4c80585c1029806ee116e4eb8ef6a1d9de8a3c5063f0a407bd42b6a", func := "loop.example/g01377/laws.FnExactBitesToEat", spec := "fnExactBitesToEat", apart := false, narrowed := true }
def FnExactBitesToEatUptoSaid : Prop := fnExactBitesToEatUptoRow.holds Try.pinned (OpenSpec.upto fnExactBitesToEatSpec)

/-- 'laws.FnExactLeftAfterBites', WHERE WHAT IT READS IS OF BULK AT MOST 1048576: true; the input reads as it did. -/
def fnExactLeftAfterBitesUptoRow : OpenClaim := { program := "ytkijcpbjjbhnhaa", sum := "4c63b8aae4c80585c1029806ee116e4eb8ef6a1d9de8a3c5063f0a407bd42b6a", func := "loop.example/g01377/laws.FnExactLeftAfterBites", spec := "fnExactLeftAfterBites", apart := false, narrowed := true }
def FnExactLeftAfterBitesUptoSaid : Prop := fnExactLeftAfterBitesUptoRow.holds Try.pinned (OpenSpec.upto fnExactLeftAfterBitesSpec)

/-- 'laws.FnExactAreSlabs', WHERE WHAT IT READS IS OF BULK AT MOST 1048576: true; the input reads as it did. -/
def fnExactAreSlabsUptoRow : OpenClaim := { program := "ytkijcpbjjbhnhaa", sum := "4c63b8aae4c80585c1029806ee116e4eb8ef6a1d9de8a3c5063f0a407bd42b6a", func := "loop.example/g01377/laws.FnExactAreSlabs", spec := "fnExactAreSlabs", apart := false, narrowed := true }
def FnExactAreSlabsUptoSaid : Prop := fnExactAreSlabsUptoRow.holds Try.pinned (OpenSpec.upto fnExactAreSlabsSpec)

end Rows
end Go.Proofs.Ytkijcpbjjbhnhaa
