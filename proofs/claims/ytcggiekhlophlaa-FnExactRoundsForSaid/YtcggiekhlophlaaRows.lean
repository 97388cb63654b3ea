/-
  No cell of these rows narrows 'for every input' (looked for: loops, veiled, ifaces, maps, wideKeys, modest, calm, conditions, laid).
  DERIVED. THE GIVEN ROWS OF THIS SEAT. 12 by the template 'for every input the law returns true; each argument reads behind the call as it read before'; 0 by the template 'total and deterministic' (their statements: YtcggiekhlophlaaTotals.lean).
  GIVEN WITH THE SEED: the statements are not yours to turn. If you find one false, say at which input.
  Laid BY PROGRAM, IN A SANDBOX (cutbox-rows.mjs): the forced cells as the released guide's own fill.sh prints them over the translation 722eba9551303745… (all of the seat's roots in one cut). By AI agents, Wed Nov 11 2026. No macro, syntax, notation, axiom, sorry.
-/
import Derived.Test.YtcggiekhlophlaaChecked
import GoSem.Claim
import GoSem.ClaimJoined
import GoSem.ClaimMapViews
import Derived.JoinedTies
import Derived.KernelRfl
namespace Go.Proofs.Ytcggiekhlophlaa
/- THE CELL 'sum', in the pinned program and in every row, IS THE sha256 OF THE DUMP (.gsa) THAT YtcggiekhlophlaaProg.lean LOADS. Nothing in Lean hashes anything: it is a label: what it is worth is what the hold of that sum in a sandbox is worth. -/
noncomputable def Try.pinned : Pinned := { name := "ytcggiekhlophlaa", sum := "722eba95513037459a372424f2cb2b9a94946999bbc41dd518901e2eecc18e57", checked := Try.checked }
namespace Rows
def none {H : Type} : Left H := { results := [], args := [] }

/-- 'laws.FnExactTastersFor': WHATEVER THE INPUT: true; the input reads as it did. -/
def fnExactTastersForSpec : ChangeSpec := { name := "fnExactTastersFor", fn := fun _ => fun
  | [d1, d2] => { results := [.lit (.bool true)], args := [d1, d2] }
  | _ => none }
def fnExactTastersForRow : OpenClaim := { program := "ytcggiekhlophlaa", sum := "722eba95513037459a372424f2cb2b9a94946999bbc41dd518901e2eecc18e57", func := "loop.example/g01377/laws.FnExactTastersFor", spec := "fnExactTastersFor", apart := false }
def FnExactTastersForSaid : Prop := fnExactTastersForRow.holds Try.pinned (OpenSpec.ofChange fnExactTastersForSpec)

/-- ITS FALSE NEIGHBOUR: 'it returns false'. Refute it at one input. -/
def fnExactTastersForWrong : ChangeSpec := { name := "fnExactTastersFor", fn := fun _ => fun
  | [d1, d2] => { results := [.lit (.bool false)], args := [d1, d2] }
  | _ => none }
def FnExactTastersForWrongFalsely : Prop := fnExactTastersForRow.holds Try.pinned (OpenSpec.ofChange fnExactTastersForWrong)

/-- 'laws.FnExactRoundsFor': WHATEVER THE INPUT: true; the input reads as it did. -/
def fnExactRoundsForSpec : ChangeSpec := { name := "fnExactRoundsFor", fn := fun _ => fun
  | [d1, d2] => { results := [.lit (.bool true)], args := [d1, d2] }
  | _ => none }
def fnExactRoundsForRow : OpenClaim := { program := "ytcggiekhlophlaa", sum := "722eba95513037459a372424f2cb2b9a94946999bbc41dd518901e2eecc18e57", func := "loop.example/g01377/laws.FnExactRoundsFor", spec := "fnExactRoundsFor", unfollowed := true, recurses := true, apart := false }
def FnExactRoundsForSaid : Prop := fnExactRoundsForRow.holds Try.pinned (OpenSpec.ofChange fnExactRoundsForSpec)

/-- ITS FALSE NEIGHBOUR: 'it returns false'. Refute it at one input. -/
def fnExactRoundsForWrong : ChangeSpec := { name := "fnExactRoundsFor", fn := fun _ => fun
  | [d1, d2] => { results := [.lit (.bool false)], args := [d1, d2] }
  | _ => none }
def FnExactRoundsForWrongFalsely : Prop := fnExactRoundsForRow.holds Try.pinned (OpenSpec.ofChange fnExactRoundsForWrong)

/-- 'laws.FnExactMostPralines': WHATEVER THE INPUT: true; the input reads as it did. -/
def fnExactMostPralinesSpec : ChangeSpec := { name := "fnExactMostPralines", fn := fun _ => fun
  | [d1, d2] => { results := [.lit (.bool true)], args := [d1, d2] }
  | _ => none }
def fnExactMostPralinesRow : OpenClaim := { program := "ytcggiekhlophlaa", sum := "722eba95513037459a372424f2cb2b9a94946999bbc41dd518901e2eecc18e57", func := "loop.example/g01377/laws.FnExactMostPralines", spec := "fnExactMostPralines", apart := false }
def FnExactMostPralinesSaid : Prop := fnExactMostPralinesRow.holds Try.pinned (OpenSpec.ofChange fnExactMostPralinesSpec)

/-- ITS FALSE NEIGHBOUR: 'it returns false'. Refute it at one input. -/
def fnExactMostPralinesWrong : ChangeSpec := { name := "fnExactMostPralines", fn := fun _ => fun
  | [d1, d2] => { results := [.lit (.bool false)], args := [d1, d2] }
  | _ => none }
def FnExactMostPralinesWrongFalsely : Prop := fnExactMostPralinesRow.holds Try.pinned (OpenSpec.ofChange fnExactMostPralinesWrong)

/-- 'laws.FnExactCodeOfPraline': WHATEVER THE INPUT: true; the input reads as it did. -/
def fnExactCodeOfPralineSpec : ChangeSpec := { name := "fnExactCodeOfPraline", fn := fun _ => fun
  | [d1, d2, d3, d4] => { results := [.lit (.bool true)], args := [d1, d2, d3, d4] }
  | _ => none }
def fnExactCodeOfPralineRow : OpenClaim := { program := "ytcggiekhlophlaa", sum := "722eba95513037459a372424f2cb2b9a94946999bbc41dd518901e2eecc18e57", func := "loop.example/g01377/laws.FnExactCodeOfPraline", spec := "fnExactCodeOfPraline", apart := false }
def FnExactCodeOfPralineSaid : Prop := fnExactCodeOfPralineRow.holds Try.pinned (OpenSpec.ofChange fnExactCodeOfPralineSpec)

/-- ITS FALSE NEIGHBOUR: 'it returns false'. Refute it at one input. -/
def fnExactCodeOfPralineWrong : ChangeSpec := { name := "fnExactCodeOfPraline", fn := fun _ => fun
  | [d1, d2, d3, d4] => { results := [.lit (.bool false)], args := [d1, d2, d3, d4] }
  | _ => none }
def FnExactCodeOfPralineWrongFalsely : Prop := fnExactCodeOfPralineRow.holds Try.pinned (OpenSpec.ofChange fnExactCodeOfPralineWrong)

/-- 'laws.FnExactPralineOfCode': WHATEVER THE INPUT: true; the input reads as it did. -/
def fnExactPralineOfCodeSpec : ChangeSpec := { name := "fnExactPralineOfCode", fn := fun _ => fun
  | [d1, d2, d3, d4] => { results := [.lit (.bool true)], args := [d1, d2, d3, d4] }
  | _ => none }
def fnExactPralineOfCodeRow : OpenClaim := { program := "ytcggiekhlophlaa", sum := "722eba95513037459a372424f2cb2b9a94946999bbc41dd518901e2eecc18e57", func := "loop.example/g01377/laws.FnExactPralineOfCode", spec := "fnExactPralineOfCode", apart := false }
def FnExactPralineOfCodeSaid : Prop := fnExactPralineOfCodeRow.holds Try.pinned (OpenSpec.ofChange fnExactPralineOfCodeSpec)

/-- ITS FALSE NEIGHBOUR: 'it returns false'. Refute it at one input. -/
def fnExactPralineOfCodeWrong : ChangeSpec := { name := "fnExactPralineOfCode", fn := fun _ => fun
  | [d1, d2, d3, d4] => { results := [.lit (.bool false)], args := [d1, d2, d3, d4] }
  | _ => none }
def FnExactPralineOfCodeWrongFalsely : Prop := fnExactPralineOfCodeRow.holds Try.pinned (OpenSpec.ofChange fnExactPralineOfCodeWrong)

/-- 'laws.FnExactTastedBy': WHATEVER THE INPUT: true; the input reads as it did. -/
def fnExactTastedBySpec : ChangeSpec := { name := "fnExactTastedBy", fn := fun _ => fun
  | [d1, d2, d3, d4, d5] => { results := [.lit (.bool true)], args := [d1, d2, d3, d4, d5] }
  | _ => none }
def fnExactTastedByRow : OpenClaim := { program := "ytcggiekhlophlaa", sum := "722eba95513037459a372424f2cb2b9a94946999bbc41dd518901e2eecc18e57", func := "loop.example/g01377/laws.FnExactTastedBy", spec := "fnExactTastedBy", apart := false }
def FnExactTastedBySaid : Prop := fnExactTastedByRow.holds Try.pinned (OpenSpec.ofChange fnExactTastedBySpec)

/-- ITS FALSE NEIGHBOUR: 'it returns false'. Refute it at one input. -/
def fnExactTastedByWrong : ChangeSpec := { name := "fnExactTastedBy", fn := fun _ => fun
  | [d1, d2, d3, d4, d5] => { results := [.lit (.bool false)], args := [d1, d2, d3, d4, d5] }
  | _ => none }
def FnExactTastedByWrongFalsely : Prop := fnExactTastedByRow.holds Try.pinned (OpenSpec.ofChange fnExactTastedByWrong)

/-- 'laws.FnExactBitterRounds': WHATEVER THE INPUT: true; the input reads as it did. -/
def fnExactBitterRoundsSpec : ChangeSpec := { name := "fnExactBitterRounds", fn := fun _ => fun
  | [d1, d2, d3] => { results := [.lit (.bool true)], args := [d1, d2, d3] }
  | _ => none }
def fnExactBitterRoundsRow : OpenClaim := { program := "ytcggiekhlophlaa", sum := "722eba95513037459a372424f2cb2b9a94946999bbc41dd518901e2eecc18e57", func := "loop.example/g01377/laws.FnExactBitterRounds", spec := "fnExactBitterRounds", apart := false }
def FnExactBitterRoundsSaid : Prop := fnExactBitterRoundsRow.holds Try.pinned (OpenSpec.ofChange fnExactBitterRoundsSpec)

/-- ITS FALSE NEIGHBOUR: 'it returns false'. Refute it at one input. -/
def fnExactBitterRoundsWrong : ChangeSpec := { name := "fnExactBitterRounds", fn := fun _ => fun
  | [d1, d2, d3] => { results := [.lit (.bool false)], args := [d1, d2, d3] }
  | _ => none }
def FnExactBitterRoundsWrongFalsely : Prop := fnExactBitterRoundsRow.holds Try.pinned (OpenSpec.ofChange fnExactBitterRoundsWrong)

/-- 'laws.FnExactWeighingsFor': WHATEVER THE INPUT: true; the input reads as it did. -/
def fnExactWeighingsForSpec : ChangeSpec := { name := "fnExactWeighingsFor", fn := fun _ => fun
  | [d] => { results := [.lit (.bool true)], args := [d] }
  | _ => none }
def fnExactWeighingsForRow : OpenClaim := { program := "ytcggiekhlophlaa", sum := "722eba95513037459a372424f2cb2b9a94946999bbc41dd518901e2eecc18e57", func := "loop.example/g01377/laws.FnExactWeighingsFor", spec := "fnExactWeighingsFor", apart := false }
def FnExactWeighingsForSaid : Prop := fnExactWeighingsForRow.holds Try.pinned (OpenSpec.ofChange fnExactWeighingsForSpec)

/-- ITS FALSE NEIGHBOUR: 'it returns false'. Refute it at one input. -/
def fnExactWeighingsForWrong : ChangeSpec := { name := "fnExactWeighingsFor", fn := fun _ => fun
  | [d] => { results := [.lit (.bool false)], args := [d] }
  | _ => none }
def FnExactWeighingsForWrongFalsely : Prop := fnExactWeighingsForRow.holds Try.pinned (OpenSpec.ofChange fnExactWeighingsForWrong)

/-- 'laws.FnExactWeighGroups': WHATEVER THE INPUT: true; the input reads as it did. -/
def fnExactWeighGroupsSpec : ChangeSpec := { name := "fnExactWeighGroups", fn := fun _ => fun
  | [d] => { results := [.lit (.bool true)], args := [d] }
  | _ => none }
def fnExactWeighGroupsRow : OpenClaim := { program := "ytcggiekhlophlaa", sum := "722eba95513037459a372424f2cb2b9a94946999bbc41dd518901e2eecc18e57", func := "loop.example/g01377/laws.FnExactWeighGroups", spec := "fnExactWeighGroups", apart := false }
def FnExactWeighGroupsSaid : Prop := fnExactWeighGroupsRow.holds Try.pinned (OpenSpec.ofChange fnExactWeighGroupsSpec)

/-- ITS FALSE NEIGHBOUR: 'it returns false'. Refute it at one input. -/
def fnExactWeighGroupsWrong : ChangeSpec := { name := "fnExactWeighGroups", fn := fun _ => fun
  | [d] => { results := [.lit (.bool false)], args := [d] }
  | _ => none }
def FnExactWeighGroupsWrongFalsely : Prop := fnExactWeighGroupsRow.holds Try.pinned (OpenSpec.ofChange fnExactWeighGroupsWrong)

/-- 'laws.FnExactSuspectsAfter': WHATEVER THE INPUT: true; the input reads as it did. -/
def fnExactSuspectsAfterSpec : ChangeSpec := { name := "fnExactSuspectsAfter", fn := fun _ => fun
  | [d1, d2] => { results := [.lit (.bool true)], args := [d1, d2] }
  | _ => none }
def fnExactSuspectsAfterRow : OpenClaim := { program := "ytcggiekhlophlaa", sum := "722eba95513037459a372424f2cb2b9a94946999bbc41dd518901e2eecc18e57", func := "loop.example/g01377/laws.FnExactSuspectsAfter", spec := "fnExactSuspectsAfter", apart := false }
def FnExactSuspectsAfterSaid : Prop := fnExactSuspectsAfterRow.holds Try.pinned (OpenSpec.ofChange fnExactSuspectsAfterSpec)

/-- ITS FALSE NEIGHBOUR: 'it returns false'. Refute it at one input. -/
def fnExactSuspectsAfterWrong : ChangeSpec := { name := "fnExactSuspectsAfter", fn := fun _ => fun
  | [d1, d2] => { results := [.lit (.bool false)], args := [d1, d2] }
  | _ => none }
def FnExactSuspectsAfterWrongFalsely : Prop := fnExactSuspectsAfterRow.holds Try.pinned (OpenSpec.ofChange fnExactSuspectsAfterWrong)

/-- 'laws.FnExactResultsFor': WHATEVER THE INPUT: true; the input reads as it did. -/
def fnExactResultsForSpec : ChangeSpec := { name := "fnExactResultsFor", fn := fun _ => fun
  | [d1, d2] => { results := [.lit (.bool true)], args := [d1, d2] }
  | _ => none }
def fnExactResultsForRow : OpenClaim := { program := "ytcggiekhlophlaa", sum := "722eba95513037459a372424f2cb2b9a94946999bbc41dd518901e2eecc18e57", func := "loop.example/g01377/laws.FnExactResultsFor", spec := "fnExactResultsFor", apart := false }
def FnExactResultsForSaid : Prop := fnExactResultsForRow.holds Try.pinned (OpenSpec.ofChange fnExactResultsForSpec)

/-- ITS FALSE NEIGHBOUR: 'it returns false'. Refute it at one input. -/
def fnExactResultsForWrong : ChangeSpec := { name := "fnExactResultsFor", fn := fun _ => fun
  | [d1, d2] => { results := [.lit (.bool false)], args := [d1, d2] }
  | _ => none }
def FnExactResultsForWrongFalsely : Prop := fnExactResultsForRow.holds Try.pinned (OpenSpec.ofChange fnExactResultsForWrong)

/-- 'laws.FnExactLongestResults': WHATEVER THE INPUT: true; the input reads as it did. -/
def fnExactLongestResultsSpec : ChangeSpec := { name := "fnExactLongestResults", fn := fun _ => fun
  | [d] => { results := [.lit (.bool true)], args := [d] }
  | _ => none }
def fnExactLongestResultsRow : OpenClaim := { program := "ytcggiekhlophlaa", sum := "722eba95513037459a372424f2cb2b9a94946999bbc41dd518901e2eecc18e57", func := "loop.example/g01377/laws.FnExactLongestResults", spec := "fnExactLongestResults", recurses := true, apart := false }
def FnExactLongestResultsSaid : Prop := fnExactLongestResultsRow.holds Try.pinned (OpenSpec.ofChange fnExactLongestResultsSpec)

/-- ITS FALSE NEIGHBOUR: 'it returns false'. Refute it at one input. -/
def fnExactLongestResultsWrong : ChangeSpec := { name := "fnExactLongestResults", fn := fun _ => fun
  | [d] => { results := [.lit (.bool false)], args := [d] }
  | _ => none }
def FnExactLongestResultsWrongFalsely : Prop := fnExactLongestResultsRow.holds Try.pinned (OpenSpec.ofChange fnExactLongestResultsWrong)

/- THE SECOND FORM. 'bulk': how many values and letters a reading holds, each counted each time it is reached (what is shared counts as often as it is met; a slice's spare places count too). A statement '..UptoSaid' is the law's where the arguments, and the package variables that the reading takes, are together of bulk at most 1048576: NARROWER than '..Said'. Prove '..Said' where nothing that the law and all that it calls make is longer than what came in: it says more and counts as full. Else prove '..UptoSaid'. A law counts once. -/
mutual
def uptoBulk {H : Type} : DataW H → Nat
  | .lit (.string bytes) => bytes.length + 1
  | .lit _ => 1
  | .nil => 1
  | .ptr d => uptoBulk d + 1
  | .slice elems spare => uptoBulkAll elems + uptoBulkAll spare + 1
  | .agg parts => uptoBulkAll parts + 1
  | .iface _ d => uptoBulk d + 1
  | .map entries => uptoBulkEntries entries + 1
  | .held _ => 1
def uptoBulkAll {H : Type} : List (DataW H) → Nat
  | [] => 0
  | d :: r => uptoBulk d + uptoBulkAll r
def uptoBulkEntries {H : Type} : List (Lit × DataW H) → Nat
  | [] => 0
  | x :: r => uptoBulkEntry x + uptoBulkEntries r
def uptoBulkEntry {H : Type} : Lit × DataW H → Nat
  | (.string bytes, d) => bytes.length + uptoBulk d + 1
  | (_, d) => uptoBulk d + 1
 end
def uptoSmall : (H : Type) → List (DataW H) → Bool := fun _ ds => decide (uptoBulkAll ds ≤ 1048576)
def OpenSpec.upto (s : _root_.Go.ChangeSpec) : _root_.Go.OpenSpec := { _root_.Go.OpenSpec.ofChange s with cond := some uptoSmall }

/-- 'laws.FnExactTastersFor', WHERE WHAT IT READS IS OF BULK AT MOST 1048576: true; the input reads as it did. -/
def fnExactTastersForUptoRow : OpenClaim := { program := "ytcggiekhlophlaa", sum := "722eba95513037459a372424f2cb2b9a94946999bbc41dd518901e2eecc18e57", func := "loop.example/g01377/laws.FnExactTastersFor", spec := "fnExactTastersFor", apart := false, narrowed := true }
def FnExactTastersForUptoSaid : Prop := fnExactTastersForUptoRow.holds Try.pinned (OpenSpec.upto fnExactTastersForSpec)

/-- 'laws.FnExactRoundsFor', WHERE WHAT IT READS IS OF BULK AT MOST 1048576: true; the input reads as it did. -/
def fnExactRoundsForUptoRow : OpenClaim := { program := "ytcggiekhlophlaa", sum := "722eba95513037459a372424f2cb2b9a94946999bbc41dd518901e2eecc18e57", func := "loop.example/g01377/laws.FnExactRoundsFor", spec := "fnExactRoundsFor", unfollowed := true, recurses := true, apart := false, narrowed := true }
def FnExactRoundsForUptoSaid : Prop := fnExactRoundsForUptoRow.holds Try.pinned (OpenSpec.upto fnExactRoundsForSpec)

/-- 'laws.FnExactMostPralines', WHERE WHAT IT READS IS OF BULK AT MOST 1048576: true; the input reads as it did. -/
def fnExactMostPralinesUptoRow : OpenClaim := { program := "ytcggiekhlophlaa", sum := "722eba95513037459a372424f2cb2b9a94946999bbc41dd518901e2eecc18e57", func := "loop.example/g01377/laws.FnExactMostPralines", spec := "fnExactMostPralines", apart := false, narrowed := true }
def FnExactMostPralinesUptoSaid : Prop := fnExactMostPralinesUptoRow.holds Try.pinned (OpenSpec.upto fnExactMostPralinesSpec)

/-- 'laws.FnExactCodeOfPraline', WHERE WHAT IT READS IS OF BULK AT MOST 1048576: true; the input reads as it did. -/
def fnExactCodeOfPralineUptoRow : OpenClaim := { program := "ytcggiekhlophlaa", sum := "722eba95513037459a372424f2cb2b9a94946999bbc41dd518901e2eecc18e57", func := "loop.example/g01377/laws.FnExactCodeOfPraline", spec := "fnExactCodeOfPraline", apart := false, narrowed := true }
def FnExactCodeOfPralineUptoSaid : Prop := fnExactCodeOfPralineUptoRow.holds Try.pinned (OpenSpec.upto fnExactCodeOfPralineSpec)

/-- 'laws.FnExactPralineOfCode', WHERE WHAT IT READS IS OF BULK AT MOST 1048576: true; the input reads as it did. -/
def fnExactPralineOfCodeUptoRow : OpenClaim := { program := "ytcggiekhlophlaa", sum := "722eba95513037459a372424f2cb2b9a94946999bbc41dd518901e2eecc18e57", func := "loop.example/g01377/laws.FnExactPralineOfCode", spec := "fnExactPralineOfCode", apart := false, narrowed := true }
def FnExactPralineOfCodeUptoSaid : Prop := fnExactPralineOfCodeUptoRow.holds Try.pinned (OpenSpec.upto fnExactPralineOfCodeSpec)

/-- 'laws.FnExactTastedBy', WHERE WHAT IT READS IS OF BULK AT MOST 1048576: true; the input reads as it did. -/
def fnExactTastedByUptoRow : OpenClaim := { program := "ytcggiekhlophlaa", sum := "722eba95513037459a372424f2cb2b9a94946999bbc41dd518901e2eecc18e57", func := "loop.example/g01377/laws.FnExactTastedBy", spec := "fnExactTastedBy", apart := false, narrowed := true }
def FnExactTastedByUptoSaid : Prop := fnExactTastedByUptoRow.holds Try.pinned (OpenSpec.upto fnExactTastedBySpec)

/-- 'laws.FnExactBitterRounds', WHERE WHAT IT READS IS OF BULK AT MOST 1048576: true; the input reads as it did. -/
def fnExactBitterRoundsUptoRow : OpenClaim := { program := "ytcggiekhlophlaa", sum := "722eba95513037459a372424f2cb2b9a94946999bbc41dd518901e2eecc18e57", func := "loop.example/g01377/laws.FnExactBitterRounds", spec := "fnExactBitterRounds", apart := false, narrowed := true }
def FnExactBitterRoundsUptoSaid : Prop := fnExactBitterRoundsUptoRow.holds Try.pinned (OpenSpec.upto fnExactBitterRoundsSpec)

/-- 'laws.FnExactWeighingsFor', WHERE WHAT IT READS IS OF BULK AT MOST 1048576: true; the input reads as it did. -/
def fnExactWeighingsForUptoRow : OpenClaim := { program := "ytcggiekhlophlaa", sum := "722eba95513037459a372424f2cb2b9a94946999bbc41dd518901e2eecc18e57", func := "loop.example/g01377/laws.FnExactWeighingsFor", spec := "fnExactWeighingsFor", apart := false, narrowed := true }
def FnExactWeighingsForUptoSaid : Prop := fnExactWeighingsForUptoRow.holds Try.pinned (OpenSpec.upto fnExactWeighingsForSpec)

/-- 'laws.FnExactWeighGroups', WHERE WHAT IT READS IS OF BULK AT MOST 1048576: true; the input reads as it did. -/
def fnExactWeighGroupsUptoRow : OpenClaim := { program := "ytcggiekhlophlaa", sum := "722eba95513037459a372424f2cb2b9a94946999bbc41dd518901e2eecc18e57", func := "loop.example/g01377/laws.FnExactWeighGroups", spec := "fnExactWeighGroups", apart := false, narrowed := true }
def FnExactWeighGroupsUptoSaid : Prop := fnExactWeighGroupsUptoRow.holds Try.pinned (OpenSpec.upto fnExactWeighGroupsSpec)

/-- 'laws.FnExactSuspectsAfter', WHERE WHAT IT READS IS OF BULK AT MOST 1048576: true; the input reads as it did. -/
def fnExactSuspectsAfterUptoRow : OpenClaim := { program := "ytcggiekhlophlaa", sum := "722eba95513037459a372424f2cb2b9a94946999bbc41dd518901e2eecc18e57", func := "loop.example/g01377/laws.FnExactSuspectsAfter", spec := "fnExactSuspectsAfter", apart := false, narrowed := true }
def FnExactSuspectsAfterUptoSaid : Prop := fnExactSuspectsAfterUptoRow.holds Try.pinned (OpenSpec.upto fnExactSuspectsAfterSpec)

/-- 'laws.FnExactResultsFor', WHERE WHAT IT READS IS OF BULK AT MOST 1048576: true; the input reads as it did. -/
def fnExactResultsForUptoRow : OpenClaim := { program := "ytcggiekhlophlaa", sum := "722eba95513037459a372424f2cb2b9a94946999bbc41dd518901e2eecc18e57", func := "loop.example/g01377/laws.FnExactResultsFor", spec := "fnExactResultsFor", apart := false, narrowed := true }
def FnExactResultsForUptoSaid : Prop := fnExactResultsForUptoRow.holds Try.pinned (OpenSpec.upto fnExactResultsForSpec)

/-- 'laws.FnExactLongestResults', WHERE WHAT IT READS IS OF BULK AT MOST 1048576: true; the input reads as it did. -/
def fnExactLongestResultsUptoRow : OpenClaim := { program := "ytcggiekhlophlaa", sum := "722eba95513037459a372424f2cb2b9a94946999bbc41dd518901e2eecc18e57", func := "loop.example/g01377/laws.FnExactLongestResults", spec := "fnExactLongestResults", recurses := true, apart := false, narrowed := true }
def FnExactLongestResultsUptoSaid : Prop := fnExactLongestResultsUptoRow.holds Try.pinned (OpenSpec.upto fnExactLongestResultsSpec)

end Rows
end Go.Proofs.Ytcggiekhlophlaa
