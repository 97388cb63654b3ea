/-
  No cell of these rows narrows 'for every input' (looked for: loops, veiled, ifaces, maps, wideKeys, modest, calm, conditions, laid).
  DERIVED. THE GIVEN ROWS OF THIS SEAT. 11 by the template 'for every input the law returns true; each argument reads behind the call as it read before'; 0 by the template 'total and deterministic' (their statements: YtjaddijhijnlnaaTotals.lean).
  GIVEN WITH THE SEED: the statements are not yours to turn. If you find one false, say at which input.
  Laid BY PROGRAM, IN A SANDBOX (cutbox-rows.mjs): the forced cells as the released guide's own fill.sh prints them over the translation 5d043d7c15113896… (all of the seat's roots in one cut). By AI agents, Wed Nov 11 2026. No macro, syntax, notation, axiom, sorry.
-/
import Derived.Test.YtjaddijhijnlnaaChecked
import GoSem.Claim
import GoSem.ClaimJoined
import GoSem.ClaimMapViews
import Derived.JoinedTies
import Derived.KernelRfl
namespace Go.Proofs.Ytjaddijhijnlnaa
/- THE CELL 'sum', in the pinned program and in every row, IS THE sha256 OF THE DUMP (.gsa) THAT YtjaddijhijnlnaaProg.lean LOADS. Nothing in Lean hashes anything: it is a label: what it is worth is what the hold of that sum in a sandbox is worth. -/
noncomputable def Try.pinned : Pinned := { name := "ytjaddijhijnlnaa", sum := "5d043d7c15113896a9f321ef23d0b1d2bcece45eb18a2d19b2437470d54c48a3", checked := Try.checked }
namespace Rows
def none {H : Type} : Left H := { results := [], args := [] }

/-- 'laws.FnBarsCost': WHATEVER THE INPUT: true; the input reads as it did. -/
def fnBarsCostSpec : ChangeSpec := { name := "fnBarsCost", fn := fun _ => fun
  | [d1, d2] => { results := [.lit (.bool true)], args := [d1, d2] }
  | _ => none }
def fnBarsCostRow : OpenClaim := { program := "ytjaddijhijnlnaa", sum := "5d043d7c15113896a9f321ef23d0b1d2bcece45eb18a2d19b2437470d54c48a3", func := "loop.example/g01377/laws.FnBarsCost", spec := "fnBarsCost", unfollowed := true, recurses := true, plainKeys := false, apart := false }
def FnBarsCostSaid : Prop := fnBarsCostRow.holds Try.pinned (OpenSpec.ofChange fnBarsCostSpec)

/-- ITS FALSE NEIGHBOUR: 'it returns false'. Refute it at one input. -/
def fnBarsCostWrong : ChangeSpec := { name := "fnBarsCost", fn := fun _ => fun
  | [d1, d2] => { results := [.lit (.bool false)], args := [d1, d2] }
  | _ => none }
def FnBarsCostWrongFalsely : Prop := fnBarsCostRow.holds Try.pinned (OpenSpec.ofChange fnBarsCostWrong)

/-- 'laws.FnExactIsBar': WHATEVER THE INPUT: true; the input reads as it did. -/
def fnExactIsBarSpec : ChangeSpec := { name := "fnExactIsBar", fn := fun _ => fun
  | [d] => { results := [.lit (.bool true)], args := [d] }
  | _ => none }
def fnExactIsBarRow : OpenClaim := { program := "ytjaddijhijnlnaa", sum := "5d043d7c15113896a9f321ef23d0b1d2bcece45eb18a2d19b2437470d54c48a3", func := "loop.example/g01377/laws.FnExactIsBar", spec := "fnExactIsBar", plainKeys := false, apart := false }
def FnExactIsBarSaid : Prop := fnExactIsBarRow.holds Try.pinned (OpenSpec.ofChange fnExactIsBarSpec)

/-- ITS FALSE NEIGHBOUR: 'it returns false'. Refute it at one input. -/
def fnExactIsBarWrong : ChangeSpec := { name := "fnExactIsBar", fn := fun _ => fun
  | [d] => { results := [.lit (.bool false)], args := [d] }
  | _ => none }
def FnExactIsBarWrongFalsely : Prop := fnExactIsBarRow.holds Try.pinned (OpenSpec.ofChange fnExactIsBarWrong)

/-- 'laws.FnExactSquaresOf': WHATEVER THE INPUT: true; the input reads as it did. -/
def fnExactSquaresOfSpec : ChangeSpec := { name := "fnExactSquaresOf", fn := fun _ => fun
  | [d] => { results := [.lit (.bool true)], args := [d] }
  | _ => none }
def fnExactSquaresOfRow : OpenClaim := { program := "ytjaddijhijnlnaa", sum := "5d043d7c15113896a9f321ef23d0b1d2bcece45eb18a2d19b2437470d54c48a3", func := "loop.example/g01377/laws.FnExactSquaresOf", spec := "fnExactSquaresOf", plainKeys := false, apart := false }
def FnExactSquaresOfSaid : Prop := fnExactSquaresOfRow.holds Try.pinned (OpenSpec.ofChange fnExactSquaresOfSpec)

/-- ITS FALSE NEIGHBOUR: 'it returns false'. Refute it at one input. -/
def fnExactSquaresOfWrong : ChangeSpec := { name := "fnExactSquaresOf", fn := fun _ => fun
  | [d] => { results := [.lit (.bool false)], args := [d] }
  | _ => none }
def FnExactSquaresOfWrongFalsely : Prop := fnExactSquaresOfRow.holds Try.pinned (OpenSpec.ofChange fnExactSquaresOfWrong)

/-- 'laws.FnExactFewestBreaks': WHATEVER THE INPUT: true; the input reads as it did. -/
def fnExactFewestBreaksSpec : ChangeSpec := { name := "fnExactFewestBreaks", fn := fun _ => fun
  | [d] => { results := [.lit (.bool true)], args := [d] }
  | _ => none }
def fnExactFewestBreaksRow : OpenClaim := { program := "ytjaddijhijnlnaa", sum := "5d043d7c15113896a9f321ef23d0b1d2bcece45eb18a2d19b2437470d54c48a3", func := "loop.example/g01377/laws.FnExactFewestBreaks", spec := "fnExactFewestBreaks", plainKeys := false, apart := false }
def FnExactFewestBreaksSaid : Prop := fnExactFewestBreaksRow.holds Try.pinned (OpenSpec.ofChange fnExactFewestBreaksSpec)

/-- ITS FALSE NEIGHBOUR: 'it returns false'. Refute it at one input. -/
def fnExactFewestBreaksWrong : ChangeSpec := { name := "fnExactFewestBreaks", fn := fun _ => fun
  | [d] => { results := [.lit (.bool false)], args := [d] }
  | _ => none }
def FnExactFewestBreaksWrongFalsely : Prop := fnExactFewestBreaksRow.holds Try.pinned (OpenSpec.ofChange fnExactFewestBreaksWrong)

/-- 'laws.FnExactBreakBar': WHATEVER THE INPUT: true; the input reads as it did. -/
def fnExactBreakBarSpec : ChangeSpec := { name := "fnExactBreakBar", fn := fun _ => fun
  | [d1, d2, d3] => { results := [.lit (.bool true)], args := [d1, d2, d3] }
  | _ => none }
def fnExactBreakBarRow : OpenClaim := { program := "ytjaddijhijnlnaa", sum := "5d043d7c15113896a9f321ef23d0b1d2bcece45eb18a2d19b2437470d54c48a3", func := "loop.example/g01377/laws.FnExactBreakBar", spec := "fnExactBreakBar", plainKeys := false, apart := false }
def FnExactBreakBarSaid : Prop := fnExactBreakBarRow.holds Try.pinned (OpenSpec.ofChange fnExactBreakBarSpec)

/-- ITS FALSE NEIGHBOUR: 'it returns false'. Refute it at one input. -/
def fnExactBreakBarWrong : ChangeSpec := { name := "fnExactBreakBar", fn := fun _ => fun
  | [d1, d2, d3] => { results := [.lit (.bool false)], args := [d1, d2, d3] }
  | _ => none }
def FnExactBreakBarWrongFalsely : Prop := fnExactBreakBarRow.holds Try.pinned (OpenSpec.ofChange fnExactBreakBarWrong)

/-- 'laws.FnExactIsBreak': WHATEVER THE INPUT: true; the input reads as it did. -/
def fnExactIsBreakSpec : ChangeSpec := { name := "fnExactIsBreak", fn := fun _ => fun
  | [d1, d2, d3] => { results := [.lit (.bool true)], args := [d1, d2, d3] }
  | _ => none }
def fnExactIsBreakRow : OpenClaim := { program := "ytjaddijhijnlnaa", sum := "5d043d7c15113896a9f321ef23d0b1d2bcece45eb18a2d19b2437470d54c48a3", func := "loop.example/g01377/laws.FnExactIsBreak", spec := "fnExactIsBreak", plainKeys := false, apart := false }
def FnExactIsBreakSaid : Prop := fnExactIsBreakRow.holds Try.pinned (OpenSpec.ofChange fnExactIsBreakSpec)

/-- ITS FALSE NEIGHBOUR: 'it returns false'. Refute it at one input. -/
def fnExactIsBreakWrong : ChangeSpec := { name := "fnExactIsBreak", fn := fun _ => fun
  | [d1, d2, d3] => { results := [.lit (.bool false)], args := [d1, d2, d3] }
  | _ => none }
def FnExactIsBreakWrongFalsely : Prop := fnExactIsBreakRow.holds Try.pinned (OpenSpec.ofChange fnExactIsBreakWrong)

/-- 'laws.FnExactPiecesAfter': WHATEVER THE INPUT: true; the input reads as it did. -/
def fnExactPiecesAfterSpec : ChangeSpec := { name := "fnExactPiecesAfter", fn := fun _ => fun
  | [d1, d2] => { results := [.lit (.bool true)], args := [d1, d2] }
  | _ => none }
def fnExactPiecesAfterRow : OpenClaim := { program := "ytjaddijhijnlnaa", sum := "5d043d7c15113896a9f321ef23d0b1d2bcece45eb18a2d19b2437470d54c48a3", func := "loop.example/g01377/laws.FnExactPiecesAfter", spec := "fnExactPiecesAfter", plainKeys := false, apart := false }
def FnExactPiecesAfterSaid : Prop := fnExactPiecesAfterRow.holds Try.pinned (OpenSpec.ofChange fnExactPiecesAfterSpec)

/-- ITS FALSE NEIGHBOUR: 'it returns false'. Refute it at one input. -/
def fnExactPiecesAfterWrong : ChangeSpec := { name := "fnExactPiecesAfter", fn := fun _ => fun
  | [d1, d2] => { results := [.lit (.bool false)], args := [d1, d2] }
  | _ => none }
def FnExactPiecesAfterWrongFalsely : Prop := fnExactPiecesAfterRow.holds Try.pinned (OpenSpec.ofChange fnExactPiecesAfterWrong)

/-- 'laws.FnExactLengthOfBreaks': WHATEVER THE INPUT: true; the input reads as it did. -/
def fnExactLengthOfBreaksSpec : ChangeSpec := { name := "fnExactLengthOfBreaks", fn := fun _ => fun
  | [d1, d2] => { results := [.lit (.bool true)], args := [d1, d2] }
  | _ => none }
def fnExactLengthOfBreaksRow : OpenClaim := { program := "ytjaddijhijnlnaa", sum := "5d043d7c15113896a9f321ef23d0b1d2bcece45eb18a2d19b2437470d54c48a3", func := "loop.example/g01377/laws.FnExactLengthOfBreaks", spec := "fnExactLengthOfBreaks", plainKeys := false, apart := false }
def FnExactLengthOfBreaksSaid : Prop := fnExactLengthOfBreaksRow.holds Try.pinned (OpenSpec.ofChange fnExactLengthOfBreaksSpec)

/-- ITS FALSE NEIGHBOUR: 'it returns false'. Refute it at one input. -/
def fnExactLengthOfBreaksWrong : ChangeSpec := { name := "fnExactLengthOfBreaks", fn := fun _ => fun
  | [d1, d2] => { results := [.lit (.bool false)], args := [d1, d2] }
  | _ => none }
def FnExactLengthOfBreaksWrongFalsely : Prop := fnExactLengthOfBreaksRow.holds Try.pinned (OpenSpec.ofChange fnExactLengthOfBreaksWrong)

/-- 'laws.FnExactPlainBreaks': WHATEVER THE INPUT: true; the input reads as it did. -/
def fnExactPlainBreaksSpec : ChangeSpec := { name := "fnExactPlainBreaks", fn := fun _ => fun
  | [d] => { results := [.lit (.bool true)], args := [d] }
  | _ => none }
def fnExactPlainBreaksRow : OpenClaim := { program := "ytjaddijhijnlnaa", sum := "5d043d7c15113896a9f321ef23d0b1d2bcece45eb18a2d19b2437470d54c48a3", func := "loop.example/g01377/laws.FnExactPlainBreaks", spec := "fnExactPlainBreaks", plainKeys := false, apart := false }
def FnExactPlainBreaksSaid : Prop := fnExactPlainBreaksRow.holds Try.pinned (OpenSpec.ofChange fnExactPlainBreaksSpec)

/-- ITS FALSE NEIGHBOUR: 'it returns false'. Refute it at one input. -/
def fnExactPlainBreaksWrong : ChangeSpec := { name := "fnExactPlainBreaks", fn := fun _ => fun
  | [d] => { results := [.lit (.bool false)], args := [d] }
  | _ => none }
def FnExactPlainBreaksWrongFalsely : Prop := fnExactPlainBreaksRow.holds Try.pinned (OpenSpec.ofChange fnExactPlainBreaksWrong)

/-- 'laws.FnExactEqualParts': WHATEVER THE INPUT: true; the input reads as it did. -/
def fnExactEqualPartsSpec : ChangeSpec := { name := "fnExactEqualParts", fn := fun _ => fun
  | [d1, d2] => { results := [.lit (.bool true)], args := [d1, d2] }
  | _ => none }
def fnExactEqualPartsRow : OpenClaim := { program := "ytjaddijhijnlnaa", sum := "5d043d7c15113896a9f321ef23d0b1d2bcece45eb18a2d19b2437470d54c48a3", func := "loop.example/g01377/laws.FnExactEqualParts", spec := "fnExactEqualParts", plainKeys := false, apart := false }
def FnExactEqualPartsSaid : Prop := fnExactEqualPartsRow.holds Try.pinned (OpenSpec.ofChange fnExactEqualPartsSpec)

/-- ITS FALSE NEIGHBOUR: 'it returns false'. Refute it at one input. -/
def fnExactEqualPartsWrong : ChangeSpec := { name := "fnExactEqualParts", fn := fun _ => fun
  | [d1, d2] => { results := [.lit (.bool false)], args := [d1, d2] }
  | _ => none }
def FnExactEqualPartsWrongFalsely : Prop := fnExactEqualPartsRow.holds Try.pinned (OpenSpec.ofChange fnExactEqualPartsWrong)

/-- 'laws.FnExactCountTrees': WHATEVER THE INPUT: true; the input reads as it did. -/
def fnExactCountTreesSpec : ChangeSpec := { name := "fnExactCountTrees", fn := fun _ => fun
  | [d] => { results := [.lit (.bool true)], args := [d] }
  | _ => none }
def fnExactCountTreesRow : OpenClaim := { program := "ytjaddijhijnlnaa", sum := "5d043d7c15113896a9f321ef23d0b1d2bcece45eb18a2d19b2437470d54c48a3", func := "loop.example/g01377/laws.FnExactCountTrees", spec := "fnExactCountTrees", plainKeys := false, apart := false }
def FnExactCountTreesSaid : Prop := fnExactCountTreesRow.holds Try.pinned (OpenSpec.ofChange fnExactCountTreesSpec)

/-- ITS FALSE NEIGHBOUR: 'it returns false'. Refute it at one input. -/
def fnExactCountTreesWrong : ChangeSpec := { name := "fnExactCountTrees", fn := fun _ => fun
  | [d] => { results := [.lit (.bool false)], args := [d] }
  | _ => none }
def FnExactCountTreesWrongFalsely : Prop := fnExactCountTreesRow.holds Try.pinned (OpenSpec.ofChange fnExactCountTreesWrong)

/- THE SECOND FORM. 'bulk': how many values and letters a reading holds, each counted each time it is reached (what is shared counts as often as it is met; a slice's spare places count too). A statement '..UptoSaid' is the law's where the arguments, and the package variables that the reading takes, are together of bulk at most 1048576: NARROWER than '..Said'. Prove '..Said' where nothing that the law and all that it calls make is longer than what came in: it says more and counts as full. Else prove '..UptoSaid'. A law counts once. -/
mutual
def uptoBulk {H : Type} : DataW H → Nat
  | .lit (.string bytes) => bytes.length + 1
  | .lit _ => 1
  | .nil => 1
  | .ptr d => uptoBulk d + 1
  | .slice elems spare => uptoBulkAll elems + uptoBulkAll spare + 1
  | .agg parts => uptoBulkAll parts + 1
  | .iface _ d => uptoBulk d + 1
  | .map entries => uptoBulkEntries entries + 1
  | .held _ => 1
def uptoBulkAll {H : Type} : List (DataW H) → Nat
  | [] => 0
  | d :: r => uptoBulk d + uptoBulkAll r
def uptoBulkEntries {H : Type} : List (Lit × DataW H) → Nat
  | [] => 0
  | x :: r => uptoBulkEntry x + uptoBulkEntries r
def uptoBulkEntry {H : Type} : Lit × DataW H → Nat
  | (.string bytes, d) => bytes.length + uptoBulk d + 1
  | (_, d) => uptoBulk d + 1
 end
def uptoSmall : (H : Type) → List (DataW H) → Bool := fun _ ds => decide (uptoBulkAll ds ≤ 1048576)
def OpenSpec.upto (s : _root_.Go.ChangeSpec) : _root_.Go.OpenSpec := { _root_.Go.OpenSpec.ofChange s with cond := some uptoSmall }

/-- 'laws.FnBarsCost', WHERE WHAT IT READS IS OF BULK AT MOST 1048576: true; the input reads as it did. -/
def fnBarsCostUptoRow : OpenClaim := { program := "ytjaddijhijnlnaa", sum := "5d043d7c15113896a9f321ef23d0b1d2bcece45eb18a2d19b2437470d54c48a3", func := "loop.example/g01377/laws.FnBarsCost", spec := "fnBarsCost", unfollowed := true, recurses := true, plainKeys := false, apart := false, narrowed := true }
def FnBarsCostUptoSaid : Prop := fnBarsCostUptoRow.holds Try.pinned (OpenSpec.upto fnBarsCostSpec)

/-- 'laws.FnExactIsBar', WHERE WHAT IT READS IS OF BULK AT MOST 1048576: true; the input reads as it did. -/
def fnExactIsBarUptoRow : OpenClaim := { program := "ytjaddijhijnlnaa", sum := "5d043d7c15113896a9f321ef23d0b1d2bcece45eb18a2d19b2437470d54c48a3", func := "loop.example/g01377/laws.FnExactIsBar", spec := "fnExactIsBar", plainKeys := false, apart := false, narrowed := true }
def FnExactIsBarUptoSaid : Prop := fnExactIsBarUptoRow.holds Try.pinned (OpenSpec.upto fnExactIsBarSpec)

/-- 'laws.FnExactSquaresOf', WHERE WHAT IT READS IS OF BULK AT MOST 1048576: true; the input reads as it did. -/
def fnExactSquaresOfUptoRow : OpenClaim := { program := "ytjaddijhijnlnaa", sum := "5d043d7c15113896a9f321ef23d0b1d2bcece45eb18a2d19b2437470d54c48a3", func := "loop.example/g01377/laws.FnExactSquaresOf", spec := "fnExactSquaresOf", plainKeys := false, apart := false, narrowed := true }
def FnExactSquaresOfUptoSaid : Prop := fnExactSquaresOfUptoRow.holds Try.pinned (OpenSpec.upto fnExactSquaresOfSpec)

/-- 'laws.FnExactFewestBreaks', WHERE WHAT IT READS IS OF BULK AT MOST 1048576: true; the input reads as it did. -/
def fnExactFewestBreaksUptoRow : OpenClaim := { program := "ytjaddijhijnlnaa", sum := "5d043d7c15113896a9f321ef23d0b1d2bcece45eb18a2d19b2437470d54c48a3", func := "loop.example/g01377/laws.FnExactFewestBreaks", spec := "fnExactFewestBreaks", plainKeys := false, apart := false, narrowed := true }
def FnExactFewestBreaksUptoSaid : Prop := fnExactFewestBreaksUptoRow.holds Try.pinned (OpenSpec.upto fnExactFewestBreaksSpec)

/-- 'laws.FnExactBreakBar', WHERE WHAT IT READS IS OF BULK AT MOST 1048576: true; the input reads as it did. -/
def fnExactBreakBarUptoRow : OpenClaim := { program := "ytjaddijhijnlnaa", sum := "5d043d7c15113896a9f321ef23d0b1d2bcece45eb18a2d19b2437470d54c48a3", func := "loop.example/g01377/laws.FnExactBreakBar", spec := "fnExactBreakBar", plainKeys := false, apart := false, narrowed := true }
def FnExactBreakBarUptoSaid : Prop := fnExactBreakBarUptoRow.holds Try.pinned (OpenSpec.upto fnExactBreakBarSpec)

/-- 'laws.FnExactIsBreak', WHERE WHAT IT READS IS OF BULK AT MOST 1048576: true; the input reads as it did. -/
def fnExactIsBreakUptoRow : OpenClaim := { program := "ytjaddijhijnlnaa", sum := "5d043d7c15113896a9f321ef23d0b1d2bcece45eb18a2d19b2437470d54c48a3", func := "loop.example/g01377/laws.FnExactIsBreak", spec := "fnExactIsBreak", plainKeys := false, apart := false, narrowed := true }
def FnExactIsBreakUptoSaid : Prop := fnExactIsBreakUptoRow.holds Try.pinned (OpenSpec.upto fnExactIsBreakSpec)

/-- 'laws.FnExactPiecesAfter', WHERE WHAT IT READS IS OF BULK AT MOST 1048576: true; the input reads as it did. -/
def fnExactPiecesAfterUptoRow : OpenClaim := { program := "ytjaddijhijnlnaa", sum := "5d043d7c15113896a9f321ef23d0b1d2bcece45eb18a2d19b2437470d54c48a3", func := "loop.example/g01377/laws.FnExactPiecesAfter", spec := "fnExactPiecesAfter", plainKeys := false, apart := false, narrowed := true }
def FnExactPiecesAfterUptoSaid : Prop := fnExactPiecesAfterUptoRow.holds Try.pinned (OpenSpec.upto fnExactPiecesAfterSpec)

/-- 'laws.FnExactLengthOfBreaks', WHERE WHAT IT READS IS OF BULK AT MOST 1048576: true; the input reads as it did. -/
def fnExactLengthOfBreaksUptoRow : OpenClaim := { program := "ytjaddijhijnlnaa", sum := "5d043d7c15113896a9f321ef23d0b1d2bcece45eb18a2d19b2437470d54c48a3", func := "loop.example/g01377/laws.FnExactLengthOfBreaks", spec := "fnExactLengthOfBreaks", plainKeys := false, apart := false, narrowed := true }
def FnExactLengthOfBreaksUptoSaid : Prop := fnExactLengthOfBreaksUptoRow.holds Try.pinned (OpenSpec.upto fnExactLengthOfBreaksSpec)

/-- 'laws.FnExactPlainBreaks', WHERE WHAT IT READS IS OF BULK AT MOST 1048576: true; the input reads as it did. -/
def fnExactPlainBreaksUptoRow : OpenClaim := { program := "ytjaddijhijnlnaa", sum := "5d043d7c15113896a9f321ef23d0b1d2bcece45eb18a2d19b2437470d54c48a3", func := "loop.example/g01377/laws.FnExactPlainBreaks", spec := "fnExactPlainBreaks", plainKeys := false, apart := false, narrowed := true }
def FnExactPlainBreaksUptoSaid : Prop := fnExactPlainBreaksUptoRow.holds Try.pinned (OpenSpec.upto fnExactPlainBreaksSpec)

/-- 'laws.FnExactEqualParts', WHERE WHAT IT READS IS OF BULK AT MOST 1048576: true; the input reads as it did. -/
def fnExactEqualPartsUptoRow : OpenClaim := { program := "ytjaddijhijnlnaa", sum := "5d043d7c15113896a9f321ef23d0b1d2bcece45eb18a2d19b2437470d54c48a3", func := "loop.example/g01377/laws.FnExactEqualParts", spec := "fnExactEqualParts", plainKeys := false, apart := false, narrowed := true }
def FnExactEqualPartsUptoSaid : Prop := fnExactEqualPartsUptoRow.holds Try.pinned (OpenSpec.upto fnExactEqualPartsSpec)

/-- 'laws.FnExactCountTrees', WHERE WHAT IT READS IS OF BULK AT MOST 1048576: true; the input reads as it did. -/
def fnExactCountTreesUptoRow : OpenClaim := { program := "ytjaddijhijnlnaa", sum := "5d043d7c15113896a9f321ef23d0b1d2bcece45eb18a2d19b2437470d54c48a3", func := "loop.example/g01377/laws.FnExactCountTrees", spec := "fnExactCountTrees", plainKeys := false, apart := false, narrowed := true }
def FnExactCountTreesUptoSaid : Prop := fnExactCountTreesUptoRow.holds Try.pinned (OpenSpec.upto fnExactCountTreesSpec)

end Rows
end Go.Proofs.Ytjaddijhijnlnaa
