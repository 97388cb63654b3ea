/-
  No cell of these rows narrows 'for every input' (looked for: loops, veiled, ifaces, maps, wideKeys, modest, calm, conditions, laid).
  DERIVED. THE GIVEN ROWS OF THIS SEAT. 9 by the template 'for every input the law returns true; each argument reads behind the call as it read before'; 0 by the template 'total and deterministic' (their statements: YthemmckchmpicaaTotals.lean).
  GIVEN WITH THE SEED: the statements are not yours to turn. If you find one false, say at which input.
  Laid BY PROGRAM, IN A SANDBOX (cutbox-rows.mjs): the forced cells as the released guide's own fill.sh prints them over the translation 48e7f8594313a40f… (all of the seat's roots in one cut). By AI agents, Wed Nov 11 2026. No macro, syntax, notation, axiom, sorry.
-/
import Derived.Test.YthemmckchmpicaaChecked
import GoSem.Claim
import GoSem.ClaimJoined
import GoSem.ClaimMapViews
import Derived.JoinedTies
import Derived.KernelRfl
namespace Go.Proofs.Ythemmckchmpicaa
/- THE CELL 'sum', in the pinned program and in every row, IS THE sha256 OF THE DUMP (.gsa) THAT YthemmckchmpicaaProg.lean LOADS. Nothing in Lean hashes anything: it is a label: what it is worth is what the hold of that sum in a sandbox is worth. -/
noncomputable def Try.pinned : Pinned := { name := "ythemmckchmpicaa", sum := "48e7f8594313a40ff75b1c8ed8d81937327b8ed56b1d7b13d005d6eb36f7f18d", checked := Try.checked }
namespace Rows
def none {H : Type} : Left H := { results := [], args := [] }

/-- 'laws.FnExactWinsPlain': WHATEVER THE INPUT: true; the input reads as it did. -/
def fnExactWinsPlainSpec : ChangeSpec := { name := "fnExactWinsPlain", fn := fun _ => fun
  | [d] => { results := [.lit (.bool true)], args := [d] }
  | _ => none }
def fnExactWinsPlainRow : OpenClaim := { program := "ythemmckchmpicaa", sum := "48e7f8594313a40ff75b1c8ed8d81937327b8ed56b1d7b13d005d6eb36f7f18d", func := "loop.example/g01377/laws.FnExactWinsPlain", spec := "fnExactWinsPlain", plainKeys := false, apart := false }
def FnExactWinsPlainSaid : Prop := fnExactWinsPlainRow.holds Try.pinned (OpenSpec.ofChange fnExactWinsPlainSpec)

/-- ITS FALSE NEIGHBOUR: 'it returns false'. Refute it at one input. -/
def fnExactWinsPlainWrong : ChangeSpec := { name := "fnExactWinsPlain", fn := fun _ => fun
  | [d] => { results := [.lit (.bool false)], args := [d] }
  | _ => none }
def FnExactWinsPlainWrongFalsely : Prop := fnExactWinsPlainRow.holds Try.pinned (OpenSpec.ofChange fnExactWinsPlainWrong)

/-- 'laws.FnExactWinsKept': WHATEVER THE INPUT: true; the input reads as it did. -/
def fnExactWinsKeptSpec : ChangeSpec := { name := "fnExactWinsKept", fn := fun _ => fun
  | [d] => { results := [.lit (.bool true)], args := [d] }
  | _ => none }
def fnExactWinsKeptRow : OpenClaim := { program := "ythemmckchmpicaa", sum := "48e7f8594313a40ff75b1c8ed8d81937327b8ed56b1d7b13d005d6eb36f7f18d", func := "loop.example/g01377/laws.FnExactWinsKept", spec := "fnExactWinsKept", plainKeys := false, apart := false }
def FnExactWinsKeptSaid : Prop := fnExactWinsKeptRow.holds Try.pinned (OpenSpec.ofChange fnExactWinsKeptSpec)

/-- ITS FALSE NEIGHBOUR: 'it returns false'. Refute it at one input. -/
def fnExactWinsKeptWrong : ChangeSpec := { name := "fnExactWinsKept", fn := fun _ => fun
  | [d] => { results := [.lit (.bool false)], args := [d] }
  | _ => none }
def FnExactWinsKeptWrongFalsely : Prop := fnExactWinsKeptRow.holds Try.pinned (OpenSpec.ofChange fnExactWinsKeptWrong)

/-- 'laws.FnExactKeptMoves': WHATEVER THE INPUT: true; the input reads as it did. -/
def fnExactKeptMovesSpec : ChangeSpec := { name := "fnExactKeptMoves", fn := fun _ => fun
  | [d] => { results := [.lit (.bool true)], args := [d] }
  | _ => none }
def fnExactKeptMovesRow : OpenClaim := { program := "ythemmckchmpicaa", sum := "48e7f8594313a40ff75b1c8ed8d81937327b8ed56b1d7b13d005d6eb36f7f18d", func := "loop.example/g01377/laws.FnExactKeptMoves", spec := "fnExactKeptMoves", plainKeys := false, apart := false }
def FnExactKeptMovesSaid : Prop := fnExactKeptMovesRow.holds Try.pinned (OpenSpec.ofChange fnExactKeptMovesSpec)

/-- ITS FALSE NEIGHBOUR: 'it returns false'. Refute it at one input. -/
def fnExactKeptMovesWrong : ChangeSpec := { name := "fnExactKeptMoves", fn := fun _ => fun
  | [d] => { results := [.lit (.bool false)], args := [d] }
  | _ => none }
def FnExactKeptMovesWrongFalsely : Prop := fnExactKeptMovesRow.holds Try.pinned (OpenSpec.ofChange fnExactKeptMovesWrong)

/-- 'laws.FnExactGoodKept': WHATEVER THE INPUT: true; the input reads as it did. -/
def fnExactGoodKeptSpec : ChangeSpec := { name := "fnExactGoodKept", fn := fun _ => fun
  | [d] => { results := [.lit (.bool true)], args := [d] }
  | _ => none }
def fnExactGoodKeptRow : OpenClaim := { program := "ythemmckchmpicaa", sum := "48e7f8594313a40ff75b1c8ed8d81937327b8ed56b1d7b13d005d6eb36f7f18d", func := "loop.example/g01377/laws.FnExactGoodKept", spec := "fnExactGoodKept", plainKeys := false, apart := false }
def FnExactGoodKeptSaid : Prop := fnExactGoodKeptRow.holds Try.pinned (OpenSpec.ofChange fnExactGoodKeptSpec)

/-- ITS FALSE NEIGHBOUR: 'it returns false'. Refute it at one input. -/
def fnExactGoodKeptWrong : ChangeSpec := { name := "fnExactGoodKept", fn := fun _ => fun
  | [d] => { results := [.lit (.bool false)], args := [d] }
  | _ => none }
def FnExactGoodKeptWrongFalsely : Prop := fnExactGoodKeptRow.holds Try.pinned (OpenSpec.ofChange fnExactGoodKeptWrong)

/-- 'laws.FnExactKeptHeap': WHATEVER THE INPUT: true; the input reads as it did. -/
def fnExactKeptHeapSpec : ChangeSpec := { name := "fnExactKeptHeap", fn := fun _ => fun
  | [d] => { results := [.lit (.bool true)], args := [d] }
  | _ => none }
def fnExactKeptHeapRow : OpenClaim := { program := "ythemmckchmpicaa", sum := "48e7f8594313a40ff75b1c8ed8d81937327b8ed56b1d7b13d005d6eb36f7f18d", func := "loop.example/g01377/laws.FnExactKeptHeap", spec := "fnExactKeptHeap", plainKeys := false, apart := false }
def FnExactKeptHeapSaid : Prop := fnExactKeptHeapRow.holds Try.pinned (OpenSpec.ofChange fnExactKeptHeapSpec)

/-- ITS FALSE NEIGHBOUR: 'it returns false'. Refute it at one input. -/
def fnExactKeptHeapWrong : ChangeSpec := { name := "fnExactKeptHeap", fn := fun _ => fun
  | [d] => { results := [.lit (.bool false)], args := [d] }
  | _ => none }
def FnExactKeptHeapWrongFalsely : Prop := fnExactKeptHeapRow.holds Try.pinned (OpenSpec.ofChange fnExactKeptHeapWrong)

/-- 'laws.FnExactWinsSeveral': WHATEVER THE INPUT: true; the input reads as it did. -/
def fnExactWinsSeveralSpec : ChangeSpec := { name := "fnExactWinsSeveral", fn := fun _ => fun
  | [d] => { results := [.lit (.bool true)], args := [d] }
  | _ => none }
def fnExactWinsSeveralRow : OpenClaim := { program := "ythemmckchmpicaa", sum := "48e7f8594313a40ff75b1c8ed8d81937327b8ed56b1d7b13d005d6eb36f7f18d", func := "loop.example/g01377/laws.FnExactWinsSeveral", spec := "fnExactWinsSeveral", plainKeys := false, apart := false }
def FnExactWinsSeveralSaid : Prop := fnExactWinsSeveralRow.holds Try.pinned (OpenSpec.ofChange fnExactWinsSeveralSpec)

/-- ITS FALSE NEIGHBOUR: 'it returns false'. Refute it at one input. -/
def fnExactWinsSeveralWrong : ChangeSpec := { name := "fnExactWinsSeveral", fn := fun _ => fun
  | [d] => { results := [.lit (.bool false)], args := [d] }
  | _ => none }
def FnExactWinsSeveralWrongFalsely : Prop := fnExactWinsSeveralRow.holds Try.pinned (OpenSpec.ofChange fnExactWinsSeveralWrong)

/-- 'laws.FnExactFirstGoodSeveral': WHATEVER THE INPUT: true; the input reads as it did. -/
def fnExactFirstGoodSeveralSpec : ChangeSpec := { name := "fnExactFirstGoodSeveral", fn := fun _ => fun
  | [d] => { results := [.lit (.bool true)], args := [d] }
  | _ => none }
def fnExactFirstGoodSeveralRow : OpenClaim := { program := "ythemmckchmpicaa", sum := "48e7f8594313a40ff75b1c8ed8d81937327b8ed56b1d7b13d005d6eb36f7f18d", func := "loop.example/g01377/laws.FnExactFirstGoodSeveral", spec := "fnExactFirstGoodSeveral", plainKeys := false, apart := false }
def FnExactFirstGoodSeveralSaid : Prop := fnExactFirstGoodSeveralRow.holds Try.pinned (OpenSpec.ofChange fnExactFirstGoodSeveralSpec)

/-- ITS FALSE NEIGHBOUR: 'it returns false'. Refute it at one input. -/
def fnExactFirstGoodSeveralWrong : ChangeSpec := { name := "fnExactFirstGoodSeveral", fn := fun _ => fun
  | [d] => { results := [.lit (.bool false)], args := [d] }
  | _ => none }
def FnExactFirstGoodSeveralWrongFalsely : Prop := fnExactFirstGoodSeveralRow.holds Try.pinned (OpenSpec.ofChange fnExactFirstGoodSeveralWrong)

/-- 'laws.FnExactCountKeptPlays': WHATEVER THE INPUT: true; the input reads as it did. -/
def fnExactCountKeptPlaysSpec : ChangeSpec := { name := "fnExactCountKeptPlays", fn := fun _ => fun
  | [d] => { results := [.lit (.bool true)], args := [d] }
  | _ => none }
def fnExactCountKeptPlaysRow : OpenClaim := { program := "ythemmckchmpicaa", sum := "48e7f8594313a40ff75b1c8ed8d81937327b8ed56b1d7b13d005d6eb36f7f18d", func := "loop.example/g01377/laws.FnExactCountKeptPlays", spec := "fnExactCountKeptPlays", plainKeys := false, apart := false }
def FnExactCountKeptPlaysSaid : Prop := fnExactCountKeptPlaysRow.holds Try.pinned (OpenSpec.ofChange fnExactCountKeptPlaysSpec)

/-- ITS FALSE NEIGHBOUR: 'it returns false'. Refute it at one input. -/
def fnExactCountKeptPlaysWrong : ChangeSpec := { name := "fnExactCountKeptPlays", fn := fun _ => fun
  | [d] => { results := [.lit (.bool false)], args := [d] }
  | _ => none }
def FnExactCountKeptPlaysWrongFalsely : Prop := fnExactCountKeptPlaysRow.holds Try.pinned (OpenSpec.ofChange fnExactCountKeptPlaysWrong)

/-- 'laws.FnExactLostKept': WHATEVER THE INPUT: true; the input reads as it did. -/
def fnExactLostKeptSpec : ChangeSpec := { name := "fnExactLostKept", fn := fun _ => fun
  | [d1, d2] => { results := [.lit (.bool true)], args := [d1, d2] }
  | _ => none }
def fnExactLostKeptRow : OpenClaim := { program := "ythemmckchmpicaa", sum := "48e7f8594313a40ff75b1c8ed8d81937327b8ed56b1d7b13d005d6eb36f7f18d", func := "loop.example/g01377/laws.FnExactLostKept", spec := "fnExactLostKept", plainKeys := false, apart := false }
def FnExactLostKeptSaid : Prop := fnExactLostKeptRow.holds Try.pinned (OpenSpec.ofChange fnExactLostKeptSpec)

/-- ITS FALSE NEIGHBOUR: 'it returns false'. Refute it at one input. -/
def fnExactLostKeptWrong : ChangeSpec := { name := "fnExactLostKept", fn := fun _ => fun
  | [d1, d2] => { results := [.lit (.bool false)], args := [d1, d2] }
  | _ => none }
def FnExactLostKeptWrongFalsely : Prop := fnExactLostKeptRow.holds Try.pinned (OpenSpec.ofChange fnExactLostKeptWrong)

/- THE SECOND FORM. 'bulk': how many values and letters a reading holds, each counted each time it is reached (what is shared counts as often as it is met; a slice's spare places count too). A statement '..UptoSaid' is the law's where the arguments, and the package variables that the reading takes, are together of bulk at most 1048576: NARROWER than '..Said'. Prove '..Said' where nothing that the law and all that it calls make is longer than what came in: it says more and counts as full. Else prove '..UptoSaid'. A law counts once. -/
mutual
def uptoBulk {H : Type} : DataW H → Nat
  | .lit (.string bytes) => bytes.length + 1
  | .lit _ => 1
  | .nil => 1
  | .ptr d => uptoBulk d + 1
  | .slice elems spare => uptoBulkAll elems + uptoBulkAll spare + 1
  | .agg parts => uptoBulkAll parts + 1
  | .iface _ d => uptoBulk d + 1
  | .map entries => uptoBulkEntries entries + 1
  | .held _ => 1
def uptoBulkAll {H : Type} : List (DataW H) → Nat
  | [] => 0
  | d :: r => uptoBulk d + uptoBulkAll r
def uptoBulkEntries {H : Type} : List (Lit × DataW H) → Nat
  | [] => 0
  | x :: r => uptoBulkEntry x + uptoBulkEntries r
def uptoBulkEntry {H : Type} : Lit × DataW H → Nat
  | (.string bytes, d) => bytes.length + uptoBulk d + 1
  | (_, d) => uptoBulk d + 1
 end
def uptoSmall : (H : Type) → List (DataW H) → Bool := fun _ ds => decide (uptoBulkAll ds ≤ 1048576)
def OpenSpec.upto (s : _root_.Go.ChangeSpec) : _root_.Go.OpenSpec := { _root_.Go.OpenSpec.ofChange s with cond := some uptoSmall }

/-- 'laws.FnExactWinsPlain', WHERE WHAT IT READS IS OF BULK AT MOST 1048576: true; the input reads as it did. -/
def fnExactWinsPlainUptoRow : OpenClaim := { program := "ythemmckchmpicaa", sum := "48e7f8594313a40ff75b1c8ed8d81937327b8ed56b1d7b13d005d6eb36f7f18d", func := "loop.example/g01377/laws.FnExactWinsPlain", spec := "fnExactWinsPlain", plainKeys := false, apart := false, narrowed := true }
def FnExactWinsPlainUptoSaid : Prop := fnExactWinsPlainUptoRow.holds Try.pinned (OpenSpec.upto fnExactWinsPlainSpec)

/-- 'laws.FnExactWinsKept', WHERE WHAT IT READS IS OF BULK AT MOST 1048576: true; the input reads as it did. -/
def fnExactWinsKeptUptoRow : OpenClaim := { program := "ythemmckchmpicaa", sum := "48e7f8594313a40ff75b1c8ed8d81937327b8ed56b1d7b13d005d6eb36f7f18d", func := "loop.example/g01377/laws.FnExactWinsKept", spec := "fnExactWinsKept", plainKeys := false, apart := false, narrowed := true }
def FnExactWinsKeptUptoSaid : Prop := fnExactWinsKeptUptoRow.holds Try.pinned (OpenSpec.upto fnExactWinsKeptSpec)

/-- 'laws.FnExactKeptMoves', WHERE WHAT IT READS IS OF BULK AT MOST 1048576: true; the input reads as it did. -/
def fnExactKeptMovesUptoRow : OpenClaim := { program := "ythemmckchmpicaa", sum := "48e7f8594313a40ff75b1c8ed8d81937327b8ed56b1d7b13d005d6eb36f7f18d", func := "loop.example/g01377/laws.FnExactKeptMoves", spec := "fnExactKeptMoves", plainKeys := false, apart := false, narrowed := true }
def FnExactKeptMovesUptoSaid : Prop := fnExactKeptMovesUptoRow.holds Try.pinned (OpenSpec.upto fnExactKeptMovesSpec)

/-- 'laws.FnExactGoodKept', WHERE WHAT IT READS IS OF BULK AT MOST 1048576: true; the input reads as it did. -/
def fnExactGoodKeptUptoRow : OpenClaim := { program := "ythemmckchmpicaa", sum := "48e7f8594313a40ff75b1c8ed8d81937327b8ed56b1d7b13d005d6eb36f7f18d", func := "loop.example/g01377/laws.FnExactGoodKept", spec := "fnExactGoodKept", plainKeys := false, apart := false, narrowed := true }
def FnExactGoodKeptUptoSaid : Prop := fnExactGoodKeptUptoRow.holds Try.pinned (OpenSpec.upto fnExactGoodKeptSpec)

/-- 'laws.FnExactKeptHeap', WHERE WHAT IT READS IS OF BULK AT MOST 1048576: true; the input reads as it did. -/
def fnExactKeptHeapUptoRow : OpenClaim := { program := "ythemmckchmpicaa", sum := "48e7f8594313a40ff75b1c8ed8d81937327b8ed56b1d7b13d005d6eb36f7f18d", func := "loop.example/g01377/laws.FnExactKeptHeap", spec := "fnExactKeptHeap", plainKeys := false, apart := false, narrowed := true }
def FnExactKeptHeapUptoSaid : Prop := fnExactKeptHeapUptoRow.holds Try.pinned (OpenSpec.upto fnExactKeptHeapSpec)

/-- 'laws.FnExactWinsSeveral', WHERE WHAT IT READS IS OF BULK AT MOST 1048576: true; the input reads as it did. -/
def fnExactWinsSeveralUptoRow : OpenClaim := { program := "ythemmckchmpicaa", sum := "48e7f8594313a40ff75b1c8ed8d81937327b8ed56b1d7b13d005d6eb36f7f18d", func := "loop.example/g01377/laws.FnExactWinsSeveral", spec := "fnExactWinsSeveral", plainKeys := false, apart := false, narrowed := true }
def FnExactWinsSeveralUptoSaid : Prop := fnExactWinsSeveralUptoRow.holds Try.pinned (OpenSpec.upto fnExactWinsSeveralSpec)

/-- 'laws.FnExactFirstGoodSeveral', WHERE WHAT IT READS IS OF BULK AT MOST 1048576: true; the input reads as it did. -/
def fnExactFirstGoodSeveralUptoRow : OpenClaim := { program := "ythemmckchmpicaa", sum := "48e7f8594313a40ff75b1c8ed8d81937327b8ed56b1d7b13d005d6eb36f7f18d", func := "loop.example/g01377/laws.FnExactFirstGoodSeveral", spec := "fnExactFirstGoodSeveral", plainKeys := false, apart := false, narrowed := true }
def FnExactFirstGoodSeveralUptoSaid : Prop := fnExactFirstGoodSeveralUptoRow.holds Try.pinned (OpenSpec.upto fnExactFirstGoodSeveralSpec)

/-- 'laws.FnExactCountKeptPlays', WHERE WHAT IT READS IS OF BULK AT MOST 1048576: true; the input reads as it did. -/
def fnExactCountKeptPlaysUptoRow : OpenClaim := { program := "ythemmckchmpicaa", sum := "48e7f8594313a40ff75b1c8ed8d81937327b8ed56b1d7b13d005d6eb36f7f18d", func := "loop.example/g01377/laws.FnExactCountKeptPlays", spec := "fnExactCountKeptPlays", plainKeys := false, apart := false, narrowed := true }
def FnExactCountKeptPlaysUptoSaid : Prop := fnExactCountKeptPlaysUptoRow.holds Try.pinned (OpenSpec.upto fnExactCountKeptPlaysSpec)

/-- 'laws.FnExactLostKept', WHERE WHAT IT READS IS OF BULK AT MOST 1048576: true; the input reads as it did. -/
def fnExactLostKeptUptoRow : OpenClaim := { program := "ythemmckchmpicaa", sum := "48e7f8594313a40ff75b1c8ed8d81937327b8ed56b1d7b13d005d6eb36f7f18d", func := "loop.example/g01377/laws.FnExactLostKept", spec := "fnExactLostKept", plainKeys := false, apart := false, narrowed := true }
def FnExactLostKeptUptoSaid : Prop := fnExactLostKeptUptoRow.holds Try.pinned (OpenSpec.upto fnExactLostKeptSpec)

end Rows
end Go.Proofs.Ythemmckchmpicaa
