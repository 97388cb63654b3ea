/-
  No cell of these rows narrows 'for every input' (looked for: loops, veiled, ifaces, maps, wideKeys, modest, calm, conditions, laid).
  DERIVED. THE GIVEN ROWS OF THIS SEAT. 5 by the template 'for every input the law returns true; each argument reads behind the call as it read before'; 0 by the template 'total and deterministic' (their statements: YtobncknlipeinaaTotals.lean).
  GIVEN WITH THE SEED: the statements are not yours to turn. If you find one false, say at which input.
  Laid BY PROGRAM, IN A SANDBOX (cutbox-rows.mjs): the forced cells as the released guide's own fill.sh prints them over the translation 74c7177664be666f… (all of the seat's roots in one cut). By AI agents, Wed Nov 11 2026. No macro, syntax, notation, axiom, sorry.
-/
import Derived.Test.YtobncknlipeinaaChecked
import GoSem.Claim
import GoSem.ClaimJoined
import GoSem.ClaimMapViews
import Derived.JoinedTies
import Derived.KernelRfl
namespace Go.Proofs.Ytobncknlipeinaa
/- THE CELL 'sum', in the pinned program and in every row, IS THE sha256 OF THE DUMP (.gsa) THAT YtobncknlipeinaaProg.lean LOADS. Nothing in Lean hashes anything: it is a label: what it is worth is what the hold of that sum in a sandbox is worth. -/
noncomputable def Try.pinned : Pinned := { name := "ytobncknlipeinaa", sum := "74c7177664be666f3712679370c3acb644176059abc1905082010a49e018a3a5", checked := Try.checked }
namespace Rows
def none {H : Type} : Left H := { results := [], args := [] }

/-- 'laws.FnExactLeastToEat': WHATEVER THE INPUT: true; the input reads as it did. -/
def fnExactLeastToEatSpec : ChangeSpec := { name := "fnExactLeastToEat", fn := fun _ => fun
  | [d1, d2] => { results := [.lit (.bool true)], args := [d1, d2] }
  | _ => none }
def fnExactLeastToEatRow : OpenClaim := { program := "ytobncknlipeinaa", sum := "74c7177664be666f3712679370c3acb644176059abc1905082010a49e018a3a5", func := "loop.example/g01377/laws.FnExactLeastToEat", spec := "fnExactLeastToEat", plainKeys := false, apart := false }
def FnExactLeastToEatSaid : Prop := fnExactLeastToEatRow.holds Try.pinned (OpenSpec.ofChange fnExactLeastToEatSpec)

/-- ITS FALSE NEIGHBOUR: 'it returns false'. Refute it at one input. -/
def fnExactLeastToEatWrong : ChangeSpec := { name := "fnExactLeastToEat", fn := fun _ => fun
  | [d1, d2] => { results := [.lit (.bool false)], args := [d1, d2] }
  | _ => none }
def FnExactLeastToEatWrongFalsely : Prop := fnExactLeastToEatRow.holds Try.pinned (OpenSpec.ofChange fnExactLeastToEatWrong)

/-- 'laws.FnExactFirstToEat': WHATEVER THE INPUT: true; the input reads as it did. -/
def fnExactFirstToEatSpec : ChangeSpec := { name := "fnExactFirstToEat", fn := fun _ => fun
  | [d1, d2] => { results := [.lit (.bool true)], args := [d1, d2] }
  | _ => none }
def fnExactFirstToEatRow : OpenClaim := { program := "ytobncknlipeinaa", sum := "74c7177664be666f3712679370c3acb644176059abc1905082010a49e018a3a5", func := "loop.example/g01377/laws.FnExactFirstToEat", spec := "fnExactFirstToEat", plainKeys := false, apart := false }
def FnExactFirstToEatSaid : Prop := fnExactFirstToEatRow.holds Try.pinned (OpenSpec.ofChange fnExactFirstToEatSpec)

/-- ITS FALSE NEIGHBOUR: 'it returns false'. Refute it at one input. -/
def fnExactFirstToEatWrong : ChangeSpec := { name := "fnExactFirstToEat", fn := fun _ => fun
  | [d1, d2] => { results := [.lit (.bool false)], args := [d1, d2] }
  | _ => none }
def FnExactFirstToEatWrongFalsely : Prop := fnExactFirstToEatRow.holds Try.pinned (OpenSpec.ofChange fnExactFirstToEatWrong)

/-- 'laws.FnExactCheapestToEat': WHATEVER THE INPUT: true; the input reads as it did. -/
def fnExactCheapestToEatSpec : ChangeSpec := { name := "fnExactCheapestToEat", fn := fun _ => fun
  | [d] => { results := [.lit (.bool true)], args := [d] }
  | _ => none }
def fnExactCheapestToEatRow : OpenClaim := { program := "ytobncknlipeinaa", sum := "74c7177664be666f3712679370c3acb644176059abc1905082010a49e018a3a5", func := "loop.example/g01377/laws.FnExactCheapestToEat", spec := "fnExactCheapestToEat", plainKeys := false, apart := false }
def FnExactCheapestToEatSaid : Prop := fnExactCheapestToEatRow.holds Try.pinned (OpenSpec.ofChange fnExactCheapestToEatSpec)

/-- ITS FALSE NEIGHBOUR: 'it returns false'. Refute it at one input. -/
def fnExactCheapestToEatWrong : ChangeSpec := { name := "fnExactCheapestToEat", fn := fun _ => fun
  | [d] => { results := [.lit (.bool false)], args := [d] }
  | _ => none }
def FnExactCheapestToEatWrongFalsely : Prop := fnExactCheapestToEatRow.holds Try.pinned (OpenSpec.ofChange fnExactCheapestToEatWrong)

/-- 'laws.FnExactTurnNuts': WHATEVER THE INPUT: true; the input reads as it did. -/
def fnExactTurnNutsSpec : ChangeSpec := { name := "fnExactTurnNuts", fn := fun _ => fun
  | [d] => { results := [.lit (.bool true)], args := [d] }
  | _ => none }
def fnExactTurnNutsRow : OpenClaim := { program := "ytobncknlipeinaa", sum := "74c7177664be666f3712679370c3acb644176059abc1905082010a49e018a3a5", func := "loop.example/g01377/laws.FnExactTurnNuts", spec := "fnExactTurnNuts", plainKeys := false, apart := false }
def FnExactTurnNutsSaid : Prop := fnExactTurnNutsRow.holds Try.pinned (OpenSpec.ofChange fnExactTurnNutsSpec)

/-- ITS FALSE NEIGHBOUR: 'it returns false'. Refute it at one input. -/
def fnExactTurnNutsWrong : ChangeSpec := { name := "fnExactTurnNuts", fn := fun _ => fun
  | [d] => { results := [.lit (.bool false)], args := [d] }
  | _ => none }
def FnExactTurnNutsWrongFalsely : Prop := fnExactTurnNutsRow.holds Try.pinned (OpenSpec.ofChange fnExactTurnNutsWrong)

/-- 'laws.FnExactSameNuts': WHATEVER THE INPUT: true; the input reads as it did. -/
def fnExactSameNutsSpec : ChangeSpec := { name := "fnExactSameNuts", fn := fun _ => fun
  | [d1, d2] => { results := [.lit (.bool true)], args := [d1, d2] }
  | _ => none }
def fnExactSameNutsRow : OpenClaim := { program := "ytobncknlipeinaa", sum := "74c7177664be666f3712679370c3acb644176059abc1905082010a49e018a3a5", func := "loop.example/g01377/laws.FnExactSameNuts", spec := "fnExactSameNuts", plainKeys := false, apart := false }
def FnExactSameNutsSaid : Prop := fnExactSameNutsRow.holds Try.pinned (OpenSpec.ofChange fnExactSameNutsSpec)

/-- ITS FALSE NEIGHBOUR: 'it returns false'. Refute it at one input. -/
def fnExactSameNutsWrong : ChangeSpec := { name := "fnExactSameNuts", fn := fun _ => fun
  | [d1, d2] => { results := [.lit (.bool false)], args := [d1, d2] }
  | _ => none }
def FnExactSameNutsWrongFalsely : Prop := fnExactSameNutsRow.holds Try.pinned (OpenSpec.ofChange fnExactSameNutsWrong)

/- THE SECOND FORM. 'bulk': how many values and letters a reading holds, each counted each time it is reached (what is shared counts as often as it is met; a slice's spare places count too). A statement '..UptoSaid' is the law's where the arguments, and the package variables that the reading takes, are together of bulk at most 1048576: NARROWER than '..Said'. Prove '..Said' where nothing that the law and all that it calls make is longer than what came in: it says more and counts as full. Else prove '..UptoSaid'. A law counts once. -/
mutual
def uptoBulk {H : Type} : DataW H → Nat
  | .lit (.string bytes) => bytes.length + 1
  | .lit _ => 1
  | .nil => 1
  | .ptr d => uptoBulk d + 1
  | .slice elems spare => uptoBulkAll elems + uptoBulkAll spare + 1
  | .agg parts => uptoBulkAll parts + 1
  | .iface _ d => uptoBulk d + 1
  | .map entries => uptoBulkEntries entries + 1
  | .held _ => 1
def uptoBulkAll {H : Type} : List (DataW H) → Nat
  | [] => 0
  | d :: r => uptoBulk d + uptoBulkAll r
def uptoBulkEntries {H : Type} : List (Lit × DataW H) → Nat
  | [] => 0
  | x :: r => uptoBulkEntry x + uptoBulkEntries r
def uptoBulkEntry {H : Type} : Lit × DataW H → Nat
  | (.string bytes, d) => bytes.length + uptoBulk d + 1
  | (_, d) => uptoBulk d + 1
 end
def uptoSmall : (H : Type) → List (DataW H) → Bool := fun _ ds => decide (uptoBulkAll ds ≤ 1048576)
def OpenSpec.upto (s : _root_.Go.ChangeSpec) : _root_.Go.OpenSpec := { _root_.Go.OpenSpec.ofChange s with cond := some uptoSmall }

/-- 'laws.FnExactLeastToEat', WHERE WHAT IT READS IS OF BULK AT MOST 1048576: true; the input reads as it did. -/
def fnExactLeastToEatUptoRow : OpenClaim := { program := "ytobncknlipeinaa", sum := "74c7177664be666f3712679370c3acb644176059abc1905082010a49e018a3a5", func := "loop.example/g01377/laws.FnExactLeastToEat", spec := "fnExactLeastToEat", plainKeys := false, apart := false, narrowed := true }
def FnExactLeastToEatUptoSaid : Prop := fnExactLeastToEatUptoRow.holds Try.pinned (OpenSpec.upto fnExactLeastToEatSpec)

/-- 'laws.FnExactFirstToEat', WHERE WHAT IT READS IS OF BULK AT MOST 1048576: true; the input reads as it did. -/
def fnExactFirstToEatUptoRow : OpenClaim := { program := "ytobncknlipeinaa", sum := "74c7177664be666f3712679370c3acb644176059abc1905082010a49e018a3a5", func := "loop.example/g01377/laws.FnExactFirstToEat", spec := "fnExactFirstToEat", plainKeys := false, apart := false, narrowed := true }
def FnExactFirstToEatUptoSaid : Prop := fnExactFirstToEatUptoRow.holds Try.pinned (OpenSpec.upto fnExactFirstToEatSpec)

/-- 'laws.FnExactCheapestToEat', WHERE WHAT IT READS IS OF BULK AT MOST 1048576: true; the input reads as it did. -/
def fnExactCheapestToEatUptoRow : OpenClaim := { program := "ytobncknlipeinaa", sum := "74c7177664be666f3712679370c3acb644176059abc1905082010a49e018a3a5", func := "loop.example/g01377/laws.FnExactCheapestToEat", spec := "fnExactCheapestToEat", plainKeys := false, apart := false, narrowed := true }
def FnExactCheapestToEatUptoSaid : Prop := fnExactCheapestToEatUptoRow.holds Try.pinned (OpenSpec.upto fnExactCheapestToEatSpec)

/-- 'laws.FnExactTurnNuts', WHERE WHAT IT READS IS OF BULK AT MOST 1048576: true; the input reads as it did. -/
def fnExactTurnNutsUptoRow : OpenClaim := { program := "ytobncknlipeinaa", sum := "74c7177664be666f3712679370c3acb644176059abc1905082010a49e018a3a5", func := "loop.example/g01377/laws.FnExactTurnNuts", spec := "fnExactTurnNuts", plainKeys := false, apart := false, narrowed := true }
def FnExactTurnNutsUptoSaid : Prop := fnExactTurnNutsUptoRow.holds Try.pinned (OpenSpec.upto fnExactTurnNutsSpec)

/-- 'laws.FnExactSameNuts', WHERE WHAT IT READS IS OF BULK AT MOST 1048576: true; the input reads as it did. -/
def fnExactSameNutsUptoRow : OpenClaim := { program := "ytobncknlipeinaa", sum := "74c7177664be666f3712679370c3acb644176059abc1905082010a49e018a3a5", func := "loop.example/g01377/laws.FnExactSameNuts", spec := "fnExactSameNuts", plainKeys := false, apart := false, narrowed := true }
def FnExactSameNutsUptoSaid : Prop := fnExactSameNutsUptoRow.holds Try.pinned (OpenSpec.upto fnExactSameNutsSpec)

end Rows
end Go.Proofs.Ytobncknlipeinaa
