/-
  No cell of these rows narrows 'for every input' (looked for: loops, veiled, ifaces, maps, wideKeys, modest, calm, conditions, laid).
  DERIVED. THE GIVEN ROWS OF THIS SEAT. 5 by the template 'for every input the law returns true; each argument reads behind the call as it read before'; 0 by the template 'total and deterministic' (their statements: YtkijcpbjjbhnhabTotals.lean).
  GIVEN WITH THE SEED: the statements are not yours to turn. If you find one false, say at which input.
  Laid BY PROGRAM, IN A SANDBOX (cutbox-rows.mjs): the forced cells as the released guide's own fill.sh prints them over the translation cfd7c48264a542f4… (all of the seat's roots in one cut). By AI agents, Wed Nov 11 2026. No macro, syntax, notation, axiom, sorry.
-/
import Derived.Test.YtkijcpbjjbhnhabChecked
import GoSem.Claim
import GoSem.ClaimJoined
import GoSem.ClaimMapViews
import Derived.JoinedTies
import Derived.KernelRfl
namespace Go.Proofs.Ytkijcpbjjbhnhab
/- THE CELL 'sum', in the pinned program and in every row, IS THE sha256 OF THE DUMP (.gsa) THAT YtkijcpbjjbhnhabProg.lean LOADS. Nothing in Lean hashes anything: it is a label: what it is worth is what the hold of that sum in a sandbox is worth. -/
noncomputable def Try.pinned : Pinned := { name := "ytkijcpbjjbhnhab", sum := "cfd7c48264a542f421fc87fa7f5dea929cb6ba2b7a76805297f705f19f3e23b7", checked := Try.checked }
namespace Rows
def none {H : Type} : Left H := { results := [], args := [] }

/-- 'laws.FnExactIsStack': WHATEVER THE INPUT: true; the input reads as it did. -/
def fnExactIsStackSpec : ChangeSpec := { name := "fnExactIsStack", fn := fun _ => fun
  | [d1, d2] => { results := [.lit (.bool true)], args := [d1, d2] }
  | _ => none }
def fnExactIsStackRow : OpenClaim := { program := "ytkijcpbjjbhnhab", sum := "cfd7c48264a542f421fc87fa7f5dea929cb6ba2b7a76805297f705f19f3e23b7", func := "loop.example/g01377/laws.FnExactIsStack", spec := "fnExactIsStack", unfollowed := true, recurses := true, apart := false }
def FnExactIsStackSaid : Prop := fnExactIsStackRow.holds Try.pinned (OpenSpec.ofChange fnExactIsStackSpec)

/-- ITS FALSE NEIGHBOUR: 'it returns false'. Refute it at one input. -/
def fnExactIsStackWrong : ChangeSpec := { name := "fnExactIsStack", fn := fun _ => fun
  | [d1, d2] => { results := [.lit (.bool false)], args := [d1, d2] }
  | _ => none }
def FnExactIsStackWrongFalsely : Prop := fnExactIsStackRow.holds Try.pinned (OpenSpec.ofChange fnExactIsStackWrong)

/-- 'laws.FnExactMostStacked': WHATEVER THE INPUT: true; the input reads as it did. -/
def fnExactMostStackedSpec : ChangeSpec := { name := "fnExactMostStacked", fn := fun _ => fun
  | [d] => { results := [.lit (.bool true)], args := [d] }
  | _ => none }
def fnExactMostStackedRow : OpenClaim := { program := "ytkijcpbjjbhnhab", sum := "cfd7c48264a542f421fc87fa7f5dea929cb6ba2b7a76805297f705f19f3e23b7", func := "loop.example/g01377/laws.FnExactMostStacked", spec := "fnExactMostStacked", unfollowed := true, recurses := true, apart := false }
def FnExactMostStackedSaid : Prop := fnExactMostStackedRow.holds Try.pinned (OpenSpec.ofChange fnExactMostStackedSpec)

/-- ITS FALSE NEIGHBOUR: 'it returns false'. Refute it at one input. -/
def fnExactMostStackedWrong : ChangeSpec := { name := "fnExactMostStacked", fn := fun _ => fun
  | [d] => { results := [.lit (.bool false)], args := [d] }
  | _ => none }
def FnExactMostStackedWrongFalsely : Prop := fnExactMostStackedRow.holds Try.pinned (OpenSpec.ofChange fnExactMostStackedWrong)

/-- 'laws.FnExactFirstStack': WHATEVER THE INPUT: true; the input reads as it did. -/
def fnExactFirstStackSpec : ChangeSpec := { name := "fnExactFirstStack", fn := fun _ => fun
  | [d] => { results := [.lit (.bool true)], args := [d] }
  | _ => none }
def fnExactFirstStackRow : OpenClaim := { program := "ytkijcpbjjbhnhab", sum := "cfd7c48264a542f421fc87fa7f5dea929cb6ba2b7a76805297f705f19f3e23b7", func := "loop.example/g01377/laws.FnExactFirstStack", spec := "fnExactFirstStack", unfollowed := true, recurses := true, apart := false }
def FnExactFirstStackSaid : Prop := fnExactFirstStackRow.holds Try.pinned (OpenSpec.ofChange fnExactFirstStackSpec)

/-- ITS FALSE NEIGHBOUR: 'it returns false'. Refute it at one input. -/
def fnExactFirstStackWrong : ChangeSpec := { name := "fnExactFirstStack", fn := fun _ => fun
  | [d] => { results := [.lit (.bool false)], args := [d] }
  | _ => none }
def FnExactFirstStackWrongFalsely : Prop := fnExactFirstStackRow.holds Try.pinned (OpenSpec.ofChange fnExactFirstStackWrong)

/-- 'laws.FnExactHeaviestStack': WHATEVER THE INPUT: true; the input reads as it did. -/
def fnExactHeaviestStackSpec : ChangeSpec := { name := "fnExactHeaviestStack", fn := fun _ => fun
  | [d] => { results := [.lit (.bool true)], args := [d] }
  | _ => none }
def fnExactHeaviestStackRow : OpenClaim := { program := "ytkijcpbjjbhnhab", sum := "cfd7c48264a542f421fc87fa7f5dea929cb6ba2b7a76805297f705f19f3e23b7", func := "loop.example/g01377/laws.FnExactHeaviestStack", spec := "fnExactHeaviestStack", unfollowed := true, recurses := true, apart := false }
def FnExactHeaviestStackSaid : Prop := fnExactHeaviestStackRow.holds Try.pinned (OpenSpec.ofChange fnExactHeaviestStackSpec)

/-- ITS FALSE NEIGHBOUR: 'it returns false'. Refute it at one input. -/
def fnExactHeaviestStackWrong : ChangeSpec := { name := "fnExactHeaviestStack", fn := fun _ => fun
  | [d] => { results := [.lit (.bool false)], args := [d] }
  | _ => none }
def FnExactHeaviestStackWrongFalsely : Prop := fnExactHeaviestStackRow.holds Try.pinned (OpenSpec.ofChange fnExactHeaviestStackWrong)

/-- 'laws.FnExactCountStacks': WHATEVER THE INPUT: true; the input reads as it did. -/
def fnExactCountStacksSpec : ChangeSpec := { name := "fnExactCountStacks", fn := fun _ => fun
  | [d] => { results := [.lit (.bool true)], args := [d] }
  | _ => none }
def fnExactCountStacksRow : OpenClaim := { program := "ytkijcpbjjbhnhab", sum := "cfd7c48264a542f421fc87fa7f5dea929cb6ba2b7a76805297f705f19f3e23b7", func := "loop.example/g01377/laws.FnExactCountStacks", spec := "fnExactCountStacks", unfollowed := true, recurses := true, apart := false }
def FnExactCountStacksSaid : Prop := fnExactCountStacksRow.holds Try.pinned (OpenSpec.ofChange fnExactCountStacksSpec)

/-- ITS FALSE NEIGHBOUR: 'it returns false'. Refute it at one input. -/
def fnExactCountStacksWrong : ChangeSpec := { name := "fnExactCountStacks", fn := fun _ => fun
  | [d] => { results := [.lit (.bool false)], args := [d] }
  | _ => none }
def FnExactCountStacksWrongFalsely : Prop := fnExactCountStacksRow.holds Try.pinned (OpenSpec.ofChange fnExactCountStacksWrong)

/- THE SECOND FORM. 'bulk': how many values and letters a reading holds, each counted each time it is reached (what is shared counts as often as it is met; a slice's spare places count too). A statement '..UptoSaid' is the law's where the arguments, and the package variables that the reading takes, are together of bulk at most 1048576: NARROWER than '..Said'. Prove '..Said' where nothing that the law and all that it calls make is longer than what came in: it says more and counts as full. Else prove '..UptoSaid'. A law counts once. -/
mutual
def uptoBulk {H : Type} : DataW H → Nat
  | .lit (.string bytes) => bytes.length + 1
  | .lit _ => 1
  | .nil => 1
  | .ptr d => uptoBulk d + 1
  | .slice elems spare => uptoBulkAll elems + uptoBulkAll spare + 1
  | .agg parts => uptoBulkAll parts + 1
  | .iface _ d => uptoBulk d + 1
  | .map entries => uptoBulkEntries entries + 1
  | .held _ => 1
def uptoBulkAll {H : Type} : List (DataW H) → Nat
  | [] => 0
  | d :: r => uptoBulk d + uptoBulkAll r
def uptoBulkEntries {H : Type} : List (Lit × DataW H) → Nat
  | [] => 0
  | x :: r => uptoBulkEntry x + uptoBulkEntries r
def uptoBulkEntry {H : Type} : Lit × DataW H → Nat
  | (.string bytes, d) => bytes.length + uptoBulk d + 1
  | (_, d) => uptoBulk d + 1
 end
def uptoSmall : (H : Type) → List (DataW H) → Bool := fun _ ds => decide (uptoBulkAll ds ≤ 1048576)
def OpenSpec.upto (s : _root_.Go.ChangeSpec) : _root_.Go.OpenSpec := { _root_.Go.OpenSpec.ofChange s with cond := some uptoSmall }

/-- 'laws.FnExactIsStack', WHERE WHAT IT READS IS OF BULK AT MOST 1048576: true; the input reads as it did. -/
def fnExactIsStackUptoRow : OpenClaim := { program := "ytkijcpbjjbhnhab", sum := "cfd7c48264a542f421fc87fa7f5dea929cb6ba2b7a76805297f705f19f3e23b7", func := "loop.example/g01377/laws.FnExactIsStack", spec := "fnExactIsStack", unfollowed := true, recurses := true, apart := false, narrowed := true }
def FnExactIsStackUptoSaid : Prop := fnExactIsStackUptoRow.holds Try.pinned (OpenSpec.upto fnExactIsStackSpec)

/-- 'laws.FnExactMostStacked', WHERE WHAT IT READS IS OF BULK AT MOST 1048576: true; the input reads as it did. -/
def fnExactMostStackedUptoRow : OpenClaim := { program := "ytkijcpbjjbhnhab", sum := "cfd7c48264a542f421fc87fa7f5dea929cb6ba2b7a76805297f705f19f3e23b7", func := "loop.example/g01377/laws.FnExactMostStacked", spec := "fnExactMostStacked", unfollowed := true, recurses := true, apart := false, narrowed := true }
def FnExactMostStackedUptoSaid : Prop := fnExactMostStackedUptoRow.holds Try.pinned (OpenSpec.upto fnExactMostStackedSpec)

/-- 'laws.FnExactFirstStack', WHERE WHAT IT READS IS OF BULK AT MOST 1048576: true; the input reads as it did. -/
def fnExactFirstStackUptoRow : OpenClaim := { program := "ytkijcpbjjbhnhab", sum := "cfd7c48264a542f421fc87fa7f5dea929cb6ba2b7a76805297f705f19f3e23b7", func := "loop.example/g01377/laws.FnExactFirstStack", spec := "fnExactFirstStack", unfollowed := true, recurses := true, apart := false, narrowed := true }
def FnExactFirstStackUptoSaid : Prop := fnExactFirstStackUptoRow.holds Try.pinned (OpenSpec.upto fnExactFirstStackSpec)

/-- 'laws.FnExactHeaviestStack', WHERE WHAT IT READS IS OF BULK AT MOST 1048576: true; the input reads as it did. -/
def fnExactHeaviestStackUptoRow : OpenClaim := { program := "ytkijcpbjjbhnhab", sum := "cfd7c48264a542f421fc87fa7f5dea929cb6ba2b7a76805297f705f19f3e23b7", func := "loop.example/g01377/laws.FnExactHeaviestStack", spec := "fnExactHeaviestStack", unfollowed := true, recurses := true, apart := false, narrowed := true }
def FnExactHeaviestStackUptoSaid : Prop := fnExactHeaviestStackUptoRow.holds Try.pinned (OpenSpec.upto fnExactHeaviestStackSpec)

/-- 'laws.FnExactCountStacks', WHERE WHAT IT READS IS OF BULK AT MOST 1048576: true; the input reads as it did. -/
def fnExactCountStacksUptoRow : OpenClaim := { program := "ytkijcpbjjbhnhab", sum := "cfd7c48264a542f421fc87fa7f5dea929cb6ba2b7a76805297f705f19f3e23b7", func := "loop.example/g01377/laws.FnExactCountStacks", spec := "fnExactCountStacks", unfollowed := true, recurses := true, apart := false, narrowed := true }
def FnExactCountStacksUptoSaid : Prop := fnExactCountStacksUptoRow.holds Try.pinned (OpenSpec.upto fnExactCountStacksSpec)

end Rows
end Go.Proofs.Ytkijcpbjjbhnhab
