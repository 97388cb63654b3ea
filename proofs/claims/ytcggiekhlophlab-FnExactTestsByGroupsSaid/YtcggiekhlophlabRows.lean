/-
  No cell of these rows narrows 'for every input' (looked for: loops, veiled, ifaces, maps, wideKeys, modest, calm, conditions, laid).
  DERIVED. THE GIVEN ROWS OF THIS SEAT. 3 by the template 'for every input the law returns true; each argument reads behind the call as it read before'; 0 by the template 'total and deterministic' (their statements: YtcggiekhlophlabTotals.lean).
  GIVEN WITH THE SEED: the statements are not yours to turn. If you find one false, say at which input.
  Laid BY PROGRAM, IN A SANDBOX (cutbox-rows.mjs): the forced cells as the released guide's own fill.sh prints them over the translation 3c0c0aeddc7bf5c8… (all of the seat's roots in one cut). By AI agents, Wed Nov 11 2026. No macro, syntax, notation, axiom, sorry.
-/
import Derived.Test.YtcggiekhlophlabChecked
import GoSem.Claim
import GoSem.ClaimJoined
import GoSem.ClaimMapViews
import Derived.JoinedTies
import Derived.KernelRfl
namespace Go.Proofs.Ytcggiekhlophlab
/- THE CELL 'sum', in the pinned program and in every row, IS THE sha256 OF THE DUMP (.gsa) THAT YtcggiekhlophlabProg.lean LOADS. Nothing in Lean hashes anything: it is a label: what it is worth is what the hold of that sum in a sandbox is worth. -/
noncomputable def Try.pinned : Pinned := { name := "ytcggiekhlophlab", sum := "3c0c0aeddc7bf5c88500aa14147a3fe27af484703ea29d0fad6bfa7cc06f3893", checked := Try.checked }
namespace Rows
def none {H : Type} : Left H := { results := [], args := [] }

/-- 'laws.FnExactTestsByGroups': WHATEVER THE INPUT: true; the input reads as it did. -/
def fnExactTestsByGroupsSpec : ChangeSpec := { name := "fnExactTestsByGroups", fn := fun _ => fun
  | [d1, d2] => { results := [.lit (.bool true)], args := [d1, d2] }
  | _ => none }
def fnExactTestsByGroupsRow : OpenClaim := { program := "ytcggiekhlophlab", sum := "3c0c0aeddc7bf5c88500aa14147a3fe27af484703ea29d0fad6bfa7cc06f3893", func := "loop.example/g01377/laws.FnExactTestsByGroups", spec := "fnExactTestsByGroups", inPlace := ["internal/abi.NoEscape", "internal/bytealg.MakeNoZero", "internal/bytealg.IndexByteString", "internal/bytealg.IndexString"], named := ["internal/bytealg.MaxLen"], apart := false }
def FnExactTestsByGroupsSaid : Prop := fnExactTestsByGroupsRow.holds Try.pinned (OpenSpec.ofChange fnExactTestsByGroupsSpec)

/-- ITS FALSE NEIGHBOUR: 'it returns false'. Refute it at one input. -/
def fnExactTestsByGroupsWrong : ChangeSpec := { name := "fnExactTestsByGroups", fn := fun _ => fun
  | [d1, d2] => { results := [.lit (.bool false)], args := [d1, d2] }
  | _ => none }
def FnExactTestsByGroupsWrongFalsely : Prop := fnExactTestsByGroupsRow.holds Try.pinned (OpenSpec.ofChange fnExactTestsByGroupsWrong)

/-- 'laws.FnExactBestGroup': WHATEVER THE INPUT: true; the input reads as it did. -/
def fnExactBestGroupSpec : ChangeSpec := { name := "fnExactBestGroup", fn := fun _ => fun
  | [d] => { results := [.lit (.bool true)], args := [d] }
  | _ => none }
def fnExactBestGroupRow : OpenClaim := { program := "ytcggiekhlophlab", sum := "3c0c0aeddc7bf5c88500aa14147a3fe27af484703ea29d0fad6bfa7cc06f3893", func := "loop.example/g01377/laws.FnExactBestGroup", spec := "fnExactBestGroup", inPlace := ["internal/abi.NoEscape", "internal/bytealg.MakeNoZero", "internal/bytealg.IndexByteString", "internal/bytealg.IndexString"], named := ["internal/bytealg.MaxLen"], leaving := true, apart := false }
def FnExactBestGroupSaid : Prop := fnExactBestGroupRow.holds Try.pinned (OpenSpec.ofChange fnExactBestGroupSpec)

/-- ITS FALSE NEIGHBOUR: 'it returns false'. Refute it at one input. -/
def fnExactBestGroupWrong : ChangeSpec := { name := "fnExactBestGroup", fn := fun _ => fun
  | [d] => { results := [.lit (.bool false)], args := [d] }
  | _ => none }
def FnExactBestGroupWrongFalsely : Prop := fnExactBestGroupRow.holds Try.pinned (OpenSpec.ofChange fnExactBestGroupWrong)

/-- 'laws.FnExactGridFor': WHATEVER THE INPUT: true; the input reads as it did. -/
def fnExactGridForSpec : ChangeSpec := { name := "fnExactGridFor", fn := fun _ => fun
  | [d] => { results := [.lit (.bool true)], args := [d] }
  | _ => none }
def fnExactGridForRow : OpenClaim := { program := "ytcggiekhlophlab", sum := "3c0c0aeddc7bf5c88500aa14147a3fe27af484703ea29d0fad6bfa7cc06f3893", func := "loop.example/g01377/laws.FnExactGridFor", spec := "fnExactGridFor", apart := false }
def FnExactGridForSaid : Prop := fnExactGridForRow.holds Try.pinned (OpenSpec.ofChange fnExactGridForSpec)

/-- ITS FALSE NEIGHBOUR: 'it returns false'. Refute it at one input. -/
def fnExactGridForWrong : ChangeSpec := { name := "fnExactGridFor", fn := fun _ => fun
  | [d] => { results := [.lit (.bool false)], args := [d] }
  | _ => none }
def FnExactGridForWrongFalsely : Prop := fnExactGridForRow.holds Try.pinned (OpenSpec.ofChange fnExactGridForWrong)

/- THE SECOND FORM. 'bulk': how many values and letters a reading holds, each counted each time it is reached (what is shared counts as often as it is met; a slice's spare places count too). A statement '..UptoSaid' is the law's where the arguments, and the package variables that the reading takes, are together of bulk at most 1048576: NARROWER than '..Said'. Prove '..Said' where nothing that the law and all that it calls make is longer than what came in: it says more and counts as full. Else prove '..UptoSaid'. A law counts once. -/
mutual
def uptoBulk {H : Type} : DataW H → Nat
  | .lit (.string bytes) => bytes.length + 1
  | .lit _ => 1
  | .nil => 1
  | .ptr d => uptoBulk d + 1
  | .slice elems spare => uptoBulkAll elems + uptoBulkAll spare + 1
  | .agg parts => uptoBulkAll parts + 1
  | .iface _ d => uptoBulk d + 1
  | .map entries => uptoBulkEntries entries + 1
  | .held _ => 1
def uptoBulkAll {H : Type} : List (DataW H) → Nat
  | [] => 0
  | d :: r => uptoBulk d + uptoBulkAll r
def uptoBulkEntries {H : Type} : List (Lit × DataW H) → Nat
  | [] => 0
  | x :: r => uptoBulkEntry x + uptoBulkEntries r
def uptoBulkEntry {H : Type} : Lit × DataW H → Nat
  | (.string bytes, d) => bytes.length + uptoBulk d + 1
  | (_, d) => uptoBulk d + 1
 end
def uptoSmall : (H : Type) → List (DataW H) → Bool := fun _ ds => decide (uptoBulkAll ds ≤ 1048576)
def OpenSpec.upto (s : _root_.Go.ChangeSpec) : _root_.Go.OpenSpec := { _root_.Go.OpenSpec.ofChange s with cond := some uptoSmall }

/-- 'laws.FnExactTestsByGroups', WHERE WHAT IT READS IS OF BULK AT MOST 1048576: true; the input reads as it did. -/
def fnExactTestsByGroupsUptoRow : OpenClaim := { program := "ytcggiekhlophlab", sum := "3c0c0aeddc7bf5c88500aa14147a3fe27af484703ea29d0fad6bfa7cc06f3893", func := "loop.example/g01377/laws.FnExactTestsByGroups", spec := "fnExactTestsByGroups", inPlace := ["internal/abi.NoEscape", "internal/bytealg.MakeNoZero", "internal/bytealg.IndexByteString", "internal/bytealg.IndexString"], named := ["internal/bytealg.MaxLen"], apart := false, narrowed := true }
def FnExactTestsByGroupsUptoSaid : Prop := fnExactTestsByGroupsUptoRow.holds Try.pinned (OpenSpec.upto fnExactTestsByGroupsSpec)

/-- 'laws.FnExactBestGroup', WHERE WHAT IT READS IS OF BULK AT MOST 1048576: true; the input reads as it did. -/
def fnExactBestGroupUptoRow : OpenClaim := { program := "ytcggiekhlophlab", sum := "3c0c0aeddc7bf5c88500aa14147a3fe27af484703ea29d0fad6bfa7cc06f3893", func := "loop.example/g01377/laws.FnExactBestGroup", spec := "fnExactBestGroup", inPlace := ["internal/abi.NoEscape", "internal/bytealg.MakeNoZero", "internal/bytealg.IndexByteString", "internal/bytealg.IndexString"], named := ["internal/bytealg.MaxLen"], leaving := true, apart := false, narrowed := true }
def FnExactBestGroupUptoSaid : Prop := fnExactBestGroupUptoRow.holds Try.pinned (OpenSpec.upto fnExactBestGroupSpec)

/-- 'laws.FnExactGridFor', WHERE WHAT IT READS IS OF BULK AT MOST 1048576: true; the input reads as it did. -/
def fnExactGridForUptoRow : OpenClaim := { program := "ytcggiekhlophlab", sum := "3c0c0aeddc7bf5c88500aa14147a3fe27af484703ea29d0fad6bfa7cc06f3893", func := "loop.example/g01377/laws.FnExactGridFor", spec := "fnExactGridFor", apart := false, narrowed := true }
def FnExactGridForUptoSaid : Prop := fnExactGridForUptoRow.holds Try.pinned (OpenSpec.upto fnExactGridForSpec)

end Rows
end Go.Proofs.Ytcggiekhlophlab
