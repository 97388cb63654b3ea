/-
  No cell of these rows narrows 'for every input' (looked for: loops, veiled, ifaces, maps, wideKeys, modest, calm, conditions, laid).
  DERIVED. THE GIVEN ROWS OF THIS SEAT. 5 by the template 'for every input the law returns true; each argument reads behind the call as it read before'; 0 by the template 'total and deterministic' (their statements: YthbbddgjphdgjabTotals.lean).
  GIVEN WITH THE SEED: the statements are not yours to turn. If you find one false, say at which input.
  Laid BY PROGRAM, IN A SANDBOX (cutbox-rows.mjs): the forced cells as the released guide's own fill.sh prints them over the translation e33a528701cfc188… (all of the seat's roots in one cut). By AI agents, Wed Nov 11 2026. No macro, syntax, notation, axiom, sorry.
-/
import Derived.Test.YthbbddgjphdgjabChecked
import GoSem.Claim
import GoSem.ClaimJoined
import GoSem.ClaimMapViews
import Derived.JoinedTies
import Derived.KernelRfl
namespace Go.Proofs.Ythbbddgjphdgjab
/- THE CELL 'sum', in the pinned program and in every row, IS THE sha256 OF THE DUMP (.gsa) THAT YthbbddgjphdgjabProg.lean LOADS. Nothing in Lean hashes anything: it is a label: what it is worth is what the hold of that sum in a sandbox is worth. -/
noncomputable def Try.pinned : Pinned := { name := "ythbbddgjphdgjab", sum := "e33a528701cfc18829b005df4c359811975e6d0d5a7c44768eedffbc2a04d6a3", checked := Try.checked }
namespace Rows
def none {H : Type} : Left H := { results := [], args := [] }

/-- 'laws.FnExactFitsInto': WHATEVER THE INPUT: true; the input reads as it did. -/
def fnExactFitsIntoSpec : ChangeSpec := { name := "fnExactFitsInto", fn := fun _ => fun
  | [d1, d2] => { results := [.lit (.bool true)], args := [d1, d2] }
  | _ => none }
def fnExactFitsIntoRow : OpenClaim := { program := "ythbbddgjphdgjab", sum := "e33a528701cfc18829b005df4c359811975e6d0d5a7c44768eedffbc2a04d6a3", func := "loop.example/g01377/laws.FnExactFitsInto", spec := "fnExactFitsInto", apart := false }
def FnExactFitsIntoSaid : Prop := fnExactFitsIntoRow.holds Try.pinned (OpenSpec.ofChange fnExactFitsIntoSpec)

/-- ITS FALSE NEIGHBOUR: 'it returns false'. Refute it at one input. -/
def fnExactFitsIntoWrong : ChangeSpec := { name := "fnExactFitsInto", fn := fun _ => fun
  | [d1, d2] => { results := [.lit (.bool false)], args := [d1, d2] }
  | _ => none }
def FnExactFitsIntoWrongFalsely : Prop := fnExactFitsIntoRow.holds Try.pinned (OpenSpec.ofChange fnExactFitsIntoWrong)

/-- 'laws.FnExactLongestNest': WHATEVER THE INPUT: true; the input reads as it did. -/
def fnExactLongestNestSpec : ChangeSpec := { name := "fnExactLongestNest", fn := fun _ => fun
  | [d] => { results := [.lit (.bool true)], args := [d] }
  | _ => none }
def fnExactLongestNestRow : OpenClaim := { program := "ythbbddgjphdgjab", sum := "e33a528701cfc18829b005df4c359811975e6d0d5a7c44768eedffbc2a04d6a3", func := "loop.example/g01377/laws.FnExactLongestNest", spec := "fnExactLongestNest", recurses := true, apart := false }
def FnExactLongestNestSaid : Prop := fnExactLongestNestRow.holds Try.pinned (OpenSpec.ofChange fnExactLongestNestSpec)

/-- ITS FALSE NEIGHBOUR: 'it returns false'. Refute it at one input. -/
def fnExactLongestNestWrong : ChangeSpec := { name := "fnExactLongestNest", fn := fun _ => fun
  | [d] => { results := [.lit (.bool false)], args := [d] }
  | _ => none }
def FnExactLongestNestWrongFalsely : Prop := fnExactLongestNestRow.holds Try.pinned (OpenSpec.ofChange fnExactLongestNestWrong)

/-- 'laws.FnExactBoxesByPaper': WHATEVER THE INPUT: true; the input reads as it did. -/
def fnExactBoxesByPaperSpec : ChangeSpec := { name := "fnExactBoxesByPaper", fn := fun _ => fun
  | [d] => { results := [.lit (.bool true)], args := [d] }
  | _ => none }
def fnExactBoxesByPaperRow : OpenClaim := { program := "ythbbddgjphdgjab", sum := "e33a528701cfc18829b005df4c359811975e6d0d5a7c44768eedffbc2a04d6a3", func := "loop.example/g01377/laws.FnExactBoxesByPaper", spec := "fnExactBoxesByPaper", unfollowed := true, recurses := true, leaving := true, apart := false }
def FnExactBoxesByPaperSaid : Prop := fnExactBoxesByPaperRow.holds Try.pinned (OpenSpec.ofChange fnExactBoxesByPaperSpec)

/-- ITS FALSE NEIGHBOUR: 'it returns false'. Refute it at one input. -/
def fnExactBoxesByPaperWrong : ChangeSpec := { name := "fnExactBoxesByPaper", fn := fun _ => fun
  | [d] => { results := [.lit (.bool false)], args := [d] }
  | _ => none }
def FnExactBoxesByPaperWrongFalsely : Prop := fnExactBoxesByPaperRow.holds Try.pinned (OpenSpec.ofChange fnExactBoxesByPaperWrong)

/-- 'laws.FnExactSheetFor': WHATEVER THE INPUT: true; the input reads as it did. -/
def fnExactSheetForSpec : ChangeSpec := { name := "fnExactSheetFor", fn := fun _ => fun
  | [d1, d2] => { results := [.lit (.bool true)], args := [d1, d2] }
  | _ => none }
def fnExactSheetForRow : OpenClaim := { program := "ythbbddgjphdgjab", sum := "e33a528701cfc18829b005df4c359811975e6d0d5a7c44768eedffbc2a04d6a3", func := "loop.example/g01377/laws.FnExactSheetFor", spec := "fnExactSheetFor", apart := false }
def FnExactSheetForSaid : Prop := fnExactSheetForRow.holds Try.pinned (OpenSpec.ofChange fnExactSheetForSpec)

/-- ITS FALSE NEIGHBOUR: 'it returns false'. Refute it at one input. -/
def fnExactSheetForWrong : ChangeSpec := { name := "fnExactSheetFor", fn := fun _ => fun
  | [d1, d2] => { results := [.lit (.bool false)], args := [d1, d2] }
  | _ => none }
def FnExactSheetForWrongFalsely : Prop := fnExactSheetForRow.holds Try.pinned (OpenSpec.ofChange fnExactSheetForWrong)

/-- 'laws.FnExactFitsSheet': WHATEVER THE INPUT: true; the input reads as it did. -/
def fnExactFitsSheetSpec : ChangeSpec := { name := "fnExactFitsSheet", fn := fun _ => fun
  | [d1, d2, d3, d4] => { results := [.lit (.bool true)], args := [d1, d2, d3, d4] }
  | _ => none }
def fnExactFitsSheetRow : OpenClaim := { program := "ythbbddgjphdgjab", sum := "e33a528701cfc18829b005df4c359811975e6d0d5a7c44768eedffbc2a04d6a3", func := "loop.example/g01377/laws.FnExactFitsSheet", spec := "fnExactFitsSheet", apart := false }
def FnExactFitsSheetSaid : Prop := fnExactFitsSheetRow.holds Try.pinned (OpenSpec.ofChange fnExactFitsSheetSpec)

/-- ITS FALSE NEIGHBOUR: 'it returns false'. Refute it at one input. -/
def fnExactFitsSheetWrong : ChangeSpec := { name := "fnExactFitsSheet", fn := fun _ => fun
  | [d1, d2, d3, d4] => { results := [.lit (.bool false)], args := [d1, d2, d3, d4] }
  | _ => none }
def FnExactFitsSheetWrongFalsely : Prop := fnExactFitsSheetRow.holds Try.pinned (OpenSpec.ofChange fnExactFitsSheetWrong)

/- THE SECOND FORM. 'bulk': how many values and letters a reading holds, each counted each time it is reached (what is shared counts as often as it is met; a slice's spare places count too). A statement '..UptoSaid' is the law's where the arguments, and the package variables that the reading takes, are together of bulk at most 1048576: NARROWER than '..Said'. Prove '..Said' where nothing that the law and all that it calls make is longer than what came in: it says more and counts as full. Else prove '..UptoSaid'. A law counts once. -/
mutual
def uptoBulk {H : Type} : DataW H → Nat
  | .lit (.string bytes) => bytes.length + 1
  | .lit _ => 1
  | .nil => 1
  | .ptr d => uptoBulk d + 1
  | .slice elems spare => uptoBulkAll elems + uptoBulkAll spare + 1
  | .agg parts => uptoBulkAll parts + 1
  | .iface _ d => uptoBulk d + 1
  | .map entries => uptoBulkEntries entries + 1
  | .held _ => 1
def uptoBulkAll {H : Type} : List (DataW H) → Nat
  | [] => 0
  | d :: r => uptoBulk d + uptoBulkAll r
def uptoBulkEntries {H : Type} : List (Lit × DataW H) → Nat
  | [] => 0
  | x :: r => uptoBulkEntry x + uptoBulkEntries r
def uptoBulkEntry {H : Type} : Lit × DataW H → Nat
  | (.string bytes, d) => bytes.length + uptoBulk d + 1
  | (_, d) => uptoBulk d + 1
 end
def uptoSmall : (H : Type) → List (DataW H) → Bool := fun _ ds => decide (uptoBulkAll ds ≤ 1048576)
def OpenSpec.upto (s : _root_.Go.ChangeSpec) : _root_.Go.OpenSpec := { _root_.Go.OpenSpec.ofChange s with cond := some uptoSmall }

/-- 'laws.FnExactFitsInto', WHERE WHAT IT READS IS OF BULK AT MOST 1048576: true; the input reads as it did. -/
def fnExactFitsIntoUptoRow : OpenClaim := { program := "ythbbddgjphdgjab", sum := "e33a528701cfc18829b005df4c359811975e6d0d5a7c44768eedffbc2a04d6a3", func := "loop.example/g01377/laws.FnExactFitsInto", spec := "fnExactFitsInto", apart := false, narrowed := true }
def FnExactFitsIntoUptoSaid : Prop := fnExactFitsIntoUptoRow.holds Try.pinned (OpenSpec.upto fnExactFitsIntoSpec)

/-- 'laws.FnExactLongestNest', WHERE WHAT IT READS IS OF BULK AT MOST 1048576: true; the input reads as it did. -/
def fnExactLongestNestUptoRow : OpenClaim := { program := "ythbbddgjphdgjab", sum := "e33a528701cfc18829b005df4c359811975e6d0d5a7c44768eedffbc2a04d6a3", func := "loop.example/g01377/laws.FnExactLongestNest", spec := "fnExactLongestNest", recurses := true, apart := false, narrowed := true }
def FnExactLongestNestUptoSaid : Prop := fnExactLongestNestUptoRow.holds Try.pinned (OpenSpec.upto fnExactLongestNestSpec)

/-- 'laws.FnExactBoxesByPaper', WHERE WHAT IT READS IS OF BULK AT MOST 1048576: true; the input reads as it did. -/
def fnExactBoxesByPaperUptoRow : OpenClaim := { program := "ythbbddgjphdgjab", sum := "e33a528701cfc18829b005df4c359811975e6d0d5a7c44768eedffbc2a04d6a3", func := "loop.example/g01377/laws.FnExactBoxesByPaper", spec := "fnExactBoxesByPaper", unfollowed := true, recurses := true, leaving := true, apart := false, narrowed := true }
def FnExactBoxesByPaperUptoSaid : Prop := fnExactBoxesByPaperUptoRow.holds Try.pinned (OpenSpec.upto fnExactBoxesByPaperSpec)

/-- 'laws.FnExactSheetFor', WHERE WHAT IT READS IS OF BULK AT MOST 1048576: true; the input reads as it did. -/
def fnExactSheetForUptoRow : OpenClaim := { program := "ythbbddgjphdgjab", sum := "e33a528701cfc18829b005df4c359811975e6d0d5a7c44768eedffbc2a04d6a3", func := "loop.example/g01377/laws.FnExactSheetFor", spec := "fnExactSheetFor", apart := false, narrowed := true }
def FnExactSheetForUptoSaid : Prop := fnExactSheetForUptoRow.holds Try.pinned (OpenSpec.upto fnExactSheetForSpec)

/-- 'laws.FnExactFitsSheet', WHERE WHAT IT READS IS OF BULK AT MOST 1048576: true; the input reads as it did. -/
def fnExactFitsSheetUptoRow : OpenClaim := { program := "ythbbddgjphdgjab", sum := "e33a528701cfc18829b005df4c359811975e6d0d5a7c44768eedffbc2a04d6a3", func := "loop.example/g01377/laws.FnExactFitsSheet", spec := "fnExactFitsSheet", apart := false, narrowed := true }
def FnExactFitsSheetUptoSaid : Prop := fnExactFitsSheetUptoRow.holds Try.pinned (OpenSpec.upto fnExactFitsSheetSpec)

end Rows
end Go.Proofs.Ythbbddgjphdgjab
