/-
  No cell of these rows narrows 'for every input' (looked for: loops, veiled, ifaces, maps, wideKeys, modest, calm, conditions, laid).
  DERIVED. THE GIVEN ROWS OF THIS SEAT. 12 by the template 'for every input the law returns true; each argument reads behind the call as it read before'; 0 by the template 'total and deterministic' (their statements: YthbbddgjphdgjaaTotals.lean).
  GIVEN WITH THE SEED: the statements are not yours to turn. If you find one false, say at which input.
  Laid BY PROGRAM, IN A SANDBOX (cutbox-rows.mjs): the forced cells as the released guide's own fill.sh prints them over the translation b9832e5de699b37e… (all of the seat's roots in one cut). By AI agents, Wed Nov 11 2026. No macro, syntax, notation, axiom, sorry.
-/
import Derived.Test.YthbbddgjphdgjaaChecked
import GoSem.Claim
import GoSem.ClaimJoined
import GoSem.ClaimMapViews
import Derived.JoinedTies
import Derived.KernelRfl
namespace Go.Proofs.Ythbbddgjphdgjaa
/- THE CELL 'sum', in the pinned program and in every row, IS THE sha256 OF THE DUMP (.gsa) THAT YthbbddgjphdgjaaProg.lean LOADS. Nothing in Lean hashes anything: it is a label: what it is worth is what the hold of that sum in a sandbox is worth. -/
noncomputable def Try.pinned : Pinned := { name := "ythbbddgjphdgjaa", sum := "b9832e5de699b37ed1dbd5b9ffb4d22c1fe551566d8927633c400532bec3fa5e", checked := Try.checked }
namespace Rows
def none {H : Type} : Left H := { results := [], args := [] }

/-- 'laws.FnExactIsBox': WHATEVER THE INPUT: true; the input reads as it did. -/
def fnExactIsBoxSpec : ChangeSpec := { name := "fnExactIsBox", fn := fun _ => fun
  | [d] => { results := [.lit (.bool true)], args := [d] }
  | _ => none }
def fnExactIsBoxRow : OpenClaim := { program := "ythbbddgjphdgjaa", sum := "b9832e5de699b37ed1dbd5b9ffb4d22c1fe551566d8927633c400532bec3fa5e", func := "loop.example/g01377/laws.FnExactIsBox", spec := "fnExactIsBox", apart := false }
def FnExactIsBoxSaid : Prop := fnExactIsBoxRow.holds Try.pinned (OpenSpec.ofChange fnExactIsBoxSpec)

/-- ITS FALSE NEIGHBOUR: 'it returns false'. Refute it at one input. -/
def fnExactIsBoxWrong : ChangeSpec := { name := "fnExactIsBox", fn := fun _ => fun
  | [d] => { results := [.lit (.bool false)], args := [d] }
  | _ => none }
def FnExactIsBoxWrongFalsely : Prop := fnExactIsBoxRow.holds Try.pinned (OpenSpec.ofChange fnExactIsBoxWrong)

/-- 'laws.FnExactVolumeOf': WHATEVER THE INPUT: true; the input reads as it did. -/
def fnExactVolumeOfSpec : ChangeSpec := { name := "fnExactVolumeOf", fn := fun _ => fun
  | [d] => { results := [.lit (.bool true)], args := [d] }
  | _ => none }
def fnExactVolumeOfRow : OpenClaim := { program := "ythbbddgjphdgjaa", sum := "b9832e5de699b37ed1dbd5b9ffb4d22c1fe551566d8927633c400532bec3fa5e", func := "loop.example/g01377/laws.FnExactVolumeOf", spec := "fnExactVolumeOf", apart := false }
def FnExactVolumeOfSaid : Prop := fnExactVolumeOfRow.holds Try.pinned (OpenSpec.ofChange fnExactVolumeOfSpec)

/-- ITS FALSE NEIGHBOUR: 'it returns false'. Refute it at one input. -/
def fnExactVolumeOfWrong : ChangeSpec := { name := "fnExactVolumeOf", fn := fun _ => fun
  | [d] => { results := [.lit (.bool false)], args := [d] }
  | _ => none }
def FnExactVolumeOfWrongFalsely : Prop := fnExactVolumeOfRow.holds Try.pinned (OpenSpec.ofChange fnExactVolumeOfWrong)

/-- 'laws.FnExactPaperOf': WHATEVER THE INPUT: true; the input reads as it did. -/
def fnExactPaperOfSpec : ChangeSpec := { name := "fnExactPaperOf", fn := fun _ => fun
  | [d] => { results := [.lit (.bool true)], args := [d] }
  | _ => none }
def fnExactPaperOfRow : OpenClaim := { program := "ythbbddgjphdgjaa", sum := "b9832e5de699b37ed1dbd5b9ffb4d22c1fe551566d8927633c400532bec3fa5e", func := "loop.example/g01377/laws.FnExactPaperOf", spec := "fnExactPaperOf", apart := false }
def FnExactPaperOfSaid : Prop := fnExactPaperOfRow.holds Try.pinned (OpenSpec.ofChange fnExactPaperOfSpec)

/-- ITS FALSE NEIGHBOUR: 'it returns false'. Refute it at one input. -/
def fnExactPaperOfWrong : ChangeSpec := { name := "fnExactPaperOf", fn := fun _ => fun
  | [d] => { results := [.lit (.bool false)], args := [d] }
  | _ => none }
def FnExactPaperOfWrongFalsely : Prop := fnExactPaperOfRow.holds Try.pinned (OpenSpec.ofChange fnExactPaperOfWrong)

/-- 'laws.FnExactRibbonOf': WHATEVER THE INPUT: true; the input reads as it did. -/
def fnExactRibbonOfSpec : ChangeSpec := { name := "fnExactRibbonOf", fn := fun _ => fun
  | [d1, d2] => { results := [.lit (.bool true)], args := [d1, d2] }
  | _ => none }
def fnExactRibbonOfRow : OpenClaim := { program := "ythbbddgjphdgjaa", sum := "b9832e5de699b37ed1dbd5b9ffb4d22c1fe551566d8927633c400532bec3fa5e", func := "loop.example/g01377/laws.FnExactRibbonOf", spec := "fnExactRibbonOf", apart := false }
def FnExactRibbonOfSaid : Prop := fnExactRibbonOfRow.holds Try.pinned (OpenSpec.ofChange fnExactRibbonOfSpec)

/-- ITS FALSE NEIGHBOUR: 'it returns false'. Refute it at one input. -/
def fnExactRibbonOfWrong : ChangeSpec := { name := "fnExactRibbonOf", fn := fun _ => fun
  | [d1, d2] => { results := [.lit (.bool false)], args := [d1, d2] }
  | _ => none }
def FnExactRibbonOfWrongFalsely : Prop := fnExactRibbonOfRow.holds Try.pinned (OpenSpec.ofChange fnExactRibbonOfWrong)

/-- 'laws.FnExactBoxesOf': WHATEVER THE INPUT: true; the input reads as it did. -/
def fnExactBoxesOfSpec : ChangeSpec := { name := "fnExactBoxesOf", fn := fun _ => fun
  | [d] => { results := [.lit (.bool true)], args := [d] }
  | _ => none }
def fnExactBoxesOfRow : OpenClaim := { program := "ythbbddgjphdgjaa", sum := "b9832e5de699b37ed1dbd5b9ffb4d22c1fe551566d8927633c400532bec3fa5e", func := "loop.example/g01377/laws.FnExactBoxesOf", spec := "fnExactBoxesOf", unfollowed := true, recurses := true, leaving := true, apart := false }
def FnExactBoxesOfSaid : Prop := fnExactBoxesOfRow.holds Try.pinned (OpenSpec.ofChange fnExactBoxesOfSpec)

/-- ITS FALSE NEIGHBOUR: 'it returns false'. Refute it at one input. -/
def fnExactBoxesOfWrong : ChangeSpec := { name := "fnExactBoxesOf", fn := fun _ => fun
  | [d] => { results := [.lit (.bool false)], args := [d] }
  | _ => none }
def FnExactBoxesOfWrongFalsely : Prop := fnExactBoxesOfRow.holds Try.pinned (OpenSpec.ofChange fnExactBoxesOfWrong)

/-- 'laws.FnExactCountBoxes': WHATEVER THE INPUT: true; the input reads as it did. -/
def fnExactCountBoxesSpec : ChangeSpec := { name := "fnExactCountBoxes", fn := fun _ => fun
  | [d] => { results := [.lit (.bool true)], args := [d] }
  | _ => none }
def fnExactCountBoxesRow : OpenClaim := { program := "ythbbddgjphdgjaa", sum := "b9832e5de699b37ed1dbd5b9ffb4d22c1fe551566d8927633c400532bec3fa5e", func := "loop.example/g01377/laws.FnExactCountBoxes", spec := "fnExactCountBoxes", unfollowed := true, recurses := true, leaving := true, apart := false }
def FnExactCountBoxesSaid : Prop := fnExactCountBoxesRow.holds Try.pinned (OpenSpec.ofChange fnExactCountBoxesSpec)

/-- ITS FALSE NEIGHBOUR: 'it returns false'. Refute it at one input. -/
def fnExactCountBoxesWrong : ChangeSpec := { name := "fnExactCountBoxes", fn := fun _ => fun
  | [d] => { results := [.lit (.bool false)], args := [d] }
  | _ => none }
def FnExactCountBoxesWrongFalsely : Prop := fnExactCountBoxesRow.holds Try.pinned (OpenSpec.ofChange fnExactCountBoxesWrong)

/-- 'laws.FnExactBestBox': WHATEVER THE INPUT: true; the input reads as it did. -/
def fnExactBestBoxSpec : ChangeSpec := { name := "fnExactBestBox", fn := fun _ => fun
  | [d] => { results := [.lit (.bool true)], args := [d] }
  | _ => none }
def fnExactBestBoxRow : OpenClaim := { program := "ythbbddgjphdgjaa", sum := "b9832e5de699b37ed1dbd5b9ffb4d22c1fe551566d8927633c400532bec3fa5e", func := "loop.example/g01377/laws.FnExactBestBox", spec := "fnExactBestBox", unfollowed := true, recurses := true, leaving := true, apart := false }
def FnExactBestBoxSaid : Prop := fnExactBestBoxRow.holds Try.pinned (OpenSpec.ofChange fnExactBestBoxSpec)

/-- ITS FALSE NEIGHBOUR: 'it returns false'. Refute it at one input. -/
def fnExactBestBoxWrong : ChangeSpec := { name := "fnExactBestBox", fn := fun _ => fun
  | [d] => { results := [.lit (.bool false)], args := [d] }
  | _ => none }
def FnExactBestBoxWrongFalsely : Prop := fnExactBestBoxRow.holds Try.pinned (OpenSpec.ofChange fnExactBestBoxWrong)

/-- 'laws.FnExactPaperSaved': WHATEVER THE INPUT: true; the input reads as it did. -/
def fnExactPaperSavedSpec : ChangeSpec := { name := "fnExactPaperSaved", fn := fun _ => fun
  | [d] => { results := [.lit (.bool true)], args := [d] }
  | _ => none }
def fnExactPaperSavedRow : OpenClaim := { program := "ythbbddgjphdgjaa", sum := "b9832e5de699b37ed1dbd5b9ffb4d22c1fe551566d8927633c400532bec3fa5e", func := "loop.example/g01377/laws.FnExactPaperSaved", spec := "fnExactPaperSaved", unfollowed := true, recurses := true, leaving := true, apart := false }
def FnExactPaperSavedSaid : Prop := fnExactPaperSavedRow.holds Try.pinned (OpenSpec.ofChange fnExactPaperSavedSpec)

/-- ITS FALSE NEIGHBOUR: 'it returns false'. Refute it at one input. -/
def fnExactPaperSavedWrong : ChangeSpec := { name := "fnExactPaperSaved", fn := fun _ => fun
  | [d] => { results := [.lit (.bool false)], args := [d] }
  | _ => none }
def FnExactPaperSavedWrongFalsely : Prop := fnExactPaperSavedRow.holds Try.pinned (OpenSpec.ofChange fnExactPaperSavedWrong)

/-- 'laws.FnExactFlatBox': WHATEVER THE INPUT: true; the input reads as it did. -/
def fnExactFlatBoxSpec : ChangeSpec := { name := "fnExactFlatBox", fn := fun _ => fun
  | [d] => { results := [.lit (.bool true)], args := [d] }
  | _ => none }
def fnExactFlatBoxRow : OpenClaim := { program := "ythbbddgjphdgjaa", sum := "b9832e5de699b37ed1dbd5b9ffb4d22c1fe551566d8927633c400532bec3fa5e", func := "loop.example/g01377/laws.FnExactFlatBox", spec := "fnExactFlatBox", unfollowed := true, recurses := true, leaving := true, apart := false }
def FnExactFlatBoxSaid : Prop := fnExactFlatBoxRow.holds Try.pinned (OpenSpec.ofChange fnExactFlatBoxSpec)

/-- ITS FALSE NEIGHBOUR: 'it returns false'. Refute it at one input. -/
def fnExactFlatBoxWrong : ChangeSpec := { name := "fnExactFlatBox", fn := fun _ => fun
  | [d] => { results := [.lit (.bool false)], args := [d] }
  | _ => none }
def FnExactFlatBoxWrongFalsely : Prop := fnExactFlatBoxRow.holds Try.pinned (OpenSpec.ofChange fnExactFlatBoxWrong)

/-- 'laws.FnExactLeastPaper': WHATEVER THE INPUT: true; the input reads as it did. -/
def fnExactLeastPaperSpec : ChangeSpec := { name := "fnExactLeastPaper", fn := fun _ => fun
  | [d1, d2, d3] => { results := [.lit (.bool true)], args := [d1, d2, d3] }
  | _ => none }
def fnExactLeastPaperRow : OpenClaim := { program := "ythbbddgjphdgjaa", sum := "b9832e5de699b37ed1dbd5b9ffb4d22c1fe551566d8927633c400532bec3fa5e", func := "loop.example/g01377/laws.FnExactLeastPaper", spec := "fnExactLeastPaper", unfollowed := true, recurses := true, leaving := true, apart := false }
def FnExactLeastPaperSaid : Prop := fnExactLeastPaperRow.holds Try.pinned (OpenSpec.ofChange fnExactLeastPaperSpec)

/-- ITS FALSE NEIGHBOUR: 'it returns false'. Refute it at one input. -/
def fnExactLeastPaperWrong : ChangeSpec := { name := "fnExactLeastPaper", fn := fun _ => fun
  | [d1, d2, d3] => { results := [.lit (.bool false)], args := [d1, d2, d3] }
  | _ => none }
def FnExactLeastPaperWrongFalsely : Prop := fnExactLeastPaperRow.holds Try.pinned (OpenSpec.ofChange fnExactLeastPaperWrong)

/-- 'laws.FnExactFirstBundles': WHATEVER THE INPUT: true; the input reads as it did. -/
def fnExactFirstBundlesSpec : ChangeSpec := { name := "fnExactFirstBundles", fn := fun _ => fun
  | [d1, d2, d3] => { results := [.lit (.bool true)], args := [d1, d2, d3] }
  | _ => none }
def fnExactFirstBundlesRow : OpenClaim := { program := "ythbbddgjphdgjaa", sum := "b9832e5de699b37ed1dbd5b9ffb4d22c1fe551566d8927633c400532bec3fa5e", func := "loop.example/g01377/laws.FnExactFirstBundles", spec := "fnExactFirstBundles", unfollowed := true, recurses := true, leaving := true, apart := false }
def FnExactFirstBundlesSaid : Prop := fnExactFirstBundlesRow.holds Try.pinned (OpenSpec.ofChange fnExactFirstBundlesSpec)

/-- ITS FALSE NEIGHBOUR: 'it returns false'. Refute it at one input. -/
def fnExactFirstBundlesWrong : ChangeSpec := { name := "fnExactFirstBundles", fn := fun _ => fun
  | [d1, d2, d3] => { results := [.lit (.bool false)], args := [d1, d2, d3] }
  | _ => none }
def FnExactFirstBundlesWrongFalsely : Prop := fnExactFirstBundlesRow.holds Try.pinned (OpenSpec.ofChange fnExactFirstBundlesWrong)

/-- 'laws.FnExactPaperOfBundles': WHATEVER THE INPUT: true; the input reads as it did. -/
def fnExactPaperOfBundlesSpec : ChangeSpec := { name := "fnExactPaperOfBundles", fn := fun _ => fun
  | [d1, d2] => { results := [.lit (.bool true)], args := [d1, d2] }
  | _ => none }
def fnExactPaperOfBundlesRow : OpenClaim := { program := "ythbbddgjphdgjaa", sum := "b9832e5de699b37ed1dbd5b9ffb4d22c1fe551566d8927633c400532bec3fa5e", func := "loop.example/g01377/laws.FnExactPaperOfBundles", spec := "fnExactPaperOfBundles", unfollowed := true, recurses := true, leaving := true, apart := false }
def FnExactPaperOfBundlesSaid : Prop := fnExactPaperOfBundlesRow.holds Try.pinned (OpenSpec.ofChange fnExactPaperOfBundlesSpec)

/-- ITS FALSE NEIGHBOUR: 'it returns false'. Refute it at one input. -/
def fnExactPaperOfBundlesWrong : ChangeSpec := { name := "fnExactPaperOfBundles", fn := fun _ => fun
  | [d1, d2] => { results := [.lit (.bool false)], args := [d1, d2] }
  | _ => none }
def FnExactPaperOfBundlesWrongFalsely : Prop := fnExactPaperOfBundlesRow.holds Try.pinned (OpenSpec.ofChange fnExactPaperOfBundlesWrong)

/- THE SECOND FORM. 'bulk': how many values and letters a reading holds, each counted each time it is reached (what is shared counts as often as it is met; a slice's spare places count too). A statement '..UptoSaid' is the law's where the arguments, and the package variables that the reading takes, are together of bulk at most 1048576: NARROWER than '..Said'. Prove '..Said' where nothing that the law and all that it calls make is longer than what came in: it says more and counts as full. Else prove '..UptoSaid'. A law counts once. -/
mutual
def uptoBulk {H : Type} : DataW H → Nat
  | .lit (.string bytes) => bytes.length + 1
  | .lit _ => 1
  | .nil => 1
  | .ptr d => uptoBulk d + 1
  | .slice elems spare => uptoBulkAll elems + uptoBulkAll spare + 1
  | .agg parts => uptoBulkAll parts + 1
  | .iface _ d => uptoBulk d + 1
  | .map entries => uptoBulkEntries entries + 1
  | .held _ => 1
def uptoBulkAll {H : Type} : List (DataW H) → Nat
  | [] => 0
  | d :: r => uptoBulk d + uptoBulkAll r
def uptoBulkEntries {H : Type} : List (Lit × DataW H) → Nat
  | [] => 0
  | x :: r => uptoBulkEntry x + uptoBulkEntries r
def uptoBulkEntry {H : Type} : Lit × DataW H → Nat
  | (.string bytes, d) => bytes.length + uptoBulk d + 1
  | (_, d) => uptoBulk d + 1
 end
def uptoSmall : (H : Type) → List (DataW H) → Bool := fun _ ds => decide (uptoBulkAll ds ≤ 1048576)
def OpenSpec.upto (s : _root_.Go.ChangeSpec) : _root_.Go.OpenSpec := { _root_.Go.OpenSpec.ofChange s with cond := some uptoSmall }

/-- 'laws.FnExactIsBox', WHERE WHAT IT READS IS OF BULK AT MOST 1048576: true; the input reads as it did. -/
def fnExactIsBoxUptoRow : OpenClaim := { program := "ythbbddgjphdgjaa", sum := "b9832e5de699b37ed1dbd5b9ffb4d22c1fe551566d8927633c400532bec3fa5e", func := "loop.example/g01377/laws.FnExactIsBox", spec := "fnExactIsBox", apart := false, narrowed := true }
def FnExactIsBoxUptoSaid : Prop := fnExactIsBoxUptoRow.holds Try.pinned (OpenSpec.upto fnExactIsBoxSpec)

/-- 'laws.FnExactVolumeOf', WHERE WHAT IT READS IS OF BULK AT MOST 1048576: true; the input reads as it did. -/
def fnExactVolumeOfUptoRow : OpenClaim := { program := "ythbbddgjphdgjaa", sum := "b9832e5de699b37ed1dbd5b9ffb4d22c1fe551566d8927633c400532bec3fa5e", func := "loop.example/g01377/laws.FnExactVolumeOf", spec := "fnExactVolumeOf", apart := false, narrowed := true }
def FnExactVolumeOfUptoSaid : Prop := fnExactVolumeOfUptoRow.holds Try.pinned (OpenSpec.upto fnExactVolumeOfSpec)

/-- 'laws.FnExactPaperOf', WHERE WHAT IT READS IS OF BULK AT MOST 1048576: true; the input reads as it did. -/
def fnExactPaperOfUptoRow : OpenClaim := { program := "ythbbddgjphdgjaa", sum := "b9832e5de699b37ed1dbd5b9ffb4d22c1fe551566d8927633c400532bec3fa5e", func := "loop.example/g01377/laws.FnExactPaperOf", spec := "fnExactPaperOf", apart := false, narrowed := true }
def FnExactPaperOfUptoSaid : Prop := fnExactPaperOfUptoRow.holds Try.pinned (OpenSpec.upto fnExactPaperOfSpec)

/-- 'laws.FnExactRibbonOf', WHERE WHAT IT READS IS OF BULK AT MOST 1048576: true; the input reads as it did. -/
def fnExactRibbonOfUptoRow : OpenClaim := { program := "ythbbddgjphdgjaa", sum := "b9832e5de699b37ed1dbd5b9ffb4d22c1fe551566d8927633c400532bec3fa5e", func := "loop.example/g01377/laws.FnExactRibbonOf", spec := "fnExactRibbonOf", apart := false, narrowed := true }
def FnExactRibbonOfUptoSaid : Prop := fnExactRibbonOfUptoRow.holds Try.pinned (OpenSpec.upto fnExactRibbonOfSpec)

/-- 'laws.FnExactBoxesOf', WHERE WHAT IT READS IS OF BULK AT MOST 1048576: true; the input reads as it did. -/
def fnExactBoxesOfUptoRow : OpenClaim := { program := "ythbbddgjphdgjaa", sum := "b9832e5de699b37ed1dbd5b9ffb4d22c1fe551566d8927633c400532bec3fa5e", func := "loop.example/g01377/laws.FnExactBoxesOf", spec := "fnExactBoxesOf", unfollowed := true, recurses := true, leaving := true, apart := false, narrowed := true }
def FnExactBoxesOfUptoSaid : Prop := fnExactBoxesOfUptoRow.holds Try.pinned (OpenSpec.upto fnExactBoxesOfSpec)

/-- 'laws.FnExactCountBoxes', WHERE WHAT IT READS IS OF BULK AT MOST 1048576: true; the input reads as it did. -/
def fnExactCountBoxesUptoRow : OpenClaim := { program := "ythbbddgjphdgjaa", sum := "b9832e5de699b37ed1dbd5b9ffb4d22c1fe551566d8927633c400532bec3fa5e", func := "loop.example/g01377/laws.FnExactCountBoxes", spec := "fnExactCountBoxes", unfollowed := true, recurses := true, leaving := true, apart := false, narrowed := true }
def FnExactCountBoxesUptoSaid : Prop := fnExactCountBoxesUptoRow.holds Try.pinned (OpenSpec.upto fnExactCountBoxesSpec)

/-- 'laws.FnExactBestBox', WHERE WHAT IT READS IS OF BULK AT MOST 1048576: true; the input reads as it did. -/
def fnExactBestBoxUptoRow : OpenClaim := { program := "ythbbddgjphdgjaa", sum := "b9832e5de699b37ed1dbd5b9ffb4d22c1fe551566d8927633c400532bec3fa5e", func := "loop.example/g01377/laws.FnExactBestBox", spec := "fnExactBestBox", unfollowed := true, recurses := true, leaving := true, apart := false, narrowed := true }
def FnExactBestBoxUptoSaid : Prop := fnExactBestBoxUptoRow.holds Try.pinned (OpenSpec.upto fnExactBestBoxSpec)

/-- 'laws.FnExactPaperSaved', WHERE WHAT IT READS IS OF BULK AT MOST 1048576: true; the input reads as it did. -/
def fnExactPaperSavedUptoRow : OpenClaim := { program := "ythbbddgjphdgjaa", sum := "b9832e5de699b37ed1dbd5b9ffb4d22c1fe551566d8927633c400532bec3fa5e", func := "loop.example/g01377/laws.FnExactPaperSaved", spec := "fnExactPaperSaved", unfollowed := true, recurses := true, leaving := true, apart := false, narrowed := true }
def FnExactPaperSavedUptoSaid : Prop := fnExactPaperSavedUptoRow.holds Try.pinned (OpenSpec.upto fnExactPaperSavedSpec)

/-- 'laws.FnExactFlatBox', WHERE WHAT IT READS IS OF BULK AT MOST 1048576: true; the input reads as it did. -/
def fnExactFlatBoxUptoRow : OpenClaim := { program := "ythbbddgjphdgjaa", sum := "b9832e5de699b37ed1dbd5b9ffb4d22c1fe551566d8927633c400532bec3fa5e", func := "loop.example/g01377/laws.FnExactFlatBox", spec := "fnExactFlatBox", unfollowed := true, recurses := true, leaving := true, apart := false, narrowed := true }
def FnExactFlatBoxUptoSaid : Prop := fnExactFlatBoxUptoRow.holds Try.pinned (OpenSpec.upto fnExactFlatBoxSpec)

/-- 'laws.FnExactLeastPaper', WHERE WHAT IT READS IS OF BULK AT MOST 1048576: true; the input reads as it did. -/
def fnExactLeastPaperUptoRow : OpenClaim := { program := "ythbbddgjphdgjaa", sum := "b9832e5de699b37ed1dbd5b9ffb4d22c1fe551566d8927633c400532bec3fa5e", func := "loop.example/g01377/laws.FnExactLeastPaper", spec := "fnExactLeastPaper", unfollowed := true, recurses := true, leaving := true, apart := false, narrowed := true }
def FnExactLeastPaperUptoSaid : Prop := fnExactLeastPaperUptoRow.holds Try.pinned (OpenSpec.upto fnExactLeastPaperSpec)

/-- 'laws.FnExactFirstBundles', WHERE WHAT IT READS IS OF BULK AT MOST 1048576: true; the input reads as it did. -/
def fnExactFirstBundlesUptoRow : OpenClaim := { program := "ythbbddgjphdgjaa", sum := "b9832e5de699b37ed1dbd5b9ffb4d22c1fe551566d8927633c400532bec3fa5e", func := "loop.example/g01377/laws.FnExactFirstBundles", spec := "fnExactFirstBundles", unfollowed := true, recurses := true, leaving := true, apart := false, narrowed := true }
def FnExactFirstBundlesUptoSaid : Prop := fnExactFirstBundlesUptoRow.holds Try.pinned (OpenSpec.upto fnExactFirstBundlesSpec)

/-- 'laws.FnExactPaperOfBundles', WHERE WHAT IT READS IS OF BULK AT MOST 1048576: true; the input reads as it did. -/
def fnExactPaperOfBundlesUptoRow : OpenClaim := { program := "ythbbddgjphdgjaa", sum := "b9832e5de699b37ed1dbd5b9ffb4d22c1fe551566d8927633c400532bec3fa5e", func := "loop.example/g01377/laws.FnExactPaperOfBundles", spec := "fnExactPaperOfBundles", unfollowed := true, recurses := true, leaving := true, apart := false, narrowed := true }
def FnExactPaperOfBundlesUptoSaid : Prop := fnExactPaperOfBundlesUptoRow.holds Try.pinned (OpenSpec.upto fnExactPaperOfBundlesSpec)

end Rows
end Go.Proofs.Ythbbddgjphdgjaa
