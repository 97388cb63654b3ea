/-
  No cell of these rows narrows 'for every input' (looked for: loops, veiled, ifaces, maps, wideKeys, modest, calm, conditions, laid).
  DERIVED. THE GIVEN ROWS OF THIS SEAT. 12 by the template 'for every input the law returns true; each argument reads behind the call as it read before'; 0 by the template 'total and deterministic' (their statements: YtbjjpndhfgfedaaTotals.lean).
  GIVEN WITH THE SEED: the statements are not yours to turn. If you find one false, say at which input.
  Laid BY PROGRAM, IN A SANDBOX (cutbox-rows.mjs): the forced cells as the released guide's own fill.sh prints them over the translation 4e05e6d99702fad6… (all of the seat's roots in one cut). By AI agents, Wed Nov 11 2026. No macro, syntax, notation, axiom, sorry.
-/
import Derived.Test.YtbjjpndhfgfedaaChecked
import GoSem.Claim
import GoSem.ClaimJoined
import GoSem.ClaimMapViews
import Derived.JoinedTies
import Derived.KernelRfl
namespace Go.Proofs.Ytbjjpndhfgfedaa
/- THE CELL 'sum', in the pinned program and in every row, IS THE sha256 OF THE DUMP (.gsa) THAT YtbjjpndhfgfedaaProg.lean LOADS. Nothing in Lean hashes anything: it is a label: what it is worth is what the hold of that sum in a sandbox is worth. -/
noncomputable def Try.pinned : Pinned := { name := "ytbjjpndhfgfedaa", sum := "4e05e6d99702fad6a9284ad2e0f5592cd6b12b79d3d7ae9e8c8dc9c93ca9fe9d", checked := Try.checked }
namespace Rows
def none {H : Type} : Left H := { results := [], args := [] }

/-- 'laws.FnExactAreNuts': WHATEVER THE INPUT: true; the input reads as it did. -/
def fnExactAreNutsSpec : ChangeSpec := { name := "fnExactAreNuts", fn := fun _ => fun
  | [d] => { results := [.lit (.bool true)], args := [d] }
  | _ => none }
def fnExactAreNutsRow : OpenClaim := { program := "ytbjjpndhfgfedaa", sum := "4e05e6d99702fad6a9284ad2e0f5592cd6b12b79d3d7ae9e8c8dc9c93ca9fe9d", func := "loop.example/g01377/laws.FnExactAreNuts", spec := "fnExactAreNuts", plainKeys := false, apart := false }
def FnExactAreNutsSaid : Prop := fnExactAreNutsRow.holds Try.pinned (OpenSpec.ofChange fnExactAreNutsSpec)

/-- ITS FALSE NEIGHBOUR: 'it returns false'. Refute it at one input. -/
def fnExactAreNutsWrong : ChangeSpec := { name := "fnExactAreNuts", fn := fun _ => fun
  | [d] => { results := [.lit (.bool false)], args := [d] }
  | _ => none }
def FnExactAreNutsWrongFalsely : Prop := fnExactAreNutsRow.holds Try.pinned (OpenSpec.ofChange fnExactAreNutsWrong)

/-- 'laws.FnExactNutsIn': WHATEVER THE INPUT: true; the input reads as it did. -/
def fnExactNutsInSpec : ChangeSpec := { name := "fnExactNutsIn", fn := fun _ => fun
  | [d] => { results := [.lit (.bool true)], args := [d] }
  | _ => none }
def fnExactNutsInRow : OpenClaim := { program := "ytbjjpndhfgfedaa", sum := "4e05e6d99702fad6a9284ad2e0f5592cd6b12b79d3d7ae9e8c8dc9c93ca9fe9d", func := "loop.example/g01377/laws.FnExactNutsIn", spec := "fnExactNutsIn", plainKeys := false, apart := false }
def FnExactNutsInSaid : Prop := fnExactNutsInRow.holds Try.pinned (OpenSpec.ofChange fnExactNutsInSpec)

/-- ITS FALSE NEIGHBOUR: 'it returns false'. Refute it at one input. -/
def fnExactNutsInWrong : ChangeSpec := { name := "fnExactNutsIn", fn := fun _ => fun
  | [d] => { results := [.lit (.bool false)], args := [d] }
  | _ => none }
def FnExactNutsInWrongFalsely : Prop := fnExactNutsInRow.holds Try.pinned (OpenSpec.ofChange fnExactNutsInWrong)

/-- 'laws.FnExactRowNuts': WHATEVER THE INPUT: true; the input reads as it did. -/
def fnExactRowNutsSpec : ChangeSpec := { name := "fnExactRowNuts", fn := fun _ => fun
  | [d] => { results := [.lit (.bool true)], args := [d] }
  | _ => none }
def fnExactRowNutsRow : OpenClaim := { program := "ytbjjpndhfgfedaa", sum := "4e05e6d99702fad6a9284ad2e0f5592cd6b12b79d3d7ae9e8c8dc9c93ca9fe9d", func := "loop.example/g01377/laws.FnExactRowNuts", spec := "fnExactRowNuts", plainKeys := false, apart := false }
def FnExactRowNutsSaid : Prop := fnExactRowNutsRow.holds Try.pinned (OpenSpec.ofChange fnExactRowNutsSpec)

/-- ITS FALSE NEIGHBOUR: 'it returns false'. Refute it at one input. -/
def fnExactRowNutsWrong : ChangeSpec := { name := "fnExactRowNuts", fn := fun _ => fun
  | [d] => { results := [.lit (.bool false)], args := [d] }
  | _ => none }
def FnExactRowNutsWrongFalsely : Prop := fnExactRowNutsRow.holds Try.pinned (OpenSpec.ofChange fnExactRowNutsWrong)

/-- 'laws.FnExactColumnNuts': WHATEVER THE INPUT: true; the input reads as it did. -/
def fnExactColumnNutsSpec : ChangeSpec := { name := "fnExactColumnNuts", fn := fun _ => fun
  | [d] => { results := [.lit (.bool true)], args := [d] }
  | _ => none }
def fnExactColumnNutsRow : OpenClaim := { program := "ytbjjpndhfgfedaa", sum := "4e05e6d99702fad6a9284ad2e0f5592cd6b12b79d3d7ae9e8c8dc9c93ca9fe9d", func := "loop.example/g01377/laws.FnExactColumnNuts", spec := "fnExactColumnNuts", plainKeys := false, apart := false }
def FnExactColumnNutsSaid : Prop := fnExactColumnNutsRow.holds Try.pinned (OpenSpec.ofChange fnExactColumnNutsSpec)

/-- ITS FALSE NEIGHBOUR: 'it returns false'. Refute it at one input. -/
def fnExactColumnNutsWrong : ChangeSpec := { name := "fnExactColumnNuts", fn := fun _ => fun
  | [d] => { results := [.lit (.bool false)], args := [d] }
  | _ => none }
def FnExactColumnNutsWrongFalsely : Prop := fnExactColumnNutsRow.holds Try.pinned (OpenSpec.ofChange fnExactColumnNutsWrong)

/-- 'laws.FnExactNutsInPart': WHATEVER THE INPUT: true; the input reads as it did. -/
def fnExactNutsInPartSpec : ChangeSpec := { name := "fnExactNutsInPart", fn := fun _ => fun
  | [d1, d2, d3, d4] => { results := [.lit (.bool true)], args := [d1, d2, d3, d4] }
  | _ => none }
def fnExactNutsInPartRow : OpenClaim := { program := "ytbjjpndhfgfedaa", sum := "4e05e6d99702fad6a9284ad2e0f5592cd6b12b79d3d7ae9e8c8dc9c93ca9fe9d", func := "loop.example/g01377/laws.FnExactNutsInPart", spec := "fnExactNutsInPart", plainKeys := false, apart := false }
def FnExactNutsInPartSaid : Prop := fnExactNutsInPartRow.holds Try.pinned (OpenSpec.ofChange fnExactNutsInPartSpec)

/-- ITS FALSE NEIGHBOUR: 'it returns false'. Refute it at one input. -/
def fnExactNutsInPartWrong : ChangeSpec := { name := "fnExactNutsInPart", fn := fun _ => fun
  | [d1, d2, d3, d4] => { results := [.lit (.bool false)], args := [d1, d2, d3, d4] }
  | _ => none }
def FnExactNutsInPartWrongFalsely : Prop := fnExactNutsInPartRow.holds Try.pinned (OpenSpec.ofChange fnExactNutsInPartWrong)

/-- 'laws.FnExactRichestPart': WHATEVER THE INPUT: true; the input reads as it did. -/
def fnExactRichestPartSpec : ChangeSpec := { name := "fnExactRichestPart", fn := fun _ => fun
  | [d1, d2] => { results := [.lit (.bool true)], args := [d1, d2] }
  | _ => none }
def fnExactRichestPartRow : OpenClaim := { program := "ytbjjpndhfgfedaa", sum := "4e05e6d99702fad6a9284ad2e0f5592cd6b12b79d3d7ae9e8c8dc9c93ca9fe9d", func := "loop.example/g01377/laws.FnExactRichestPart", spec := "fnExactRichestPart", plainKeys := false, apart := false }
def FnExactRichestPartSaid : Prop := fnExactRichestPartRow.holds Try.pinned (OpenSpec.ofChange fnExactRichestPartSpec)

/-- ITS FALSE NEIGHBOUR: 'it returns false'. Refute it at one input. -/
def fnExactRichestPartWrong : ChangeSpec := { name := "fnExactRichestPart", fn := fun _ => fun
  | [d1, d2] => { results := [.lit (.bool false)], args := [d1, d2] }
  | _ => none }
def FnExactRichestPartWrongFalsely : Prop := fnExactRichestPartRow.holds Try.pinned (OpenSpec.ofChange fnExactRichestPartWrong)

/-- 'laws.FnExactCountParts': WHATEVER THE INPUT: true; the input reads as it did. -/
def fnExactCountPartsSpec : ChangeSpec := { name := "fnExactCountParts", fn := fun _ => fun
  | [d1, d2] => { results := [.lit (.bool true)], args := [d1, d2] }
  | _ => none }
def fnExactCountPartsRow : OpenClaim := { program := "ytbjjpndhfgfedaa", sum := "4e05e6d99702fad6a9284ad2e0f5592cd6b12b79d3d7ae9e8c8dc9c93ca9fe9d", func := "loop.example/g01377/laws.FnExactCountParts", spec := "fnExactCountParts", plainKeys := false, apart := false }
def FnExactCountPartsSaid : Prop := fnExactCountPartsRow.holds Try.pinned (OpenSpec.ofChange fnExactCountPartsSpec)

/-- ITS FALSE NEIGHBOUR: 'it returns false'. Refute it at one input. -/
def fnExactCountPartsWrong : ChangeSpec := { name := "fnExactCountParts", fn := fun _ => fun
  | [d1, d2] => { results := [.lit (.bool false)], args := [d1, d2] }
  | _ => none }
def FnExactCountPartsWrongFalsely : Prop := fnExactCountPartsRow.holds Try.pinned (OpenSpec.ofChange fnExactCountPartsWrong)

/-- 'laws.FnExactGreatestPart': WHATEVER THE INPUT: true; the input reads as it did. -/
def fnExactGreatestPartSpec : ChangeSpec := { name := "fnExactGreatestPart", fn := fun _ => fun
  | [d1, d2] => { results := [.lit (.bool true)], args := [d1, d2] }
  | _ => none }
def fnExactGreatestPartRow : OpenClaim := { program := "ytbjjpndhfgfedaa", sum := "4e05e6d99702fad6a9284ad2e0f5592cd6b12b79d3d7ae9e8c8dc9c93ca9fe9d", func := "loop.example/g01377/laws.FnExactGreatestPart", spec := "fnExactGreatestPart", plainKeys := false, apart := false }
def FnExactGreatestPartSaid : Prop := fnExactGreatestPartRow.holds Try.pinned (OpenSpec.ofChange fnExactGreatestPartSpec)

/-- ITS FALSE NEIGHBOUR: 'it returns false'. Refute it at one input. -/
def fnExactGreatestPartWrong : ChangeSpec := { name := "fnExactGreatestPart", fn := fun _ => fun
  | [d1, d2] => { results := [.lit (.bool false)], args := [d1, d2] }
  | _ => none }
def FnExactGreatestPartWrongFalsely : Prop := fnExactGreatestPartRow.holds Try.pinned (OpenSpec.ofChange fnExactGreatestPartWrong)

/-- 'laws.FnExactEvenBreak': WHATEVER THE INPUT: true; the input reads as it did. -/
def fnExactEvenBreakSpec : ChangeSpec := { name := "fnExactEvenBreak", fn := fun _ => fun
  | [d] => { results := [.lit (.bool true)], args := [d] }
  | _ => none }
def fnExactEvenBreakRow : OpenClaim := { program := "ytbjjpndhfgfedaa", sum := "4e05e6d99702fad6a9284ad2e0f5592cd6b12b79d3d7ae9e8c8dc9c93ca9fe9d", func := "loop.example/g01377/laws.FnExactEvenBreak", spec := "fnExactEvenBreak", plainKeys := false, apart := false }
def FnExactEvenBreakSaid : Prop := fnExactEvenBreakRow.holds Try.pinned (OpenSpec.ofChange fnExactEvenBreakSpec)

/-- ITS FALSE NEIGHBOUR: 'it returns false'. Refute it at one input. -/
def fnExactEvenBreakWrong : ChangeSpec := { name := "fnExactEvenBreak", fn := fun _ => fun
  | [d] => { results := [.lit (.bool false)], args := [d] }
  | _ => none }
def FnExactEvenBreakWrongFalsely : Prop := fnExactEvenBreakRow.holds Try.pinned (OpenSpec.ofChange fnExactEvenBreakWrong)

/-- 'laws.FnExactEqualBreaks': WHATEVER THE INPUT: true; the input reads as it did. -/
def fnExactEqualBreaksSpec : ChangeSpec := { name := "fnExactEqualBreaks", fn := fun _ => fun
  | [d] => { results := [.lit (.bool true)], args := [d] }
  | _ => none }
def fnExactEqualBreaksRow : OpenClaim := { program := "ytbjjpndhfgfedaa", sum := "4e05e6d99702fad6a9284ad2e0f5592cd6b12b79d3d7ae9e8c8dc9c93ca9fe9d", func := "loop.example/g01377/laws.FnExactEqualBreaks", spec := "fnExactEqualBreaks", plainKeys := false, apart := false }
def FnExactEqualBreaksSaid : Prop := fnExactEqualBreaksRow.holds Try.pinned (OpenSpec.ofChange fnExactEqualBreaksSpec)

/-- ITS FALSE NEIGHBOUR: 'it returns false'. Refute it at one input. -/
def fnExactEqualBreaksWrong : ChangeSpec := { name := "fnExactEqualBreaks", fn := fun _ => fun
  | [d] => { results := [.lit (.bool false)], args := [d] }
  | _ => none }
def FnExactEqualBreaksWrongFalsely : Prop := fnExactEqualBreaksRow.holds Try.pinned (OpenSpec.ofChange fnExactEqualBreaksWrong)

/-- 'laws.FnExactPoorestStrip': WHATEVER THE INPUT: true; the input reads as it did. -/
def fnExactPoorestStripSpec : ChangeSpec := { name := "fnExactPoorestStrip", fn := fun _ => fun
  | [d1, d2] => { results := [.lit (.bool true)], args := [d1, d2] }
  | _ => none }
def fnExactPoorestStripRow : OpenClaim := { program := "ytbjjpndhfgfedaa", sum := "4e05e6d99702fad6a9284ad2e0f5592cd6b12b79d3d7ae9e8c8dc9c93ca9fe9d", func := "loop.example/g01377/laws.FnExactPoorestStrip", spec := "fnExactPoorestStrip", recurses := true, plainKeys := false, apart := false }
def FnExactPoorestStripSaid : Prop := fnExactPoorestStripRow.holds Try.pinned (OpenSpec.ofChange fnExactPoorestStripSpec)

/-- ITS FALSE NEIGHBOUR: 'it returns false'. Refute it at one input. -/
def fnExactPoorestStripWrong : ChangeSpec := { name := "fnExactPoorestStrip", fn := fun _ => fun
  | [d1, d2] => { results := [.lit (.bool false)], args := [d1, d2] }
  | _ => none }
def FnExactPoorestStripWrongFalsely : Prop := fnExactPoorestStripRow.holds Try.pinned (OpenSpec.ofChange fnExactPoorestStripWrong)

/-- 'laws.FnExactFirstStrips': WHATEVER THE INPUT: true; the input reads as it did. -/
def fnExactFirstStripsSpec : ChangeSpec := { name := "fnExactFirstStrips", fn := fun _ => fun
  | [d1, d2] => { results := [.lit (.bool true)], args := [d1, d2] }
  | _ => none }
def fnExactFirstStripsRow : OpenClaim := { program := "ytbjjpndhfgfedaa", sum := "4e05e6d99702fad6a9284ad2e0f5592cd6b12b79d3d7ae9e8c8dc9c93ca9fe9d", func := "loop.example/g01377/laws.FnExactFirstStrips", spec := "fnExactFirstStrips", recurses := true, plainKeys := false, apart := false }
def FnExactFirstStripsSaid : Prop := fnExactFirstStripsRow.holds Try.pinned (OpenSpec.ofChange fnExactFirstStripsSpec)

/-- ITS FALSE NEIGHBOUR: 'it returns false'. Refute it at one input. -/
def fnExactFirstStripsWrong : ChangeSpec := { name := "fnExactFirstStrips", fn := fun _ => fun
  | [d1, d2] => { results := [.lit (.bool false)], args := [d1, d2] }
  | _ => none }
def FnExactFirstStripsWrongFalsely : Prop := fnExactFirstStripsRow.holds Try.pinned (OpenSpec.ofChange fnExactFirstStripsWrong)

/- THE SECOND FORM. 'bulk': how many values and letters a reading holds, each counted each time it is reached (what is shared counts as often as it is met; a slice's spare places count too). A statement '..UptoSaid' is the law's where the arguments, and the package variables that the reading takes, are together of bulk at most 1048576: NARROWER than '..Said'. Prove '..Said' where nothing that the law and all that it calls make is longer than what came in: it says more and counts as full. Else prove '..UptoSaid'. A law counts once. -/
mutual
def uptoBulk {H : Type} : DataW H → Nat
  | .lit (.string bytes) => bytes.length + 1
  | .lit _ => 1
  | .nil => 1
  | .ptr d => uptoBulk d + 1
  | .slice elems spare => uptoBulkAll elems + uptoBulkAll spare + 1
  | .agg parts => uptoBulkAll parts + 1
  | .iface _ d => uptoBulk d + 1
  | .map entries => uptoBulkEntries entries + 1
  | .held _ => 1
def uptoBulkAll {H : Type} : List (DataW H) → Nat
  | [] => 0
  | d :: r => uptoBulk d + uptoBulkAll r
def uptoBulkEntries {H : Type} : List (Lit × DataW H) → Nat
  | [] => 0
  | x :: r => uptoBulkEntry x + uptoBulkEntries r
def uptoBulkEntry {H : Type} : Lit × DataW H → Nat
  | (.string bytes, d) => bytes.length + uptoBulk d + 1
  | (_, d) => uptoBulk d + 1
 end
def uptoSmall : (H : Type) → List (DataW H) → Bool := fun _ ds => decide (uptoBulkAll ds ≤ 1048576)
def OpenSpec.upto (s : _root_.Go.ChangeSpec) : _root_.Go.OpenSpec := { _root_.Go.OpenSpec.ofChange s with cond := some uptoSmall }

/-- 'laws.FnExactAreNuts', WHERE WHAT IT READS IS OF BULK AT MOST 1048576: true; the input reads as it did. -/
def fnExactAreNutsUptoRow : OpenClaim := { program := "ytbjjpndhfgfedaa", sum := "4e05e6d99702fad6a9284ad2e0f5592cd6b12b79d3d7ae9e8c8dc9c93ca9fe9d", func := "loop.example/g01377/laws.FnExactAreNuts", spec := "fnExactAreNuts", plainKeys := false, apart := false, narrowed := true }
def FnExactAreNutsUptoSaid : Prop := fnExactAreNutsUptoRow.holds Try.pinned (OpenSpec.upto fnExactAreNutsSpec)

/-- 'laws.FnExactNutsIn', WHERE WHAT IT READS IS OF BULK AT MOST 1048576: true; the input reads as it did. -/
def fnExactNutsInUptoRow : OpenClaim := { program := "ytbjjpndhfgfedaa", sum := "4e05e6d99702fad6a9284ad2e0f5592cd6b12b79d3d7ae9e8c8dc9c93ca9fe9d", func := "loop.example/g01377/laws.FnExactNutsIn", spec := "fnExactNutsIn", plainKeys := false, apart := false, narrowed := true }
def FnExactNutsInUptoSaid : Prop := fnExactNutsInUptoRow.holds Try.pinned (OpenSpec.upto fnExactNutsInSpec)

/-- 'laws.FnExactRowNuts', WHERE WHAT IT READS IS OF BULK AT MOST 1048576: true; the input reads as it did. -/
def fnExactRowNutsUptoRow : OpenClaim := { program := "ytbjjpndhfgfedaa", sum := "4e05e6d99702fad6a9284ad2e0f5592cd6b12b79d3d7ae9e8c8dc9c93ca9fe9d", func := "loop.example/g01377/laws.FnExactRowNuts", spec := "fnExactRowNuts", plainKeys := false, apart := false, narrowed := true }
def FnExactRowNutsUptoSaid : Prop := fnExactRowNutsUptoRow.holds Try.pinned (OpenSpec.upto fnExactRowNutsSpec)

/-- 'laws.FnExactColumnNuts', WHERE WHAT IT READS IS OF BULK AT MOST 1048576: true; the input reads as it did. -/
def fnExactColumnNutsUptoRow : OpenClaim := { program := "ytbjjpndhfgfedaa", sum := "4e05e6d99702fad6a9284ad2e0f5592cd6b12b79d3d7ae9e8c8dc9c93ca9fe9d", func := "loop.example/g01377/laws.FnExactColumnNuts", spec := "fnExactColumnNuts", plainKeys := false, apart := false, narrowed := true }
def FnExactColumnNutsUptoSaid : Prop := fnExactColumnNutsUptoRow.holds Try.pinned (OpenSpec.upto fnExactColumnNutsSpec)

/-- 'laws.FnExactNutsInPart', WHERE WHAT IT READS IS OF BULK AT MOST 1048576: true; the input reads as it did. -/
def fnExactNutsInPartUptoRow : OpenClaim := { program := "ytbjjpndhfgfedaa", sum := "4e05e6d99702fad6a9284ad2e0f5592cd6b12b79d3d7ae9e8c8dc9c93ca9fe9d", func := "loop.example/g01377/laws.FnExactNutsInPart", spec := "fnExactNutsInPart", plainKeys := false, apart := false, narrowed := true }
def FnExactNutsInPartUptoSaid : Prop := fnExactNutsInPartUptoRow.holds Try.pinned (OpenSpec.upto fnExactNutsInPartSpec)

/-- 'laws.FnExactRichestPart', WHERE WHAT IT READS IS OF BULK AT MOST 1048576: true; the input reads as it did. -/
def fnExactRichestPartUptoRow : OpenClaim := { program := "ytbjjpndhfgfedaa", sum := "4e05e6d99702fad6a9284ad2e0f5592cd6b12b79d3d7ae9e8c8dc9c93ca9fe9d", func := "loop.example/g01377/laws.FnExactRichestPart", spec := "fnExactRichestPart", plainKeys := false, apart := false, narrowed := true }
def FnExactRichestPartUptoSaid : Prop := fnExactRichestPartUptoRow.holds Try.pinned (OpenSpec.upto fnExactRichestPartSpec)

/-- 'laws.FnExactCountParts', WHERE WHAT IT READS IS OF BULK AT MOST 1048576: true; the input reads as it did. -/
def fnExactCountPartsUptoRow : OpenClaim := { program := "ytbjjpndhfgfedaa", sum := "4e05e6d99702fad6a9284ad2e0f5592cd6b12b79d3d7ae9e8c8dc9c93ca9fe9d", func := "loop.example/g01377/laws.FnExactCountParts", spec := "fnExactCountParts", plainKeys := false, apart := false, narrowed := true }
def FnExactCountPartsUptoSaid : Prop := fnExactCountPartsUptoRow.holds Try.pinned (OpenSpec.upto fnExactCountPartsSpec)

/-- 'laws.FnExactGreatestPart', WHERE WHAT IT READS IS OF BULK AT MOST 1048576: true; the input reads as it did. -/
def fnExactGreatestPartUptoRow : OpenClaim := { program := "ytbjjpndhfgfedaa", sum := "4e05e6d99702fad6a9284ad2e0f5592cd6b12b79d3d7ae9e8c8dc9c93ca9fe9d", func := "loop.example/g01377/laws.FnExactGreatestPart", spec := "fnExactGreatestPart", plainKeys := false, apart := false, narrowed := true }
def FnExactGreatestPartUptoSaid : Prop := fnExactGreatestPartUptoRow.holds Try.pinned (OpenSpec.upto fnExactGreatestPartSpec)

/-- 'laws.FnExactEvenBreak', WHERE WHAT IT READS IS OF BULK AT MOST 1048576: true; the input reads as it did. -/
def fnExactEvenBreakUptoRow : OpenClaim := { program := "ytbjjpndhfgfedaa", sum := "4e05e6d99702fad6a9284ad2e0f5592cd6b12b79d3d7ae9e8c8dc9c93ca9fe9d", func := "loop.example/g01377/laws.FnExactEvenBreak", spec := "fnExactEvenBreak", plainKeys := false, apart := false, narrowed := true }
def FnExactEvenBreakUptoSaid : Prop := fnExactEvenBreakUptoRow.holds Try.pinned (OpenSpec.upto fnExactEvenBreakSpec)

/-- 'laws.FnExactEqualBreaks', WHERE WHAT IT READS IS OF BULK AT MOST 1048576: true; the input reads as it did. -/
def fnExactEqualBreaksUptoRow : OpenClaim := { program := "ytbjjpndhfgfedaa", sum := "4e05e6d99702fad6a9284ad2e0f5592cd6b12b79d3d7ae9e8c8dc9c93ca9fe9d", func := "loop.example/g01377/laws.FnExactEqualBreaks", spec := "fnExactEqualBreaks", plainKeys := false, apart := false, narrowed := true }
def FnExactEqualBreaksUptoSaid : Prop := fnExactEqualBreaksUptoRow.holds Try.pinned (OpenSpec.upto fnExactEqualBreaksSpec)

/-- 'laws.FnExactPoorestStrip', WHERE WHAT IT READS IS OF BULK AT MOST 1048576: true; the input reads as it did. -/
def fnExactPoorestStripUptoRow : OpenClaim := { program := "ytbjjpndhfgfedaa", sum := "4e05e6d99702fad6a9284ad2e0f5592cd6b12b79d3d7ae9e8c8dc9c93ca9fe9d", func := "loop.example/g01377/laws.FnExactPoorestStrip", spec := "fnExactPoorestStrip", recurses := true, plainKeys := false, apart := false, narrowed := true }
def FnExactPoorestStripUptoSaid : Prop := fnExactPoorestStripUptoRow.holds Try.pinned (OpenSpec.upto fnExactPoorestStripSpec)

/-- 'laws.FnExactFirstStrips', WHERE WHAT IT READS IS OF BULK AT MOST 1048576: true; the input reads as it did. -/
def fnExactFirstStripsUptoRow : OpenClaim := { program := "ytbjjpndhfgfedaa", sum := "4e05e6d99702fad6a9284ad2e0f5592cd6b12b79d3d7ae9e8c8dc9c93ca9fe9d", func := "loop.example/g01377/laws.FnExactFirstStrips", spec := "fnExactFirstStrips", recurses := true, plainKeys := false, apart := false, narrowed := true }
def FnExactFirstStripsUptoSaid : Prop := fnExactFirstStripsUptoRow.holds Try.pinned (OpenSpec.upto fnExactFirstStripsSpec)

end Rows
end Go.Proofs.Ytbjjpndhfgfedaa
