/-
  No cell of these rows narrows 'for every input' (looked for: loops, veiled, ifaces, maps, wideKeys, modest, calm, conditions, laid).
  DERIVED. THE GIVEN ROWS OF THIS SEAT. 8 by the template 'for every input the law returns true; each argument reads behind the call as it read before'; 0 by the template 'total and deterministic' (their statements: YtclkddehaomdjabTotals.lean).
  GIVEN WITH THE SEED: the statements are not yours to turn. If you find one false, say at which input.
  Laid BY PROGRAM, IN A SANDBOX (cutbox-rows.mjs): the forced cells as the released guide's own fill.sh prints them over the translation 00faadfacd4ed9e4… (all of the seat's roots in one cut). By AI agents, Wed Nov 11 2026. No macro, syntax, notation, axiom, sorry.
-/
import Derived.Test.YtclkddehaomdjabChecked
import GoSem.Claim
import GoSem.ClaimJoined
import GoSem.ClaimMapViews
import Derived.JoinedTies
import Derived.KernelRfl
namespace Go.Proofs.Ytclkddehaomdjab
/- THE CELL 'sum', in the pinned program and in every row, IS THE sha256 OF THE DUMP (.gsa) THAT YtclkddehaomdjabProg.lean LOADS. Nothing in Lean hashes anything: it is a label: what it is worth is what the hold of that sum in a sandbox is worth. -/
noncomputable def Try.pinned : Pinned := { name := "ytclkddehaomdjab", sum := "00faadfacd4ed9e4d7d03c1d3579ca037163240d0ca6a2b139da69bfcc46df38", checked := Try.checked }
namespace Rows
def none {H : Type} : Left H := { results := [], args := [] }

/-- 'laws.FnExactCountChomps': WHATEVER THE INPUT: true; the input reads as it did. -/
def fnExactCountChompsSpec : ChangeSpec := { name := "fnExactCountChomps", fn := fun _ => fun
  | [d1, d2] => { results := [.lit (.bool true)], args := [d1, d2] }
  | _ => none }
def fnExactCountChompsRow : OpenClaim := { program := "ytclkddehaomdjab", sum := "00faadfacd4ed9e4d7d03c1d3579ca037163240d0ca6a2b139da69bfcc46df38", func := "loop.example/g01377/laws.FnExactCountChomps", spec := "fnExactCountChomps", recurses := true, plainKeys := false, apart := false }
def FnExactCountChompsSaid : Prop := fnExactCountChompsRow.holds Try.pinned (OpenSpec.ofChange fnExactCountChompsSpec)

/-- ITS FALSE NEIGHBOUR: 'it returns false'. Refute it at one input. -/
def fnExactCountChompsWrong : ChangeSpec := { name := "fnExactCountChomps", fn := fun _ => fun
  | [d1, d2] => { results := [.lit (.bool false)], args := [d1, d2] }
  | _ => none }
def FnExactCountChompsWrongFalsely : Prop := fnExactCountChompsRow.holds Try.pinned (OpenSpec.ofChange fnExactCountChompsWrong)

/-- 'laws.FnExactCountLostChomps': WHATEVER THE INPUT: true; the input reads as it did. -/
def fnExactCountLostChompsSpec : ChangeSpec := { name := "fnExactCountLostChomps", fn := fun _ => fun
  | [d1, d2] => { results := [.lit (.bool true)], args := [d1, d2] }
  | _ => none }
def fnExactCountLostChompsRow : OpenClaim := { program := "ytclkddehaomdjab", sum := "00faadfacd4ed9e4d7d03c1d3579ca037163240d0ca6a2b139da69bfcc46df38", func := "loop.example/g01377/laws.FnExactCountLostChomps", spec := "fnExactCountLostChomps", unfollowed := true, recurses := true, plainKeys := false, apart := false }
def FnExactCountLostChompsSaid : Prop := fnExactCountLostChompsRow.holds Try.pinned (OpenSpec.ofChange fnExactCountLostChompsSpec)

/-- ITS FALSE NEIGHBOUR: 'it returns false'. Refute it at one input. -/
def fnExactCountLostChompsWrong : ChangeSpec := { name := "fnExactCountLostChomps", fn := fun _ => fun
  | [d1, d2] => { results := [.lit (.bool false)], args := [d1, d2] }
  | _ => none }
def FnExactCountLostChompsWrongFalsely : Prop := fnExactCountLostChompsRow.holds Try.pinned (OpenSpec.ofChange fnExactCountLostChompsWrong)

/-- 'laws.FnExactLostChomps': WHATEVER THE INPUT: true; the input reads as it did. -/
def fnExactLostChompsSpec : ChangeSpec := { name := "fnExactLostChomps", fn := fun _ => fun
  | [d1, d2] => { results := [.lit (.bool true)], args := [d1, d2] }
  | _ => none }
def fnExactLostChompsRow : OpenClaim := { program := "ytclkddehaomdjab", sum := "00faadfacd4ed9e4d7d03c1d3579ca037163240d0ca6a2b139da69bfcc46df38", func := "loop.example/g01377/laws.FnExactLostChomps", spec := "fnExactLostChomps", unfollowed := true, recurses := true, plainKeys := false, apart := false }
def FnExactLostChompsSaid : Prop := fnExactLostChompsRow.holds Try.pinned (OpenSpec.ofChange fnExactLostChompsSpec)

/-- ITS FALSE NEIGHBOUR: 'it returns false'. Refute it at one input. -/
def fnExactLostChompsWrong : ChangeSpec := { name := "fnExactLostChomps", fn := fun _ => fun
  | [d1, d2] => { results := [.lit (.bool false)], args := [d1, d2] }
  | _ => none }
def FnExactLostChompsWrongFalsely : Prop := fnExactLostChompsRow.holds Try.pinned (OpenSpec.ofChange fnExactLostChompsWrong)

/-- 'laws.FnExactRankOfChomp': WHATEVER THE INPUT: true; the input reads as it did. -/
def fnExactRankOfChompSpec : ChangeSpec := { name := "fnExactRankOfChomp", fn := fun _ => fun
  | [d] => { results := [.lit (.bool true)], args := [d] }
  | _ => none }
def fnExactRankOfChompRow : OpenClaim := { program := "ytclkddehaomdjab", sum := "00faadfacd4ed9e4d7d03c1d3579ca037163240d0ca6a2b139da69bfcc46df38", func := "loop.example/g01377/laws.FnExactRankOfChomp", spec := "fnExactRankOfChomp", recurses := true, plainKeys := false, apart := false }
def FnExactRankOfChompSaid : Prop := fnExactRankOfChompRow.holds Try.pinned (OpenSpec.ofChange fnExactRankOfChompSpec)

/-- ITS FALSE NEIGHBOUR: 'it returns false'. Refute it at one input. -/
def fnExactRankOfChompWrong : ChangeSpec := { name := "fnExactRankOfChomp", fn := fun _ => fun
  | [d] => { results := [.lit (.bool false)], args := [d] }
  | _ => none }
def FnExactRankOfChompWrongFalsely : Prop := fnExactRankOfChompRow.holds Try.pinned (OpenSpec.ofChange fnExactRankOfChompWrong)

/-- 'laws.FnExactChompOfRank': WHATEVER THE INPUT: true; the input reads as it did. -/
def fnExactChompOfRankSpec : ChangeSpec := { name := "fnExactChompOfRank", fn := fun _ => fun
  | [d] => { results := [.lit (.bool true)], args := [d] }
  | _ => none }
def fnExactChompOfRankRow : OpenClaim := { program := "ytclkddehaomdjab", sum := "00faadfacd4ed9e4d7d03c1d3579ca037163240d0ca6a2b139da69bfcc46df38", func := "loop.example/g01377/laws.FnExactChompOfRank", spec := "fnExactChompOfRank", recurses := true, plainKeys := false, apart := false }
def FnExactChompOfRankSaid : Prop := fnExactChompOfRankRow.holds Try.pinned (OpenSpec.ofChange fnExactChompOfRankSpec)

/-- ITS FALSE NEIGHBOUR: 'it returns false'. Refute it at one input. -/
def fnExactChompOfRankWrong : ChangeSpec := { name := "fnExactChompOfRank", fn := fun _ => fun
  | [d] => { results := [.lit (.bool false)], args := [d] }
  | _ => none }
def FnExactChompOfRankWrongFalsely : Prop := fnExactChompOfRankRow.holds Try.pinned (OpenSpec.ofChange fnExactChompOfRankWrong)

/-- 'laws.FnExactTurnChomp': WHATEVER THE INPUT: true; the input reads as it did. -/
def fnExactTurnChompSpec : ChangeSpec := { name := "fnExactTurnChomp", fn := fun _ => fun
  | [d] => { results := [.lit (.bool true)], args := [d] }
  | _ => none }
def fnExactTurnChompRow : OpenClaim := { program := "ytclkddehaomdjab", sum := "00faadfacd4ed9e4d7d03c1d3579ca037163240d0ca6a2b139da69bfcc46df38", func := "loop.example/g01377/laws.FnExactTurnChomp", spec := "fnExactTurnChomp", plainKeys := false, apart := false }
def FnExactTurnChompSaid : Prop := fnExactTurnChompRow.holds Try.pinned (OpenSpec.ofChange fnExactTurnChompSpec)

/-- ITS FALSE NEIGHBOUR: 'it returns false'. Refute it at one input. -/
def fnExactTurnChompWrong : ChangeSpec := { name := "fnExactTurnChomp", fn := fun _ => fun
  | [d] => { results := [.lit (.bool false)], args := [d] }
  | _ => none }
def FnExactTurnChompWrongFalsely : Prop := fnExactTurnChompRow.holds Try.pinned (OpenSpec.ofChange fnExactTurnChompWrong)

/-- 'laws.FnExactChompText': WHATEVER THE INPUT: true; the input reads as it did. -/
def fnExactChompTextSpec : ChangeSpec := { name := "fnExactChompText", fn := fun _ => fun
  | [d] => { results := [.lit (.bool true)], args := [d] }
  | _ => none }
def fnExactChompTextRow : OpenClaim := { program := "ytclkddehaomdjab", sum := "00faadfacd4ed9e4d7d03c1d3579ca037163240d0ca6a2b139da69bfcc46df38", func := "loop.example/g01377/laws.FnExactChompText", spec := "fnExactChompText", recurses := true, plainKeys := false, apart := false }
def FnExactChompTextSaid : Prop := fnExactChompTextRow.holds Try.pinned (OpenSpec.ofChange fnExactChompTextSpec)

/-- ITS FALSE NEIGHBOUR: 'it returns false'. Refute it at one input. -/
def fnExactChompTextWrong : ChangeSpec := { name := "fnExactChompText", fn := fun _ => fun
  | [d] => { results := [.lit (.bool false)], args := [d] }
  | _ => none }
def FnExactChompTextWrongFalsely : Prop := fnExactChompTextRow.holds Try.pinned (OpenSpec.ofChange fnExactChompTextWrong)

/-- 'laws.FnExactParseChomp': WHATEVER THE INPUT: true; the input reads as it did. -/
def fnExactParseChompSpec : ChangeSpec := { name := "fnExactParseChomp", fn := fun _ => fun
  | [d] => { results := [.lit (.bool true)], args := [d] }
  | _ => none }
def fnExactParseChompRow : OpenClaim := { program := "ytclkddehaomdjab", sum := "00faadfacd4ed9e4d7d03c1d3579ca037163240d0ca6a2b139da69bfcc46df38", func := "loop.example/g01377/laws.FnExactParseChomp", spec := "fnExactParseChomp", plainKeys := false, apart := false }
def FnExactParseChompSaid : Prop := fnExactParseChompRow.holds Try.pinned (OpenSpec.ofChange fnExactParseChompSpec)

/-- ITS FALSE NEIGHBOUR: 'it returns false'. Refute it at one input. -/
def fnExactParseChompWrong : ChangeSpec := { name := "fnExactParseChomp", fn := fun _ => fun
  | [d] => { results := [.lit (.bool false)], args := [d] }
  | _ => none }
def FnExactParseChompWrongFalsely : Prop := fnExactParseChompRow.holds Try.pinned (OpenSpec.ofChange fnExactParseChompWrong)

/- THE SECOND FORM. 'bulk': how many values and letters a reading holds, each counted each time it is reached (what is shared counts as often as it is met; a slice's spare places count too). A statement '..UptoSaid' is the law's where the arguments, and the package variables that the reading takes, are together of bulk at most 1048576: NARROWER than '..Said'. Prove '..Said' where nothing that the law and all that it calls make is longer than what came in: it says more and counts as full. Else prove '..UptoSaid'. A law counts once. -/
mutual
def uptoBulk {H : Type} : DataW H → Nat
  | .lit (.string bytes) => bytes.length + 1
  | .lit _ => 1
  | .nil => 1
  | .ptr d => uptoBulk d + 1
  | .slice elems spare => uptoBulkAll elems + uptoBulkAll spare + 1
  | .agg parts => uptoBulkAll parts + 1
  | .iface _ d => uptoBulk d + 1
  | .map entries => uptoBulkEntries entries + 1
  | .held _ => 1
def uptoBulkAll {H : Type} : List (DataW H) → Nat
  | [] => 0
  | d :: r => uptoBulk d + uptoBulkAll r
def uptoBulkEntries {H : Type} : List (Lit × DataW H) → Nat
  | [] => 0
  | x :: r => uptoBulkEntry x + uptoBulkEntries r
def uptoBulkEntry {H : Type} : Lit × DataW H → Nat
  | (.string bytes, d) => bytes.length + uptoBulk d + 1
  | (_, d) => uptoBulk d + 1
 end
def uptoSmall : (H : Type) → List (DataW H) → Bool := fun _ ds => decide (uptoBulkAll ds ≤ 1048576)
def OpenSpec.upto (s : _root_.Go.ChangeSpec) : _root_.Go.OpenSpec := { _root_.Go.OpenSpec.ofChange s with cond := some uptoSmall }

/-- 'laws.FnExactCountChomps', WHERE WHAT IT READS IS OF BULK AT MOST 1048576: true; the input reads as it did. -/
def fnExactCountChompsUptoRow : OpenClaim := { program := "ytclkddehaomdjab", sum := "00faadfacd4ed9e4d7d03c1d3579ca037163240d0ca6a2b139da69bfcc46df38", func := "loop.example/g01377/laws.FnExactCountChomps", spec := "fnExactCountChomps", recurses := true, plainKeys := false, apart := false, narrowed := true }
def FnExactCountChompsUptoSaid : Prop := fnExactCountChompsUptoRow.holds Try.pinned (OpenSpec.upto fnExactCountChompsSpec)

/-- 'laws.FnExactCountLostChomps', WHERE WHAT IT READS IS OF BULK AT MOST 1048576: true; the input reads as it did. -/
def fnExactCountLostChompsUptoRow : OpenClaim := { program := "ytclkddehaomdjab", sum := "00faadfacd4ed9e4d7d03c1d3579ca037163240d0ca6a2b139da69bfcc46df38", func := "loop.example/g01377/laws.FnExactCountLostChomps", spec := "fnExactCountLostChomps", unfollowed := true, recurses := true, plainKeys := false, apart := false, narrowed := true }
def FnExactCountLostChompsUptoSaid : Prop := fnExactCountLostChompsUptoRow.holds Try.pinned (OpenSpec.upto fnExactCountLostChompsSpec)

/-- 'laws.FnExactLostChomps', WHERE WHAT IT READS IS OF BULK AT MOST 1048576: true; the input reads as it did. -/
def fnExactLostChompsUptoRow : OpenClaim := { program := "ytclkddehaomdjab", sum := "00faadfacd4ed9e4d7d03c1d3579ca037163240d0ca6a2b139da69bfcc46df38", func := "loop.example/g01377/laws.FnExactLostChomps", spec := "fnExactLostChomps", unfollowed := true, recurses := true, plainKeys := false, apart := false, narrowed := true }
def FnExactLostChompsUptoSaid : Prop := fnExactLostChompsUptoRow.holds Try.pinned (OpenSpec.upto fnExactLostChompsSpec)

/-- 'laws.FnExactRankOfChomp', WHERE WHAT IT READS IS OF BULK AT MOST 1048576: true; the input reads as it did. -/
def fnExactRankOfChompUptoRow : OpenClaim := { program := "ytclkddehaomdjab", sum := "00faadfacd4ed9e4d7d03c1d3579ca037163240d0ca6a2b139da69bfcc46df38", func := "loop.example/g01377/laws.FnExactRankOfChomp", spec := "fnExactRankOfChomp", recurses := true, plainKeys := false, apart := false, narrowed := true }
def FnExactRankOfChompUptoSaid : Prop := fnExactRankOfChompUptoRow.holds Try.pinned (OpenSpec.upto fnExactRankOfChompSpec)

/-- 'laws.FnExactChompOfRank', WHERE WHAT IT READS IS OF BULK AT MOST 1048576: true; the input reads as it did. -/
def fnExactChompOfRankUptoRow : OpenClaim := { program := "ytclkddehaomdjab", sum := "00faadfacd4ed9e4d7d03c1d3579ca037163240d0ca6a2b139da69bfcc46df38", func := "loop.example/g01377/laws.FnExactChompOfRank", spec := "fnExactChompOfRank", recurses := true, plainKeys := false, apart := false, narrowed := true }
def FnExactChompOfRankUptoSaid : Prop := fnExactChompOfRankUptoRow.holds Try.pinned (OpenSpec.upto fnExactChompOfRankSpec)

/-- 'laws.FnExactTurnChomp', WHERE WHAT IT READS IS OF BULK AT MOST 1048576: true; the input reads as it did. -/
def fnExactTurnChompUptoRow : OpenClaim := { program := "ytclkddehaomdjab", sum := "00faadfacd4ed9e4d7d03c1d3579ca037163240d0ca6a2b139da69bfcc46df38", func := "loop.example/g01377/laws.FnExactTurnChomp", spec := "fnExactTurnChomp", plainKeys := false, apart := false, narrowed := true }
def FnExactTurnChompUptoSaid : Prop := fnExactTurnChompUptoRow.holds Try.pinned (OpenSpec.upto fnExactTurnChompSpec)

/-- 'laws.FnExactChompText', WHERE WHAT IT READS IS OF BULK AT MOST 1048576: true; the input reads as it did. -/
def fnExactChompTextUptoRow : OpenClaim := { program := "ytclkddehaomdjab", sum := "00faadfacd4ed9e4d7d03c1d3579ca037163240d0ca6a2b139da69bfcc46df38", func := "loop.example/g01377/laws.FnExactChompText", spec := "fnExactChompText", recurses := true, plainKeys := false, apart := false, narrowed := true }
def FnExactChompTextUptoSaid : Prop := fnExactChompTextUptoRow.holds Try.pinned (OpenSpec.upto fnExactChompTextSpec)

/-- 'laws.FnExactParseChomp', WHERE WHAT IT READS IS OF BULK AT MOST 1048576: true; the input reads as it did. -/
def fnExactParseChompUptoRow : OpenClaim := { program := "ytclkddehaomdjab", sum := "00faadfacd4ed9e4d7d03c1d3579ca037163240d0ca6a2b139da69bfcc46df38", func := "loop.example/g01377/laws.FnExactParseChomp", spec := "fnExactParseChomp", plainKeys := false, apart := false, narrowed := true }
def FnExactParseChompUptoSaid : Prop := fnExactParseChompUptoRow.holds Try.pinned (OpenSpec.upto fnExactParseChompSpec)

end Rows
end Go.Proofs.Ytclkddehaomdjab
