/-
  NARROWER THAN 'FOR EVERY INPUT', by the rows' own cells (each row's printed sentence says how): FnExactWinsStrips: ifaces, laid · FnExactGoodStrips: ifaces, laid · FnExactLongestStripPlay: ifaces, laid · FnExactShortestStripPlay: ifaces, laid · FnExactBreakStrip: ifaces, laid.
  DERIVED. THE GIVEN ROWS OF THIS SEAT. 5 by the template 'for every input the law returns true; each argument reads behind the call as it read before'; 0 by the template 'total and deterministic' (their statements: YthemmckchmpicabDoorTotals.lean).
  GIVEN WITH THE SEED: the statements are not yours to turn. If you find one false, say at which input.
  Laid BY PROGRAM, IN A SANDBOX (cutbox-rows.mjs): the forced cells as the released guide's own fill.sh prints them over the translation a151df956b72d930… (all of the seat's roots in one cut). By AI agents, Wed Nov 11 2026. No macro, syntax, notation, axiom, sorry.
-/
import Derived.Test.YthemmckchmpicabDoorChecked
import GoSem.Claim
import GoSem.ClaimJoined
import GoSem.ClaimMapViews
import Derived.JoinedTies
import Derived.KernelRfl
namespace Go.Proofs.YthemmckchmpicabDoor
/- THE CELL 'sum', in the pinned program and in every row, IS THE sha256 OF THE DUMP (.gsa) THAT YthemmckchmpicabDoorProg.lean LOADS. Nothing in Lean hashes anything: it is a label: what it is worth is what the hold of that sum in a sandbox is worth. -/
noncomputable def Tryd.pinned : Pinned := { name := "ythemmckchmpicabdoor", sum := "a151df956b72d93004978014a21ad50f7071d6ca00388f45cea5dcee0fb255f9", checked := Tryd.checked }
namespace Rows
def none {H : Type} : Left H := { results := [], args := [] }

/- WHAT THE LISTED PACKAGE-LEVEL VARIABLES READ AS WHEN THE CALL BEGINS. Each datum BY PROGRAM (the guide's laid-datum.mjs) off the statement by which the dump's own 'gosem.cut.vars' lays the variable. In a bare row this is a premise. The card (YthemmckchmpicabDoorCards.lean) ties it to the program's text. -/
def laid_errors_errorType {H : Type} : DataW H := .iface "internal/reflectlite.rtype" (.agg [.ptr (.lit (.string [101, 114, 114, 111, 114]))])
def laid_loop_example_g01377_impl_errLikeParts {H : Type} : DataW H := .iface "*errors.errorString" (.ptr (.agg [.lit (.string [98, 111, 116, 104, 32, 112, 97, 114, 116, 115, 32, 97, 114, 101, 32, 111, 102, 32, 116, 104, 101, 32, 115, 97, 109, 101, 32, 108, 101, 110, 103, 116, 104])]))
def laid_loop_example_g01377_impl_errNoStrip {H : Type} : DataW H := .iface "*errors.errorString" (.ptr (.agg [.lit (.string [116, 104, 101, 114, 101, 32, 105, 115, 32, 110, 111, 32, 115, 117, 99, 104, 32, 115, 116, 114, 105, 112])]))
def laid_loop_example_g01377_impl_errNoRoom {H : Type} : DataW H := .iface "*errors.errorString" (.ptr (.agg [.lit (.string [116, 104, 101, 114, 101, 32, 105, 115, 32, 110, 111, 32, 114, 111, 111, 109, 32, 102, 111, 114, 32, 111, 110, 101, 32, 109, 111, 114, 101, 32, 115, 116, 114, 105, 112])]))

/-- 'laws.FnExactWinsStrips': WHATEVER THE INPUT: true; the input reads as it did. -/
def fnExactWinsStripsSpec : ChangeSpec := { name := "fnExactWinsStrips", vars := ["loop.example/g01377/impl.errLikeParts"], fn := fun _ => fun
  | [d1, d2, d3, g1] => { results := [.lit (.bool true)], args := [d1, d2, d3], vars := [g1] }
  | _ => none }
def fnExactWinsStripsRow : OpenClaim := { program := "ythemmckchmpicabdoor", sum := "a151df956b72d93004978014a21ad50f7071d6ca00388f45cea5dcee0fb255f9", func := "loop.example/g01377/laws.FnExactWinsStrips", spec := "fnExactWinsStrips", inPlace := ["internal/reflectlite.ValueOf", "(internal/reflectlite.Value).Type", "(internal/reflectlite.Value).IsNil", "internal/reflectlite.TypeOf", "(internal/reflectlite.Value).Elem", "(internal/reflectlite.Value).Set"], unfollowed := true, recurses := true, named := ["loop.example/g01377/impl.errLikeParts", "errors.errorType"], ifaces := true, apart := false, laid := [("errors.errorType", laid_errors_errorType), ("loop.example/g01377/impl.errLikeParts", laid_loop_example_g01377_impl_errLikeParts)] }
def FnExactWinsStripsSaid : Prop := fnExactWinsStripsRow.holds Tryd.pinned (OpenSpec.ofChange fnExactWinsStripsSpec)

/-- ITS FALSE NEIGHBOUR: 'it returns false'. Refute it at one input. -/
def fnExactWinsStripsWrong : ChangeSpec := { name := "fnExactWinsStrips", vars := ["loop.example/g01377/impl.errLikeParts"], fn := fun _ => fun
  | [d1, d2, d3, g1] => { results := [.lit (.bool false)], args := [d1, d2, d3], vars := [g1] }
  | _ => none }
def FnExactWinsStripsWrongFalsely : Prop := fnExactWinsStripsRow.holds Tryd.pinned (OpenSpec.ofChange fnExactWinsStripsWrong)

/-- 'laws.FnExactGoodStrips': WHATEVER THE INPUT: true; the input reads as it did. -/
def fnExactGoodStripsSpec : ChangeSpec := { name := "fnExactGoodStrips", vars := ["loop.example/g01377/impl.errLikeParts"], fn := fun _ => fun
  | [d1, d2, d3, g1] => { results := [.lit (.bool true)], args := [d1, d2, d3], vars := [g1] }
  | _ => none }
def fnExactGoodStripsRow : OpenClaim := { program := "ythemmckchmpicabdoor", sum := "a151df956b72d93004978014a21ad50f7071d6ca00388f45cea5dcee0fb255f9", func := "loop.example/g01377/laws.FnExactGoodStrips", spec := "fnExactGoodStrips", inPlace := ["internal/reflectlite.ValueOf", "(internal/reflectlite.Value).Type", "(internal/reflectlite.Value).IsNil", "internal/reflectlite.TypeOf", "(internal/reflectlite.Value).Elem", "(internal/reflectlite.Value).Set"], unfollowed := true, recurses := true, named := ["loop.example/g01377/impl.errLikeParts", "errors.errorType"], ifaces := true, apart := false, laid := [("errors.errorType", laid_errors_errorType), ("loop.example/g01377/impl.errLikeParts", laid_loop_example_g01377_impl_errLikeParts)] }
def FnExactGoodStripsSaid : Prop := fnExactGoodStripsRow.holds Tryd.pinned (OpenSpec.ofChange fnExactGoodStripsSpec)

/-- ITS FALSE NEIGHBOUR: 'it returns false'. Refute it at one input. -/
def fnExactGoodStripsWrong : ChangeSpec := { name := "fnExactGoodStrips", vars := ["loop.example/g01377/impl.errLikeParts"], fn := fun _ => fun
  | [d1, d2, d3, g1] => { results := [.lit (.bool false)], args := [d1, d2, d3], vars := [g1] }
  | _ => none }
def FnExactGoodStripsWrongFalsely : Prop := fnExactGoodStripsRow.holds Tryd.pinned (OpenSpec.ofChange fnExactGoodStripsWrong)

/-- 'laws.FnExactLongestStripPlay': WHATEVER THE INPUT: true; the input reads as it did. -/
def fnExactLongestStripPlaySpec : ChangeSpec := { name := "fnExactLongestStripPlay", vars := ["loop.example/g01377/impl.errLikeParts"], fn := fun _ => fun
  | [d1, d2, d3, g1] => { results := [.lit (.bool true)], args := [d1, d2, d3], vars := [g1] }
  | _ => none }
def fnExactLongestStripPlayRow : OpenClaim := { program := "ythemmckchmpicabdoor", sum := "a151df956b72d93004978014a21ad50f7071d6ca00388f45cea5dcee0fb255f9", func := "loop.example/g01377/laws.FnExactLongestStripPlay", spec := "fnExactLongestStripPlay", inPlace := ["internal/reflectlite.ValueOf", "(internal/reflectlite.Value).Type", "(internal/reflectlite.Value).IsNil", "internal/reflectlite.TypeOf", "(internal/reflectlite.Value).Elem", "(internal/reflectlite.Value).Set"], unfollowed := true, recurses := true, named := ["loop.example/g01377/impl.errLikeParts", "errors.errorType"], ifaces := true, apart := false, laid := [("errors.errorType", laid_errors_errorType), ("loop.example/g01377/impl.errLikeParts", laid_loop_example_g01377_impl_errLikeParts)] }
def FnExactLongestStripPlaySaid : Prop := fnExactLongestStripPlayRow.holds Tryd.pinned (OpenSpec.ofChange fnExactLongestStripPlaySpec)

/-- ITS FALSE NEIGHBOUR: 'it returns false'. Refute it at one input. -/
def fnExactLongestStripPlayWrong : ChangeSpec := { name := "fnExactLongestStripPlay", vars := ["loop.example/g01377/impl.errLikeParts"], fn := fun _ => fun
  | [d1, d2, d3, g1] => { results := [.lit (.bool false)], args := [d1, d2, d3], vars := [g1] }
  | _ => none }
def FnExactLongestStripPlayWrongFalsely : Prop := fnExactLongestStripPlayRow.holds Tryd.pinned (OpenSpec.ofChange fnExactLongestStripPlayWrong)

/-- 'laws.FnExactShortestStripPlay': WHATEVER THE INPUT: true; the input reads as it did. -/
def fnExactShortestStripPlaySpec : ChangeSpec := { name := "fnExactShortestStripPlay", vars := ["loop.example/g01377/impl.errLikeParts"], fn := fun _ => fun
  | [d1, d2, d3, g1] => { results := [.lit (.bool true)], args := [d1, d2, d3], vars := [g1] }
  | _ => none }
def fnExactShortestStripPlayRow : OpenClaim := { program := "ythemmckchmpicabdoor", sum := "a151df956b72d93004978014a21ad50f7071d6ca00388f45cea5dcee0fb255f9", func := "loop.example/g01377/laws.FnExactShortestStripPlay", spec := "fnExactShortestStripPlay", inPlace := ["internal/reflectlite.ValueOf", "(internal/reflectlite.Value).Type", "(internal/reflectlite.Value).IsNil", "internal/reflectlite.TypeOf", "(internal/reflectlite.Value).Elem", "(internal/reflectlite.Value).Set"], unfollowed := true, recurses := true, named := ["loop.example/g01377/impl.errLikeParts", "errors.errorType"], ifaces := true, apart := false, laid := [("errors.errorType", laid_errors_errorType), ("loop.example/g01377/impl.errLikeParts", laid_loop_example_g01377_impl_errLikeParts)] }
def FnExactShortestStripPlaySaid : Prop := fnExactShortestStripPlayRow.holds Tryd.pinned (OpenSpec.ofChange fnExactShortestStripPlaySpec)

/-- ITS FALSE NEIGHBOUR: 'it returns false'. Refute it at one input. -/
def fnExactShortestStripPlayWrong : ChangeSpec := { name := "fnExactShortestStripPlay", vars := ["loop.example/g01377/impl.errLikeParts"], fn := fun _ => fun
  | [d1, d2, d3, g1] => { results := [.lit (.bool false)], args := [d1, d2, d3], vars := [g1] }
  | _ => none }
def FnExactShortestStripPlayWrongFalsely : Prop := fnExactShortestStripPlayRow.holds Tryd.pinned (OpenSpec.ofChange fnExactShortestStripPlayWrong)

/-- 'laws.FnExactBreakStrip': WHATEVER THE INPUT: true; the input reads as it did. -/
def fnExactBreakStripSpec : ChangeSpec := { name := "fnExactBreakStrip", vars := ["loop.example/g01377/impl.errNoRoom", "loop.example/g01377/impl.errNoStrip", "loop.example/g01377/impl.errLikeParts"], fn := fun _ => fun
  | [d1, d2, d3, d4, d5, g1, g2, g3] => { results := [.lit (.bool true)], args := [d1, d2, d3, d4, d5], vars := [g1, g2, g3] }
  | _ => none }
def fnExactBreakStripRow : OpenClaim := { program := "ythemmckchmpicabdoor", sum := "a151df956b72d93004978014a21ad50f7071d6ca00388f45cea5dcee0fb255f9", func := "loop.example/g01377/laws.FnExactBreakStrip", spec := "fnExactBreakStrip", unfollowed := true, recurses := true, named := ["loop.example/g01377/impl.errNoRoom", "loop.example/g01377/impl.errNoStrip", "loop.example/g01377/impl.errLikeParts"], ifaces := true, apart := false, laid := [("loop.example/g01377/impl.errLikeParts", laid_loop_example_g01377_impl_errLikeParts), ("loop.example/g01377/impl.errNoStrip", laid_loop_example_g01377_impl_errNoStrip), ("loop.example/g01377/impl.errNoRoom", laid_loop_example_g01377_impl_errNoRoom)] }
def FnExactBreakStripSaid : Prop := fnExactBreakStripRow.holds Tryd.pinned (OpenSpec.ofChange fnExactBreakStripSpec)

/-- ITS FALSE NEIGHBOUR: 'it returns false'. Refute it at one input. -/
def fnExactBreakStripWrong : ChangeSpec := { name := "fnExactBreakStrip", vars := ["loop.example/g01377/impl.errNoRoom", "loop.example/g01377/impl.errNoStrip", "loop.example/g01377/impl.errLikeParts"], fn := fun _ => fun
  | [d1, d2, d3, d4, d5, g1, g2, g3] => { results := [.lit (.bool false)], args := [d1, d2, d3, d4, d5], vars := [g1, g2, g3] }
  | _ => none }
def FnExactBreakStripWrongFalsely : Prop := fnExactBreakStripRow.holds Tryd.pinned (OpenSpec.ofChange fnExactBreakStripWrong)

/- THE SECOND FORM. 'bulk': how many values and letters a reading holds, each counted each time it is reached (what is shared counts as often as it is met; a slice's spare places count too). A statement '..UptoSaid' is the law's where the arguments, and the package variables that the reading takes, are together of bulk at most 1048576: NARROWER than '..Said'. Prove '..Said' where nothing that the law and all that it calls make is longer than what came in: it says more and counts as full. Else prove '..UptoSaid'. A law counts once. -/
mutual
def uptoBulk {H : Type} : DataW H → Nat
  | .lit (.string bytes) => bytes.length + 1
  | .lit _ => 1
  | .nil => 1
  | .ptr d => uptoBulk d + 1
  | .slice elems spare => uptoBulkAll elems + uptoBulkAll spare + 1
  | .agg parts => uptoBulkAll parts + 1
  | .iface _ d => uptoBulk d + 1
  | .map entries => uptoBulkEntries entries + 1
  | .held _ => 1
def uptoBulkAll {H : Type} : List (DataW H) → Nat
  | [] => 0
  | d :: r => uptoBulk d + uptoBulkAll r
def uptoBulkEntries {H : Type} : List (Lit × DataW H) → Nat
  | [] => 0
  | x :: r => uptoBulkEntry x + uptoBulkEntries r
def uptoBulkEntry {H : Type} : Lit × DataW H → Nat
  | (.string bytes, d) => bytes.length + uptoBulk d + 1
  | (_, d) => uptoBulk d + 1
 end
def uptoSmall : (H : Type) → List (DataW H) → Bool := fun _ ds => decide (uptoBulkAll ds ≤ 1048576)
def OpenSpec.upto (s : _root_.Go.ChangeSpec) : _root_.Go.OpenSpec := { _root_.Go.OpenSpec.ofChange s with cond := some uptoSmall }

/-- 'laws.FnExactWinsStrips', WHERE WHAT IT READS IS OF BULK AT MOST 1048576: true; the input reads as it did. -/
def fnExactWinsStripsUptoRow : OpenClaim := { program := "ythemmckchmpicabdoor", sum := "a151df956b72d93004978014a21ad50f7071d6ca00388f45cea5dcee0fb255f9", func := "loop.example/g01377/laws.FnExactWinsStrips", spec := "fnExactWinsStrips", inPlace := ["internal/reflectlite.ValueOf", "(internal/reflectlite.Value).Type", "(internal/reflectlite.Value).IsNil", "internal/reflectlite.TypeOf", "(internal/reflectlite.Value).Elem", "(internal/reflectlite.Value).Set"], unfollowed := true, recurses := true, named := ["loop.example/g01377/impl.errLikeParts", "errors.errorType"], ifaces := true, apart := false, laid := [("errors.errorType", laid_errors_errorType), ("loop.example/g01377/impl.errLikeParts", laid_loop_example_g01377_impl_errLikeParts)], narrowed := true }
def FnExactWinsStripsUptoSaid : Prop := fnExactWinsStripsUptoRow.holds Tryd.pinned (OpenSpec.upto fnExactWinsStripsSpec)

/-- 'laws.FnExactGoodStrips', WHERE WHAT IT READS IS OF BULK AT MOST 1048576: true; the input reads as it did. -/
def fnExactGoodStripsUptoRow : OpenClaim := { program := "ythemmckchmpicabdoor", sum := "a151df956b72d93004978014a21ad50f7071d6ca00388f45cea5dcee0fb255f9", func := "loop.example/g01377/laws.FnExactGoodStrips", spec := "fnExactGoodStrips", inPlace := ["internal/reflectlite.ValueOf", "(internal/reflectlite.Value).Type", "(internal/reflectlite.Value).IsNil", "internal/reflectlite.TypeOf", "(internal/reflectlite.Value).Elem", "(internal/reflectlite.Value).Set"], unfollowed := true, recurses := true, named := ["loop.example/g01377/impl.errLikeParts", "errors.errorType"], ifaces := true, apart := false, laid := [("errors.errorType", laid_errors_errorType), ("loop.example/g01377/impl.errLikeParts", laid_loop_example_g01377_impl_errLikeParts)], narrowed := true }
def FnExactGoodStripsUptoSaid : Prop := fnExactGoodStripsUptoRow.holds Tryd.pinned (OpenSpec.upto fnExactGoodStripsSpec)

/-- 'laws.FnExactLongestStripPlay', WHERE WHAT IT READS IS OF BULK AT MOST 1048576: true; the input reads as it did. -/
def fnExactLongestStripPlayUptoRow : OpenClaim := { program := "ythemmckchmpicabdoor", sum := "a151df956b72d93004978014a21ad50f7071d6ca00388f45cea5dcee0fb255f9", func := "loop.example/g01377/laws.FnExactLongestStripPlay", spec := "fnExactLongestStripPlay", inPlace := ["internal/reflectlite.ValueOf", "(internal/reflectlite.Value).Type", "(internal/reflectlite.Value).IsNil", "internal/reflectlite.TypeOf", "(internal/reflectlite.Value).Elem", "(internal/reflectlite.Value).Set"], unfollowed := true, recurses := true, named := ["loop.example/g01377/impl.errLikeParts", "errors.errorType"], ifaces := true, apart := false, laid := [("errors.errorType", laid_errors_errorType), ("loop.example/g01377/impl.errLikeParts", laid_loop_example_g01377_impl_errLikeParts)], narrowed := true }
def FnExactLongestStripPlayUptoSaid : Prop := fnExactLongestStripPlayUptoRow.holds Tryd.pinned (OpenSpec.upto fnExactLongestStripPlaySpec)

/-- 'laws.FnExactShortestStripPlay', WHERE WHAT IT READS IS OF BULK AT MOST 1048576: true; the input reads as it did. -/
def fnExactShortestStripPlayUptoRow : OpenClaim := { program := "ythemmckchmpicabdoor", sum := "a151df956b72d93004978014a21ad50f7071d6ca00388f45cea5dcee0fb255f9", func := "loop.example/g01377/laws.FnExactShortestStripPlay", spec := "fnExactShortestStripPlay", inPlace := ["internal/reflectlite.ValueOf", "(internal/reflectlite.Value).Type", "(internal/reflectlite.Value).IsNil", "internal/reflectlite.TypeOf", "(internal/reflectlite.Value).Elem", "(internal/reflectlite.Value).Set"], unfollowed := true, recurses := true, named := ["loop.example/g01377/impl.errLikeParts", "errors.errorType"], ifaces := true, apart := false, laid := [("errors.errorType", laid_errors_errorType), ("loop.example/g01377/impl.errLikeParts", laid_loop_example_g01377_impl_errLikeParts)], narrowed := true }
def FnExactShortestStripPlayUptoSaid : Prop := fnExactShortestStripPlayUptoRow.holds Tryd.pinned (OpenSpec.upto fnExactShortestStripPlaySpec)

/-- 'laws.FnExactBreakStrip', WHERE WHAT IT READS IS OF BULK AT MOST 1048576: true; the input reads as it did. -/
def fnExactBreakStripUptoRow : OpenClaim := { program := "ythemmckchmpicabdoor", sum := "a151df956b72d93004978014a21ad50f7071d6ca00388f45cea5dcee0fb255f9", func := "loop.example/g01377/laws.FnExactBreakStrip", spec := "fnExactBreakStrip", unfollowed := true, recurses := true, named := ["loop.example/g01377/impl.errNoRoom", "loop.example/g01377/impl.errNoStrip", "loop.example/g01377/impl.errLikeParts"], ifaces := true, apart := false, laid := [("loop.example/g01377/impl.errLikeParts", laid_loop_example_g01377_impl_errLikeParts), ("loop.example/g01377/impl.errNoStrip", laid_loop_example_g01377_impl_errNoStrip), ("loop.example/g01377/impl.errNoRoom", laid_loop_example_g01377_impl_errNoRoom)], narrowed := true }
def FnExactBreakStripUptoSaid : Prop := fnExactBreakStripUptoRow.holds Tryd.pinned (OpenSpec.upto fnExactBreakStripSpec)

end Rows
end Go.Proofs.YthemmckchmpicabDoor
