/-
  NARROWER THAN 'FOR EVERY INPUT', by the rows' own cells (each row's printed sentence says how): FnExactStripValue: ifaces, laid · FnExactStripMoves: ifaces, laid · FnExactLostStrips: ifaces, laid.
  DERIVED. THE GIVEN ROWS OF THIS SEAT. 3 by the template 'for every input the law returns true; each argument reads behind the call as it read before'; 0 by the template 'total and deterministic' (their statements: YthemmckchmpicaaDoorTotals.lean).
  GIVEN WITH THE SEED: the statements are not yours to turn. If you find one false, say at which input.
  Laid BY PROGRAM, IN A SANDBOX (cutbox-rows.mjs): the forced cells as the released guide's own fill.sh prints them over the translation 5572cc504e9b89e2… (all of the seat's roots in one cut). By AI agents, Wed Nov 11 2026. No macro, syntax, notation, axiom, sorry.
-/
import Derived.Test.YthemmckchmpicaaDoorChecked
import GoSem.Claim
import GoSem.ClaimJoined
import GoSem.ClaimMapViews
import Derived.JoinedTies
import Derived.KernelRfl
namespace Go.Proofs.YthemmckchmpicaaDoor
/- THE CELL 'sum', in the pinned program and in every row, IS THE sha256 OF THE DUMP (.gsa) THAT YthemmckchmpicaaDoorProg.lean LOADS. Nothing in Lean hashes anything: it is a label: what it is worth is what the hold of that sum in a sandbox is worth. -/
noncomputable def Tryd.pinned : Pinned := { name := "ythemmckchmpicaadoor", sum := "5572cc504e9b89e214a797c8fc3d00a7732056e1681360b24edaea6d85ce77de", checked := Tryd.checked }
namespace Rows
def none {H : Type} : Left H := { results := [], args := [] }

/- WHAT THE LISTED PACKAGE-LEVEL VARIABLES READ AS WHEN THE CALL BEGINS. Each datum BY PROGRAM (the guide's laid-datum.mjs) off the statement by which the dump's own 'gosem.cut.vars' lays the variable. In a bare row this is a premise. The card (YthemmckchmpicaaDoorCards.lean) ties it to the program's text. -/
def laid_errors_errorType {H : Type} : DataW H := .iface "internal/reflectlite.rtype" (.agg [.ptr (.lit (.string [101, 114, 114, 111, 114]))])
def laid_loop_example_g01377_impl_errLikeParts {H : Type} : DataW H := .iface "*errors.errorString" (.ptr (.agg [.lit (.string [98, 111, 116, 104, 32, 112, 97, 114, 116, 115, 32, 97, 114, 101, 32, 111, 102, 32, 116, 104, 101, 32, 115, 97, 109, 101, 32, 108, 101, 110, 103, 116, 104])]))

/-- 'laws.FnExactStripValue': WHATEVER THE INPUT: true; the input reads as it did. -/
def fnExactStripValueSpec : ChangeSpec := { name := "fnExactStripValue", vars := ["loop.example/g01377/impl.errLikeParts"], fn := fun _ => fun
  | [d1, d2, d3, g1] => { results := [.lit (.bool true)], args := [d1, d2, d3], vars := [g1] }
  | _ => none }
def fnExactStripValueRow : OpenClaim := { program := "ythemmckchmpicaadoor", sum := "5572cc504e9b89e214a797c8fc3d00a7732056e1681360b24edaea6d85ce77de", func := "loop.example/g01377/laws.FnExactStripValue", spec := "fnExactStripValue", inPlace := ["internal/reflectlite.ValueOf", "(internal/reflectlite.Value).Type", "(internal/reflectlite.Value).IsNil", "internal/reflectlite.TypeOf", "(internal/reflectlite.Value).Elem", "(internal/reflectlite.Value).Set"], unfollowed := true, recurses := true, named := ["loop.example/g01377/impl.errLikeParts", "errors.errorType"], ifaces := true, apart := false, laid := [("errors.errorType", laid_errors_errorType), ("loop.example/g01377/impl.errLikeParts", laid_loop_example_g01377_impl_errLikeParts)] }
def FnExactStripValueSaid : Prop := fnExactStripValueRow.holds Tryd.pinned (OpenSpec.ofChange fnExactStripValueSpec)

/-- ITS FALSE NEIGHBOUR: 'it returns false'. Refute it at one input. -/
def fnExactStripValueWrong : ChangeSpec := { name := "fnExactStripValue", vars := ["loop.example/g01377/impl.errLikeParts"], fn := fun _ => fun
  | [d1, d2, d3, g1] => { results := [.lit (.bool false)], args := [d1, d2, d3], vars := [g1] }
  | _ => none }
def FnExactStripValueWrongFalsely : Prop := fnExactStripValueRow.holds Tryd.pinned (OpenSpec.ofChange fnExactStripValueWrong)

/-- 'laws.FnExactStripMoves': WHATEVER THE INPUT: true; the input reads as it did. -/
def fnExactStripMovesSpec : ChangeSpec := { name := "fnExactStripMoves", vars := ["loop.example/g01377/impl.errLikeParts"], fn := fun _ => fun
  | [d1, d2, d3, g1] => { results := [.lit (.bool true)], args := [d1, d2, d3], vars := [g1] }
  | _ => none }
def fnExactStripMovesRow : OpenClaim := { program := "ythemmckchmpicaadoor", sum := "5572cc504e9b89e214a797c8fc3d00a7732056e1681360b24edaea6d85ce77de", func := "loop.example/g01377/laws.FnExactStripMoves", spec := "fnExactStripMoves", inPlace := ["internal/reflectlite.ValueOf", "(internal/reflectlite.Value).Type", "(internal/reflectlite.Value).IsNil", "internal/reflectlite.TypeOf", "(internal/reflectlite.Value).Elem", "(internal/reflectlite.Value).Set"], unfollowed := true, recurses := true, named := ["loop.example/g01377/impl.errLikeParts", "errors.errorType"], ifaces := true, apart := false, laid := [("errors.errorType", laid_errors_errorType), ("loop.example/g01377/impl.errLikeParts", laid_loop_example_g01377_impl_errLikeParts)] }
def FnExactStripMovesSaid : Prop := fnExactStripMovesRow.holds Tryd.pinned (OpenSpec.ofChange fnExactStripMovesSpec)

/-- ITS FALSE NEIGHBOUR: 'it returns false'. Refute it at one input. -/
def fnExactStripMovesWrong : ChangeSpec := { name := "fnExactStripMoves", vars := ["loop.example/g01377/impl.errLikeParts"], fn := fun _ => fun
  | [d1, d2, d3, g1] => { results := [.lit (.bool false)], args := [d1, d2, d3], vars := [g1] }
  | _ => none }
def FnExactStripMovesWrongFalsely : Prop := fnExactStripMovesRow.holds Tryd.pinned (OpenSpec.ofChange fnExactStripMovesWrong)

/-- 'laws.FnExactLostStrips': WHATEVER THE INPUT: true; the input reads as it did. -/
def fnExactLostStripsSpec : ChangeSpec := { name := "fnExactLostStrips", vars := ["loop.example/g01377/impl.errLikeParts"], fn := fun _ => fun
  | [d1, d2, d3, g1] => { results := [.lit (.bool true)], args := [d1, d2, d3], vars := [g1] }
  | _ => none }
def fnExactLostStripsRow : OpenClaim := { program := "ythemmckchmpicaadoor", sum := "5572cc504e9b89e214a797c8fc3d00a7732056e1681360b24edaea6d85ce77de", func := "loop.example/g01377/laws.FnExactLostStrips", spec := "fnExactLostStrips", inPlace := ["internal/reflectlite.ValueOf", "(internal/reflectlite.Value).Type", "(internal/reflectlite.Value).IsNil", "internal/reflectlite.TypeOf", "(internal/reflectlite.Value).Elem", "(internal/reflectlite.Value).Set"], unfollowed := true, recurses := true, named := ["loop.example/g01377/impl.errLikeParts", "errors.errorType"], ifaces := true, apart := false, laid := [("errors.errorType", laid_errors_errorType), ("loop.example/g01377/impl.errLikeParts", laid_loop_example_g01377_impl_errLikeParts)] }
def FnExactLostStripsSaid : Prop := fnExactLostStripsRow.holds Tryd.pinned (OpenSpec.ofChange fnExactLostStripsSpec)

/-- ITS FALSE NEIGHBOUR: 'it returns false'. Refute it at one input. -/
def fnExactLostStripsWrong : ChangeSpec := { name := "fnExactLostStrips", vars := ["loop.example/g01377/impl.errLikeParts"], fn := fun _ => fun
  | [d1, d2, d3, g1] => { results := [.lit (.bool false)], args := [d1, d2, d3], vars := [g1] }
  | _ => none }
def FnExactLostStripsWrongFalsely : Prop := fnExactLostStripsRow.holds Tryd.pinned (OpenSpec.ofChange fnExactLostStripsWrong)

/- THE SECOND FORM. 'bulk': how many values and letters a reading holds, each counted each time it is reached (what is shared counts as often as it is met; a slice's spare places count too). A statement '..UptoSaid' is the law's where the arguments, and the package variables that the reading takes, are together of bulk at most 1048576: NARROWER than '..Said'. Prove '..Said' where nothing that the law and all that it calls make is longer than what came in: it says more and counts as full. Else prove '..UptoSaid'. A law counts once. -/
mutual
def uptoBulk {H : Type} : DataW H → Nat
  | .lit (.string bytes) => bytes.length + 1
  | .lit _ => 1
  | .nil => 1
  | .ptr d => uptoBulk d + 1
  | .slice elems spare => uptoBulkAll elems + uptoBulkAll spare + 1
  | .agg parts => uptoBulkAll parts + 1
  | .iface _ d => uptoBulk d + 1
  | .map entries => uptoBulkEntries entries + 1
  | .held _ => 1
def uptoBulkAll {H : Type} : List (DataW H) → Nat
  | [] => 0
  | d :: r => uptoBulk d + uptoBulkAll r
def uptoBulkEntries {H : Type} : List (Lit × DataW H) → Nat
  | [] => 0
  | x :: r => uptoBulkEntry x + uptoBulkEntries r
def uptoBulkEntry {H : Type} : Lit × DataW H → Nat
  | (.string bytes, d) => bytes.length + uptoBulk d + 1
  | (_, d) => uptoBulk d + 1
 end
def uptoSmall : (H : Type) → List (DataW H) → Bool := fun _ ds => decide (uptoBulkAll ds ≤ 1048576)
def OpenSpec.upto (s : _root_.Go.ChangeSpec) : _root_.Go.OpenSpec := { _root_.Go.OpenSpec.ofChange s with cond := some uptoSmall }

/-- 'laws.FnExactStripValue', WHERE WHAT IT READS IS OF BULK AT MOST 1048576: true; the input reads as it did. -/
def fnExactStripValueUptoRow : OpenClaim := { program := "ythemmckchmpicaadoor", sum := "5572cc504e9b89e214a797c8fc3d00a7732056e1681360b24edaea6d85ce77de", func := "loop.example/g01377/laws.FnExactStripValue", spec := "fnExactStripValue", inPlace := ["internal/reflectlite.ValueOf", "(internal/reflectlite.Value).Type", "(internal/reflectlite.Value).IsNil", "internal/reflectlite.TypeOf", "(internal/reflectlite.Value).Elem", "(internal/reflectlite.Value).Set"], unfollowed := true, recurses := true, named := ["loop.example/g01377/impl.errLikeParts", "errors.errorType"], ifaces := true, apart := false, laid := [("errors.errorType", laid_errors_errorType), ("loop.example/g01377/impl.errLikeParts", laid_loop_example_g01377_impl_errLikeParts)], narrowed := true }
def FnExactStripValueUptoSaid : Prop := fnExactStripValueUptoRow.holds Tryd.pinned (OpenSpec.upto fnExactStripValueSpec)

/-- 'laws.FnExactStripMoves', WHERE WHAT IT READS IS OF BULK AT MOST 1048576: true; the input reads as it did. -/
def fnExactStripMovesUptoRow : OpenClaim := { program := "ythemmckchmpicaadoor", sum := "5572cc504e9b89e214a797c8fc3d00a7732056e1681360b24edaea6d85ce77de", func := "loop.example/g01377/laws.FnExactStripMoves", spec := "fnExactStripMoves", inPlace := ["internal/reflectlite.ValueOf", "(internal/reflectlite.Value).Type", "(internal/reflectlite.Value).IsNil", "internal/reflectlite.TypeOf", "(internal/reflectlite.Value).Elem", "(internal/reflectlite.Value).Set"], unfollowed := true, recurses := true, named := ["loop.example/g01377/impl.errLikeParts", "errors.errorType"], ifaces := true, apart := false, laid := [("errors.errorType", laid_errors_errorType), ("loop.example/g01377/impl.errLikeParts", laid_loop_example_g01377_impl_errLikeParts)], narrowed := true }
def FnExactStripMovesUptoSaid : Prop := fnExactStripMovesUptoRow.holds Tryd.pinned (OpenSpec.upto fnExactStripMovesSpec)

/-- 'laws.FnExactLostStrips', WHERE WHAT IT READS IS OF BULK AT MOST 1048576: true; the input reads as it did. -/
def fnExactLostStripsUptoRow : OpenClaim := { program := "ythemmckchmpicaadoor", sum := "5572cc504e9b89e214a797c8fc3d00a7732056e1681360b24edaea6d85ce77de", func := "loop.example/g01377/laws.FnExactLostStrips", spec := "fnExactLostStrips", inPlace := ["internal/reflectlite.ValueOf", "(internal/reflectlite.Value).Type", "(internal/reflectlite.Value).IsNil", "internal/reflectlite.TypeOf", "(internal/reflectlite.Value).Elem", "(internal/reflectlite.Value).Set"], unfollowed := true, recurses := true, named := ["loop.example/g01377/impl.errLikeParts", "errors.errorType"], ifaces := true, apart := false, laid := [("errors.errorType", laid_errors_errorType), ("loop.example/g01377/impl.errLikeParts", laid_loop_example_g01377_impl_errLikeParts)], narrowed := true }
def FnExactLostStripsUptoSaid : Prop := fnExactLostStripsUptoRow.holds Tryd.pinned (OpenSpec.upto fnExactLostStripsSpec)

end Rows
end Go.Proofs.YthemmckchmpicaaDoor
