/-
  NARROWER THAN 'FOR EVERY INPUT', by the rows' own cells (each row's printed sentence says how): FnExactMostPiecesWhile: calm, laid · FnExactSunHour: laid · FnExactHoursBySun: laid · FnExactBiteSquare: laid · FnExactCoolestBite: calm, laid · FnExactTurnTablet: laid · FnExactTabletText: laid · FnExactParseTablet: laid.
  DERIVED. THE GIVEN ROWS OF THIS SEAT. 8 by the template 'for every input the law returns true; each argument reads behind the call as it read before'; 0 by the template 'total and deterministic' (their statements: YtieiakljholkaabDoorTotals.lean).
  GIVEN WITH THE SEED: the statements are not yours to turn. If you find one false, say at which input.
  Laid BY PROGRAM, IN A SANDBOX (cutbox-rows.mjs): the forced cells as the released guide's own fill.sh prints them over the translation 9655ed4d140ccf4d… (all of the seat's roots in one cut). By AI agents, Wed Nov 11 2026. No macro, syntax, notation, axiom, sorry.
-/
import Derived.Test.YtieiakljholkaabDoorChecked
import GoSem.PinnedTables
import GoSem.Claim
import GoSem.ClaimJoined
import GoSem.ClaimMapViews
import Derived.JoinedTies
import Derived.KernelRfl
namespace Go.Proofs.YtieiakljholkaabDoor
/- THE CELL 'sum', in the pinned program and in every row, IS THE sha256 OF THE DUMP (.gsa) THAT YtieiakljholkaabDoorProg.lean LOADS. Nothing in Lean hashes anything: it is a label: what it is worth is what the hold of that sum in a sandbox is worth. -/
noncomputable def Tryd.pinned : Pinned := { name := "ytieiakljholkaabdoor", sum := "9655ed4d140ccf4db385fb8fa6f4e1756d3a09a80d58c51e74d67705411b7641", checked := Tryd.checked }
namespace Rows
def none {H : Type} : Left H := { results := [], args := [] }

/- WHAT THE LISTED PACKAGE-LEVEL VARIABLES READ AS WHEN THE CALL BEGINS. Each datum BY PROGRAM (the guide's laid-datum.mjs) off the statement by which the dump's own 'gosem.cut.vars' lays the variable. In a bare row this is a premise. The card (YtieiakljholkaabDoorCards.lean) ties it to the program's text. -/
def laid_unicode_utf8_acceptRanges {H : Type} : DataW H := .agg [.agg [.lit (.int .u8 128), .lit (.int .u8 191)], .agg [.lit (.int .u8 160), .lit (.int .u8 191)], .agg [.lit (.int .u8 128), .lit (.int .u8 159)], .agg [.lit (.int .u8 144), .lit (.int .u8 191)], .agg [.lit (.int .u8 128), .lit (.int .u8 143)], .agg [.lit (.int .u8 0), .lit (.int .u8 0)], .agg [.lit (.int .u8 0), .lit (.int .u8 0)], .agg [.lit (.int .u8 0), .lit (.int .u8 0)], .agg [.lit (.int .u8 0), .lit (.int .u8 0)], .agg [.lit (.int .u8 0), .lit (.int .u8 0)], .agg [.lit (.int .u8 0), .lit (.int .u8 0)], .agg [.lit (.int .u8 0), .lit (.int .u8 0)], .agg [.lit (.int .u8 0), .lit (.int .u8 0)], .agg [.lit (.int .u8 0), .lit (.int .u8 0)], .agg [.lit (.int .u8 0), .lit (.int .u8 0)], .agg [.lit (.int .u8 0), .lit (.int .u8 0)]]
/-- One of Go's own tables, pinned by name: the form's constant. -/
def laid_unicode_utf8_first : DataW Unit := Go.Pinned.utf8First

/-- 'laws.FnExactMostPiecesWhile': WHATEVER THE INPUT: true; the input reads as it did. -/
def fnExactMostPiecesWhileSpec : ChangeSpec := { name := "fnExactMostPiecesWhile", fn := fun _ => fun
  | [d1, d2] => { results := [.lit (.bool true)], args := [d1, d2] }
  | _ => none }
def fnExactMostPiecesWhileRow : OpenClaim := { program := "ytieiakljholkaabdoor", sum := "9655ed4d140ccf4db385fb8fa6f4e1756d3a09a80d58c51e74d67705411b7641", func := "loop.example/g01377/laws.FnExactMostPiecesWhile", spec := "fnExactMostPiecesWhile", inPlace := ["internal/bytealg.IndexByteString", "internal/bytealg.IndexString", "(*internal/sync.Mutex).Lock", "internal/race.Disable", "sync/atomic.CompareAndSwapInt32", "internal/race.Enable", "internal/race.Acquire", "(*internal/sync.Mutex).lockSlow", "internal/sync.runtime_canSpin", "internal/sync.runtime_doSpin", "internal/sync.throw", "internal/sync.runtime_nanotime", "internal/sync.runtime_SemacquireMutex", "sync/atomic.AddInt32", "(*internal/sync.Mutex).Unlock", "internal/race.ReleaseMerge", "(*internal/sync.Mutex).unlockSlow", "internal/sync.fatal", "internal/sync.runtime_Semrelease", "(*sync.WaitGroup).Go", "(*sync.WaitGroup).Add", "internal/synctest.IsInBubble", "internal/synctest.Associate[sync.WaitGroup]", "sync.fatal", "sync/atomic.OrUint64", "sync/atomic.AddUint64", "internal/race.Read", "sync/atomic.LoadUint64", "sync/atomic.StoreUint64", "internal/synctest.Disassociate[sync.WaitGroup]", "sync.runtime_Semrelease", "(*sync.WaitGroup).Go$1", "(*sync.WaitGroup).Go$1$1", "(*sync.WaitGroup).Done", "(*sync.WaitGroup).Wait", "internal/synctest.IsAssociated[sync.WaitGroup]", "sync/atomic.CompareAndSwapUint64", "internal/race.Write", "sync.runtime_SemacquireWaitGroup"], unfollowed := true, recurses := true, named := ["unicode/utf8.first", "unicode/utf8.acceptRanges", "internal/bytealg.MaxLen"], plainKeys := false, leaving := true, apart := false, calm := true, outside := [.timePasses], laid := [("unicode/utf8.acceptRanges", laid_unicode_utf8_acceptRanges), ("unicode/utf8.first", laid_unicode_utf8_first)] }
def FnExactMostPiecesWhileSaid : Prop := fnExactMostPiecesWhileRow.holds Tryd.pinned (OpenSpec.ofChange fnExactMostPiecesWhileSpec)

/-- ITS FALSE NEIGHBOUR: 'it returns false'. Refute it at one input. -/
def fnExactMostPiecesWhileWrong : ChangeSpec := { name := "fnExactMostPiecesWhile", fn := fun _ => fun
  | [d1, d2] => { results := [.lit (.bool false)], args := [d1, d2] }
  | _ => none }
def FnExactMostPiecesWhileWrongFalsely : Prop := fnExactMostPiecesWhileRow.holds Tryd.pinned (OpenSpec.ofChange fnExactMostPiecesWhileWrong)

/-- 'laws.FnExactSunHour': WHATEVER THE INPUT: true; the input reads as it did. -/
def fnExactSunHourSpec : ChangeSpec := { name := "fnExactSunHour", fn := fun _ => fun
  | [d1, d2] => { results := [.lit (.bool true)], args := [d1, d2] }
  | _ => none }
def fnExactSunHourRow : OpenClaim := { program := "ytieiakljholkaabdoor", sum := "9655ed4d140ccf4db385fb8fa6f4e1756d3a09a80d58c51e74d67705411b7641", func := "loop.example/g01377/laws.FnExactSunHour", spec := "fnExactSunHour", inPlace := ["internal/bytealg.IndexByteString", "internal/bytealg.IndexString", "internal/bytealg.CountString", "internal/abi.NoEscape", "internal/bytealg.MakeNoZero"], named := ["unicode/utf8.first", "unicode/utf8.acceptRanges", "internal/bytealg.MaxLen"], plainKeys := false, apart := false, laid := [("unicode/utf8.acceptRanges", laid_unicode_utf8_acceptRanges), ("unicode/utf8.first", laid_unicode_utf8_first)] }
def FnExactSunHourSaid : Prop := fnExactSunHourRow.holds Tryd.pinned (OpenSpec.ofChange fnExactSunHourSpec)

/-- ITS FALSE NEIGHBOUR: 'it returns false'. Refute it at one input. -/
def fnExactSunHourWrong : ChangeSpec := { name := "fnExactSunHour", fn := fun _ => fun
  | [d1, d2] => { results := [.lit (.bool false)], args := [d1, d2] }
  | _ => none }
def FnExactSunHourWrongFalsely : Prop := fnExactSunHourRow.holds Tryd.pinned (OpenSpec.ofChange fnExactSunHourWrong)

/-- 'laws.FnExactHoursBySun': WHATEVER THE INPUT: true; the input reads as it did. -/
def fnExactHoursBySunSpec : ChangeSpec := { name := "fnExactHoursBySun", fn := fun _ => fun
  | [d1, d2] => { results := [.lit (.bool true)], args := [d1, d2] }
  | _ => none }
def fnExactHoursBySunRow : OpenClaim := { program := "ytieiakljholkaabdoor", sum := "9655ed4d140ccf4db385fb8fa6f4e1756d3a09a80d58c51e74d67705411b7641", func := "loop.example/g01377/laws.FnExactHoursBySun", spec := "fnExactHoursBySun", inPlace := ["internal/bytealg.IndexByteString", "internal/bytealg.IndexString", "internal/bytealg.CountString"], named := ["unicode/utf8.first", "unicode/utf8.acceptRanges", "internal/bytealg.MaxLen"], plainKeys := false, apart := false, laid := [("unicode/utf8.acceptRanges", laid_unicode_utf8_acceptRanges), ("unicode/utf8.first", laid_unicode_utf8_first)] }
def FnExactHoursBySunSaid : Prop := fnExactHoursBySunRow.holds Tryd.pinned (OpenSpec.ofChange fnExactHoursBySunSpec)

/-- ITS FALSE NEIGHBOUR: 'it returns false'. Refute it at one input. -/
def fnExactHoursBySunWrong : ChangeSpec := { name := "fnExactHoursBySun", fn := fun _ => fun
  | [d1, d2] => { results := [.lit (.bool false)], args := [d1, d2] }
  | _ => none }
def FnExactHoursBySunWrongFalsely : Prop := fnExactHoursBySunRow.holds Tryd.pinned (OpenSpec.ofChange fnExactHoursBySunWrong)

/-- 'laws.FnExactBiteSquare': WHATEVER THE INPUT: true; the input reads as it did. -/
def fnExactBiteSquareSpec : ChangeSpec := { name := "fnExactBiteSquare", fn := fun _ => fun
  | [d1, d2, d3] => { results := [.lit (.bool true)], args := [d1, d2, d3] }
  | _ => none }
def fnExactBiteSquareRow : OpenClaim := { program := "ytieiakljholkaabdoor", sum := "9655ed4d140ccf4db385fb8fa6f4e1756d3a09a80d58c51e74d67705411b7641", func := "loop.example/g01377/laws.FnExactBiteSquare", spec := "fnExactBiteSquare", inPlace := ["internal/bytealg.IndexByteString", "internal/bytealg.IndexString"], named := ["unicode/utf8.first", "unicode/utf8.acceptRanges", "internal/bytealg.MaxLen"], plainKeys := false, apart := false, laid := [("unicode/utf8.acceptRanges", laid_unicode_utf8_acceptRanges), ("unicode/utf8.first", laid_unicode_utf8_first)] }
def FnExactBiteSquareSaid : Prop := fnExactBiteSquareRow.holds Tryd.pinned (OpenSpec.ofChange fnExactBiteSquareSpec)

/-- ITS FALSE NEIGHBOUR: 'it returns false'. Refute it at one input. -/
def fnExactBiteSquareWrong : ChangeSpec := { name := "fnExactBiteSquare", fn := fun _ => fun
  | [d1, d2, d3] => { results := [.lit (.bool false)], args := [d1, d2, d3] }
  | _ => none }
def FnExactBiteSquareWrongFalsely : Prop := fnExactBiteSquareRow.holds Tryd.pinned (OpenSpec.ofChange fnExactBiteSquareWrong)

/-- 'laws.FnExactCoolestBite': WHATEVER THE INPUT: true; the input reads as it did. -/
def fnExactCoolestBiteSpec : ChangeSpec := { name := "fnExactCoolestBite", fn := fun _ => fun
  | [d1, d2] => { results := [.lit (.bool true)], args := [d1, d2] }
  | _ => none }
def fnExactCoolestBiteRow : OpenClaim := { program := "ytieiakljholkaabdoor", sum := "9655ed4d140ccf4db385fb8fa6f4e1756d3a09a80d58c51e74d67705411b7641", func := "loop.example/g01377/laws.FnExactCoolestBite", spec := "fnExactCoolestBite", inPlace := ["internal/bytealg.IndexByteString", "internal/bytealg.IndexString", "(*internal/sync.Mutex).Lock", "internal/race.Disable", "sync/atomic.CompareAndSwapInt32", "internal/race.Enable", "internal/race.Acquire", "(*internal/sync.Mutex).lockSlow", "internal/sync.runtime_canSpin", "internal/sync.runtime_doSpin", "internal/sync.throw", "internal/sync.runtime_nanotime", "internal/sync.runtime_SemacquireMutex", "sync/atomic.AddInt32", "(*internal/sync.Mutex).Unlock", "internal/race.ReleaseMerge", "(*internal/sync.Mutex).unlockSlow", "internal/sync.fatal", "internal/sync.runtime_Semrelease", "(*sync.WaitGroup).Go", "(*sync.WaitGroup).Add", "internal/synctest.IsInBubble", "internal/synctest.Associate[sync.WaitGroup]", "sync.fatal", "sync/atomic.OrUint64", "sync/atomic.AddUint64", "internal/race.Read", "sync/atomic.LoadUint64", "sync/atomic.StoreUint64", "internal/synctest.Disassociate[sync.WaitGroup]", "sync.runtime_Semrelease", "(*sync.WaitGroup).Go$1", "(*sync.WaitGroup).Go$1$1", "(*sync.WaitGroup).Done", "(*sync.WaitGroup).Wait", "internal/synctest.IsAssociated[sync.WaitGroup]", "sync/atomic.CompareAndSwapUint64", "internal/race.Write", "sync.runtime_SemacquireWaitGroup"], unfollowed := true, recurses := true, named := ["unicode/utf8.first", "unicode/utf8.acceptRanges", "internal/bytealg.MaxLen"], plainKeys := false, leaving := true, apart := false, calm := true, outside := [.timePasses], laid := [("unicode/utf8.acceptRanges", laid_unicode_utf8_acceptRanges), ("unicode/utf8.first", laid_unicode_utf8_first)] }
def FnExactCoolestBiteSaid : Prop := fnExactCoolestBiteRow.holds Tryd.pinned (OpenSpec.ofChange fnExactCoolestBiteSpec)

/-- ITS FALSE NEIGHBOUR: 'it returns false'. Refute it at one input. -/
def fnExactCoolestBiteWrong : ChangeSpec := { name := "fnExactCoolestBite", fn := fun _ => fun
  | [d1, d2] => { results := [.lit (.bool false)], args := [d1, d2] }
  | _ => none }
def FnExactCoolestBiteWrongFalsely : Prop := fnExactCoolestBiteRow.holds Tryd.pinned (OpenSpec.ofChange fnExactCoolestBiteWrong)

/-- 'laws.FnExactTurnTablet': WHATEVER THE INPUT: true; the input reads as it did. -/
def fnExactTurnTabletSpec : ChangeSpec := { name := "fnExactTurnTablet", fn := fun _ => fun
  | [d] => { results := [.lit (.bool true)], args := [d] }
  | _ => none }
def fnExactTurnTabletRow : OpenClaim := { program := "ytieiakljholkaabdoor", sum := "9655ed4d140ccf4db385fb8fa6f4e1756d3a09a80d58c51e74d67705411b7641", func := "loop.example/g01377/laws.FnExactTurnTablet", spec := "fnExactTurnTablet", inPlace := ["internal/bytealg.IndexByteString", "internal/bytealg.IndexString"], named := ["unicode/utf8.first", "unicode/utf8.acceptRanges", "internal/bytealg.MaxLen"], plainKeys := false, apart := false, laid := [("unicode/utf8.acceptRanges", laid_unicode_utf8_acceptRanges), ("unicode/utf8.first", laid_unicode_utf8_first)] }
def FnExactTurnTabletSaid : Prop := fnExactTurnTabletRow.holds Tryd.pinned (OpenSpec.ofChange fnExactTurnTabletSpec)

/-- ITS FALSE NEIGHBOUR: 'it returns false'. Refute it at one input. -/
def fnExactTurnTabletWrong : ChangeSpec := { name := "fnExactTurnTablet", fn := fun _ => fun
  | [d] => { results := [.lit (.bool false)], args := [d] }
  | _ => none }
def FnExactTurnTabletWrongFalsely : Prop := fnExactTurnTabletRow.holds Tryd.pinned (OpenSpec.ofChange fnExactTurnTabletWrong)

/-- 'laws.FnExactTabletText': WHATEVER THE INPUT: true; the input reads as it did. -/
def fnExactTabletTextSpec : ChangeSpec := { name := "fnExactTabletText", fn := fun _ => fun
  | [d] => { results := [.lit (.bool true)], args := [d] }
  | _ => none }
def fnExactTabletTextRow : OpenClaim := { program := "ytieiakljholkaabdoor", sum := "9655ed4d140ccf4db385fb8fa6f4e1756d3a09a80d58c51e74d67705411b7641", func := "loop.example/g01377/laws.FnExactTabletText", spec := "fnExactTabletText", inPlace := ["internal/bytealg.IndexByteString", "internal/bytealg.IndexString", "internal/abi.NoEscape", "internal/bytealg.MakeNoZero"], named := ["unicode/utf8.first", "unicode/utf8.acceptRanges", "internal/bytealg.MaxLen"], plainKeys := false, apart := false, laid := [("unicode/utf8.acceptRanges", laid_unicode_utf8_acceptRanges), ("unicode/utf8.first", laid_unicode_utf8_first)] }
def FnExactTabletTextSaid : Prop := fnExactTabletTextRow.holds Tryd.pinned (OpenSpec.ofChange fnExactTabletTextSpec)

/-- ITS FALSE NEIGHBOUR: 'it returns false'. Refute it at one input. -/
def fnExactTabletTextWrong : ChangeSpec := { name := "fnExactTabletText", fn := fun _ => fun
  | [d] => { results := [.lit (.bool false)], args := [d] }
  | _ => none }
def FnExactTabletTextWrongFalsely : Prop := fnExactTabletTextRow.holds Tryd.pinned (OpenSpec.ofChange fnExactTabletTextWrong)

/-- 'laws.FnExactParseTablet': WHATEVER THE INPUT: true; the input reads as it did. -/
def fnExactParseTabletSpec : ChangeSpec := { name := "fnExactParseTablet", fn := fun _ => fun
  | [d] => { results := [.lit (.bool true)], args := [d] }
  | _ => none }
def fnExactParseTabletRow : OpenClaim := { program := "ytieiakljholkaabdoor", sum := "9655ed4d140ccf4db385fb8fa6f4e1756d3a09a80d58c51e74d67705411b7641", func := "loop.example/g01377/laws.FnExactParseTablet", spec := "fnExactParseTablet", inPlace := ["internal/bytealg.CountString", "internal/bytealg.IndexByteString", "internal/bytealg.IndexString"], named := ["unicode/utf8.first", "unicode/utf8.acceptRanges", "internal/bytealg.MaxLen"], plainKeys := false, apart := false, laid := [("unicode/utf8.acceptRanges", laid_unicode_utf8_acceptRanges), ("unicode/utf8.first", laid_unicode_utf8_first)] }
def FnExactParseTabletSaid : Prop := fnExactParseTabletRow.holds Tryd.pinned (OpenSpec.ofChange fnExactParseTabletSpec)

/-- ITS FALSE NEIGHBOUR: 'it returns false'. Refute it at one input. -/
def fnExactParseTabletWrong : ChangeSpec := { name := "fnExactParseTablet", fn := fun _ => fun
  | [d] => { results := [.lit (.bool false)], args := [d] }
  | _ => none }
def FnExactParseTabletWrongFalsely : Prop := fnExactParseTabletRow.holds Tryd.pinned (OpenSpec.ofChange fnExactParseTabletWrong)

/- THE SECOND FORM. 'bulk': how many values and letters a reading holds, each counted each time it is reached (what is shared counts as often as it is met; a slice's spare places count too). A statement '..UptoSaid' is the law's where the arguments, and the package variables that the reading takes, are together of bulk at most 1048576: NARROWER than '..Said'. Prove '..Said' where nothing that the law and all that it calls make is longer than what came in: it says more and counts as full. Else prove '..UptoSaid'. A law counts once. -/
mutual
def uptoBulk {H : Type} : DataW H → Nat
  | .lit (.string bytes) => bytes.length + 1
  | .lit _ => 1
  | .nil => 1
  | .ptr d => uptoBulk d + 1
  | .slice elems spare => uptoBulkAll elems + uptoBulkAll spare + 1
  | .agg parts => uptoBulkAll parts + 1
  | .iface _ d => uptoBulk d + 1
  | .map entries => uptoBulkEntries entries + 1
  | .held _ => 1
def uptoBulkAll {H : Type} : List (DataW H) → Nat
  | [] => 0
  | d :: r => uptoBulk d + uptoBulkAll r
def uptoBulkEntries {H : Type} : List (Lit × DataW H) → Nat
  | [] => 0
  | x :: r => uptoBulkEntry x + uptoBulkEntries r
def uptoBulkEntry {H : Type} : Lit × DataW H → Nat
  | (.string bytes, d) => bytes.length + uptoBulk d + 1
  | (_, d) => uptoBulk d + 1
 end
def uptoSmall : (H : Type) → List (DataW H) → Bool := fun _ ds => decide (uptoBulkAll ds ≤ 1048576)
def OpenSpec.upto (s : _root_.Go.ChangeSpec) : _root_.Go.OpenSpec := { _root_.Go.OpenSpec.ofChange s with cond := some uptoSmall }

/-- 'laws.FnExactSunHour', WHERE WHAT IT READS IS OF BULK AT MOST 1048576: true; the input reads as it did. -/
def fnExactSunHourUptoRow : OpenClaim := { program := "ytieiakljholkaabdoor", sum := "9655ed4d140ccf4db385fb8fa6f4e1756d3a09a80d58c51e74d67705411b7641", func := "loop.example/g01377/laws.FnExactSunHour", spec := "fnExactSunHour", inPlace := ["internal/bytealg.IndexByteString", "internal/bytealg.IndexString", "internal/bytealg.CountString", "internal/abi.NoEscape", "internal/bytealg.MakeNoZero"], named := ["unicode/utf8.first", "unicode/utf8.acceptRanges", "internal/bytealg.MaxLen"], plainKeys := false, apart := false, laid := [("unicode/utf8.acceptRanges", laid_unicode_utf8_acceptRanges), ("unicode/utf8.first", laid_unicode_utf8_first)], narrowed := true }
def FnExactSunHourUptoSaid : Prop := fnExactSunHourUptoRow.holds Tryd.pinned (OpenSpec.upto fnExactSunHourSpec)

/-- 'laws.FnExactHoursBySun', WHERE WHAT IT READS IS OF BULK AT MOST 1048576: true; the input reads as it did. -/
def fnExactHoursBySunUptoRow : OpenClaim := { program := "ytieiakljholkaabdoor", sum := "9655ed4d140ccf4db385fb8fa6f4e1756d3a09a80d58c51e74d67705411b7641", func := "loop.example/g01377/laws.FnExactHoursBySun", spec := "fnExactHoursBySun", inPlace := ["internal/bytealg.IndexByteString", "internal/bytealg.IndexString", "internal/bytealg.CountString"], named := ["unicode/utf8.first", "unicode/utf8.acceptRanges", "internal/bytealg.MaxLen"], plainKeys := false, apart := false, laid := [("unicode/utf8.acceptRanges", laid_unicode_utf8_acceptRanges), ("unicode/utf8.first", laid_unicode_utf8_first)], narrowed := true }
def FnExactHoursBySunUptoSaid : Prop := fnExactHoursBySunUptoRow.holds Tryd.pinned (OpenSpec.upto fnExactHoursBySunSpec)

/-- 'laws.FnExactBiteSquare', WHERE WHAT IT READS IS OF BULK AT MOST 1048576: true; the input reads as it did. -/
def fnExactBiteSquareUptoRow : OpenClaim := { program := "ytieiakljholkaabdoor", sum := "9655ed4d140ccf4db385fb8fa6f4e1756d3a09a80d58c51e74d67705411b7641", func := "loop.example/g01377/laws.FnExactBiteSquare", spec := "fnExactBiteSquare", inPlace := ["internal/bytealg.IndexByteString", "internal/bytealg.IndexString"], named := ["unicode/utf8.first", "unicode/utf8.acceptRanges", "internal/bytealg.MaxLen"], plainKeys := false, apart := false, laid := [("unicode/utf8.acceptRanges", laid_unicode_utf8_acceptRanges), ("unicode/utf8.first", laid_unicode_utf8_first)], narrowed := true }
def FnExactBiteSquareUptoSaid : Prop := fnExactBiteSquareUptoRow.holds Tryd.pinned (OpenSpec.upto fnExactBiteSquareSpec)

/-- 'laws.FnExactTurnTablet', WHERE WHAT IT READS IS OF BULK AT MOST 1048576: true; the input reads as it did. -/
def fnExactTurnTabletUptoRow : OpenClaim := { program := "ytieiakljholkaabdoor", sum := "9655ed4d140ccf4db385fb8fa6f4e1756d3a09a80d58c51e74d67705411b7641", func := "loop.example/g01377/laws.FnExactTurnTablet", spec := "fnExactTurnTablet", inPlace := ["internal/bytealg.IndexByteString", "internal/bytealg.IndexString"], named := ["unicode/utf8.first", "unicode/utf8.acceptRanges", "internal/bytealg.MaxLen"], plainKeys := false, apart := false, laid := [("unicode/utf8.acceptRanges", laid_unicode_utf8_acceptRanges), ("unicode/utf8.first", laid_unicode_utf8_first)], narrowed := true }
def FnExactTurnTabletUptoSaid : Prop := fnExactTurnTabletUptoRow.holds Tryd.pinned (OpenSpec.upto fnExactTurnTabletSpec)

/-- 'laws.FnExactTabletText', WHERE WHAT IT READS IS OF BULK AT MOST 1048576: true; the input reads as it did. -/
def fnExactTabletTextUptoRow : OpenClaim := { program := "ytieiakljholkaabdoor", sum := "9655ed4d140ccf4db385fb8fa6f4e1756d3a09a80d58c51e74d67705411b7641", func := "loop.example/g01377/laws.FnExactTabletText", spec := "fnExactTabletText", inPlace := ["internal/bytealg.IndexByteString", "internal/bytealg.IndexString", "internal/abi.NoEscape", "internal/bytealg.MakeNoZero"], named := ["unicode/utf8.first", "unicode/utf8.acceptRanges", "internal/bytealg.MaxLen"], plainKeys := false, apart := false, laid := [("unicode/utf8.acceptRanges", laid_unicode_utf8_acceptRanges), ("unicode/utf8.first", laid_unicode_utf8_first)], narrowed := true }
def FnExactTabletTextUptoSaid : Prop := fnExactTabletTextUptoRow.holds Tryd.pinned (OpenSpec.upto fnExactTabletTextSpec)

/-- 'laws.FnExactParseTablet', WHERE WHAT IT READS IS OF BULK AT MOST 1048576: true; the input reads as it did. -/
def fnExactParseTabletUptoRow : OpenClaim := { program := "ytieiakljholkaabdoor", sum := "9655ed4d140ccf4db385fb8fa6f4e1756d3a09a80d58c51e74d67705411b7641", func := "loop.example/g01377/laws.FnExactParseTablet", spec := "fnExactParseTablet", inPlace := ["internal/bytealg.CountString", "internal/bytealg.IndexByteString", "internal/bytealg.IndexString"], named := ["unicode/utf8.first", "unicode/utf8.acceptRanges", "internal/bytealg.MaxLen"], plainKeys := false, apart := false, laid := [("unicode/utf8.acceptRanges", laid_unicode_utf8_acceptRanges), ("unicode/utf8.first", laid_unicode_utf8_first)], narrowed := true }
def FnExactParseTabletUptoSaid : Prop := fnExactParseTabletUptoRow.holds Tryd.pinned (OpenSpec.upto fnExactParseTabletSpec)

end Rows
end Go.Proofs.YtieiakljholkaabDoor
