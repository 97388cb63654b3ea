/-
  NARROWER THAN 'FOR EVERY INPUT', by the rows' own cells (each row's printed sentence says how): FnExactIsTablet: laid · FnExactLeftOnTablet: laid · FnExactOpenSides: laid · FnExactMeltHour: calm, laid · FnExactTabletAfter: calm, laid · FnExactHoursToMelt: calm, laid · FnExactEverLeft: calm, laid · FnExactMeltsAt: calm, laid · FnExactMeltedEach: calm, laid · FnExactPiecesOfTablet: laid.
  DERIVED. THE GIVEN ROWS OF THIS SEAT. 10 by the template 'for every input the law returns true; each argument reads behind the call as it read before'; 0 by the template 'total and deterministic' (their statements: YtieiakljholkaaaDoorTotals.lean).
  GIVEN WITH THE SEED: the statements are not yours to turn. If you find one false, say at which input.
  Laid BY PROGRAM, IN A SANDBOX (cutbox-rows.mjs): the forced cells as the released guide's own fill.sh prints them over the translation aa260aec795b2d6a… (all of the seat's roots in one cut). By AI agents, Wed Nov 11 2026. No macro, syntax, notation, axiom, sorry.
-/
import Derived.Test.YtieiakljholkaaaDoorChecked
import GoSem.PinnedTables
import GoSem.Claim
import GoSem.ClaimJoined
import GoSem.ClaimMapViews
import Derived.JoinedTies
import Derived.KernelRfl
namespace Go.Proofs.YtieiakljholkaaaDoor
/- THE CELL 'sum', in the pinned program and in every row, IS THE sha256 OF THE DUMP (.gsa) THAT YtieiakljholkaaaDoorProg.lean LOADS. Nothing in Lean hashes anything: it is a label: what it is worth is what the hold of that sum in a sandbox is worth. -/
noncomputable def Tryd.pinned : Pinned := { name := "ytieiakljholkaaadoor", sum := "aa260aec795b2d6aaf023575b699af6ec7fdaeb2d087288a56ee21e2dbf9dad6", checked := Tryd.checked }
namespace Rows
def none {H : Type} : Left H := { results := [], args := [] }

/- WHAT THE LISTED PACKAGE-LEVEL VARIABLES READ AS WHEN THE CALL BEGINS. Each datum BY PROGRAM (the guide's laid-datum.mjs) off the statement by which the dump's own 'gosem.cut.vars' lays the variable. In a bare row this is a premise. The card (YtieiakljholkaaaDoorCards.lean) ties it to the program's text. -/
def laid_unicode_utf8_acceptRanges {H : Type} : DataW H := .agg [.agg [.lit (.int .u8 128), .lit (.int .u8 191)], .agg [.lit (.int .u8 160), .lit (.int .u8 191)], .agg [.lit (.int .u8 128), .lit (.int .u8 159)], .agg [.lit (.int .u8 144), .lit (.int .u8 191)], .agg [.lit (.int .u8 128), .lit (.int .u8 143)], .agg [.lit (.int .u8 0), .lit (.int .u8 0)], .agg [.lit (.int .u8 0), .lit (.int .u8 0)], .agg [.lit (.int .u8 0), .lit (.int .u8 0)], .agg [.lit (.int .u8 0), .lit (.int .u8 0)], .agg [.lit (.int .u8 0), .lit (.int .u8 0)], .agg [.lit (.int .u8 0), .lit (.int .u8 0)], .agg [.lit (.int .u8 0), .lit (.int .u8 0)], .agg [.lit (.int .u8 0), .lit (.int .u8 0)], .agg [.lit (.int .u8 0), .lit (.int .u8 0)], .agg [.lit (.int .u8 0), .lit (.int .u8 0)], .agg [.lit (.int .u8 0), .lit (.int .u8 0)]]
/-- One of Go's own tables, pinned by name: the form's constant. -/
def laid_unicode_utf8_first : DataW Unit := Go.Pinned.utf8First

/-- 'laws.FnExactIsTablet': WHATEVER THE INPUT: true; the input reads as it did. -/
def fnExactIsTabletSpec : ChangeSpec := { name := "fnExactIsTablet", fn := fun _ => fun
  | [d] => { results := [.lit (.bool true)], args := [d] }
  | _ => none }
def fnExactIsTabletRow : OpenClaim := { program := "ytieiakljholkaaadoor", sum := "aa260aec795b2d6aaf023575b699af6ec7fdaeb2d087288a56ee21e2dbf9dad6", func := "loop.example/g01377/laws.FnExactIsTablet", spec := "fnExactIsTablet", inPlace := ["internal/bytealg.IndexByteString", "internal/bytealg.IndexString"], named := ["unicode/utf8.first", "unicode/utf8.acceptRanges", "internal/bytealg.MaxLen"], plainKeys := false, apart := false, laid := [("unicode/utf8.acceptRanges", laid_unicode_utf8_acceptRanges), ("unicode/utf8.first", laid_unicode_utf8_first)] }
def FnExactIsTabletSaid : Prop := fnExactIsTabletRow.holds Tryd.pinned (OpenSpec.ofChange fnExactIsTabletSpec)

/-- ITS FALSE NEIGHBOUR: 'it returns false'. Refute it at one input. -/
def fnExactIsTabletWrong : ChangeSpec := { name := "fnExactIsTablet", fn := fun _ => fun
  | [d] => { results := [.lit (.bool false)], args := [d] }
  | _ => none }
def FnExactIsTabletWrongFalsely : Prop := fnExactIsTabletRow.holds Tryd.pinned (OpenSpec.ofChange fnExactIsTabletWrong)

/-- 'laws.FnExactLeftOnTablet': WHATEVER THE INPUT: true; the input reads as it did. -/
def fnExactLeftOnTabletSpec : ChangeSpec := { name := "fnExactLeftOnTablet", fn := fun _ => fun
  | [d] => { results := [.lit (.bool true)], args := [d] }
  | _ => none }
def fnExactLeftOnTabletRow : OpenClaim := { program := "ytieiakljholkaaadoor", sum := "aa260aec795b2d6aaf023575b699af6ec7fdaeb2d087288a56ee21e2dbf9dad6", func := "loop.example/g01377/laws.FnExactLeftOnTablet", spec := "fnExactLeftOnTablet", inPlace := ["internal/bytealg.IndexByteString", "internal/bytealg.IndexString"], named := ["unicode/utf8.first", "unicode/utf8.acceptRanges", "internal/bytealg.MaxLen"], plainKeys := false, apart := false, laid := [("unicode/utf8.acceptRanges", laid_unicode_utf8_acceptRanges), ("unicode/utf8.first", laid_unicode_utf8_first)] }
def FnExactLeftOnTabletSaid : Prop := fnExactLeftOnTabletRow.holds Tryd.pinned (OpenSpec.ofChange fnExactLeftOnTabletSpec)

/-- ITS FALSE NEIGHBOUR: 'it returns false'. Refute it at one input. -/
def fnExactLeftOnTabletWrong : ChangeSpec := { name := "fnExactLeftOnTablet", fn := fun _ => fun
  | [d] => { results := [.lit (.bool false)], args := [d] }
  | _ => none }
def FnExactLeftOnTabletWrongFalsely : Prop := fnExactLeftOnTabletRow.holds Tryd.pinned (OpenSpec.ofChange fnExactLeftOnTabletWrong)

/-- 'laws.FnExactOpenSides': WHATEVER THE INPUT: true; the input reads as it did. -/
def fnExactOpenSidesSpec : ChangeSpec := { name := "fnExactOpenSides", fn := fun _ => fun
  | [d1, d2, d3] => { results := [.lit (.bool true)], args := [d1, d2, d3] }
  | _ => none }
def fnExactOpenSidesRow : OpenClaim := { program := "ytieiakljholkaaadoor", sum := "aa260aec795b2d6aaf023575b699af6ec7fdaeb2d087288a56ee21e2dbf9dad6", func := "loop.example/g01377/laws.FnExactOpenSides", spec := "fnExactOpenSides", inPlace := ["internal/bytealg.IndexByteString", "internal/bytealg.IndexString"], named := ["unicode/utf8.first", "unicode/utf8.acceptRanges", "internal/bytealg.MaxLen"], plainKeys := false, apart := false, laid := [("unicode/utf8.acceptRanges", laid_unicode_utf8_acceptRanges), ("unicode/utf8.first", laid_unicode_utf8_first)] }
def FnExactOpenSidesSaid : Prop := fnExactOpenSidesRow.holds Tryd.pinned (OpenSpec.ofChange fnExactOpenSidesSpec)

/-- ITS FALSE NEIGHBOUR: 'it returns false'. Refute it at one input. -/
def fnExactOpenSidesWrong : ChangeSpec := { name := "fnExactOpenSides", fn := fun _ => fun
  | [d1, d2, d3] => { results := [.lit (.bool false)], args := [d1, d2, d3] }
  | _ => none }
def FnExactOpenSidesWrongFalsely : Prop := fnExactOpenSidesRow.holds Tryd.pinned (OpenSpec.ofChange fnExactOpenSidesWrong)

/-- 'laws.FnExactMeltHour': WHATEVER THE INPUT: true; the input reads as it did. -/
def fnExactMeltHourSpec : ChangeSpec := { name := "fnExactMeltHour", fn := fun _ => fun
  | [d1, d2] => { results := [.lit (.bool true)], args := [d1, d2] }
  | _ => none }
def fnExactMeltHourRow : OpenClaim := { program := "ytieiakljholkaaadoor", sum := "aa260aec795b2d6aaf023575b699af6ec7fdaeb2d087288a56ee21e2dbf9dad6", func := "loop.example/g01377/laws.FnExactMeltHour", spec := "fnExactMeltHour", inPlace := ["internal/bytealg.IndexByteString", "internal/bytealg.IndexString", "(*internal/sync.Mutex).Lock", "internal/race.Disable", "sync/atomic.CompareAndSwapInt32", "internal/race.Enable", "internal/race.Acquire", "(*internal/sync.Mutex).lockSlow", "internal/sync.runtime_canSpin", "internal/sync.runtime_doSpin", "internal/sync.throw", "internal/sync.runtime_nanotime", "internal/sync.runtime_SemacquireMutex", "sync/atomic.AddInt32", "(*internal/sync.Mutex).Unlock", "internal/race.ReleaseMerge", "(*internal/sync.Mutex).unlockSlow", "internal/sync.fatal", "internal/sync.runtime_Semrelease", "(*sync.WaitGroup).Go", "(*sync.WaitGroup).Add", "internal/synctest.IsInBubble", "internal/synctest.Associate[sync.WaitGroup]", "sync.fatal", "sync/atomic.OrUint64", "sync/atomic.AddUint64", "internal/race.Read", "sync/atomic.LoadUint64", "sync/atomic.StoreUint64", "internal/synctest.Disassociate[sync.WaitGroup]", "sync.runtime_Semrelease", "(*sync.WaitGroup).Go$1", "(*sync.WaitGroup).Go$1$1", "(*sync.WaitGroup).Done", "(*sync.WaitGroup).Wait", "internal/synctest.IsAssociated[sync.WaitGroup]", "sync/atomic.CompareAndSwapUint64", "internal/race.Write", "sync.runtime_SemacquireWaitGroup"], unfollowed := true, recurses := true, named := ["unicode/utf8.first", "unicode/utf8.acceptRanges", "internal/bytealg.MaxLen"], plainKeys := false, leaving := true, apart := false, calm := true, outside := [.timePasses], laid := [("unicode/utf8.acceptRanges", laid_unicode_utf8_acceptRanges), ("unicode/utf8.first", laid_unicode_utf8_first)] }
def FnExactMeltHourSaid : Prop := fnExactMeltHourRow.holds Tryd.pinned (OpenSpec.ofChange fnExactMeltHourSpec)

/-- ITS FALSE NEIGHBOUR: 'it returns false'. Refute it at one input. -/
def fnExactMeltHourWrong : ChangeSpec := { name := "fnExactMeltHour", fn := fun _ => fun
  | [d1, d2] => { results := [.lit (.bool false)], args := [d1, d2] }
  | _ => none }
def FnExactMeltHourWrongFalsely : Prop := fnExactMeltHourRow.holds Tryd.pinned (OpenSpec.ofChange fnExactMeltHourWrong)

/-- 'laws.FnExactTabletAfter': WHATEVER THE INPUT: true; the input reads as it did. -/
def fnExactTabletAfterSpec : ChangeSpec := { name := "fnExactTabletAfter", fn := fun _ => fun
  | [d1, d2, d3] => { results := [.lit (.bool true)], args := [d1, d2, d3] }
  | _ => none }
def fnExactTabletAfterRow : OpenClaim := { program := "ytieiakljholkaaadoor", sum := "aa260aec795b2d6aaf023575b699af6ec7fdaeb2d087288a56ee21e2dbf9dad6", func := "loop.example/g01377/laws.FnExactTabletAfter", spec := "fnExactTabletAfter", inPlace := ["internal/bytealg.IndexByteString", "internal/bytealg.IndexString", "(*internal/sync.Mutex).Lock", "internal/race.Disable", "sync/atomic.CompareAndSwapInt32", "internal/race.Enable", "internal/race.Acquire", "(*internal/sync.Mutex).lockSlow", "internal/sync.runtime_canSpin", "internal/sync.runtime_doSpin", "internal/sync.throw", "internal/sync.runtime_nanotime", "internal/sync.runtime_SemacquireMutex", "sync/atomic.AddInt32", "(*internal/sync.Mutex).Unlock", "internal/race.ReleaseMerge", "(*internal/sync.Mutex).unlockSlow", "internal/sync.fatal", "internal/sync.runtime_Semrelease", "(*sync.WaitGroup).Go", "(*sync.WaitGroup).Add", "internal/synctest.IsInBubble", "internal/synctest.Associate[sync.WaitGroup]", "sync.fatal", "sync/atomic.OrUint64", "sync/atomic.AddUint64", "internal/race.Read", "sync/atomic.LoadUint64", "sync/atomic.StoreUint64", "internal/synctest.Disassociate[sync.WaitGroup]", "sync.runtime_Semrelease", "(*sync.WaitGroup).Go$1", "(*sync.WaitGroup).Go$1$1", "(*sync.WaitGroup).Done", "(*sync.WaitGroup).Wait", "internal/synctest.IsAssociated[sync.WaitGroup]", "sync/atomic.CompareAndSwapUint64", "internal/race.Write", "sync.runtime_SemacquireWaitGroup"], unfollowed := true, recurses := true, named := ["unicode/utf8.first", "unicode/utf8.acceptRanges", "internal/bytealg.MaxLen"], plainKeys := false, leaving := true, apart := false, calm := true, outside := [.timePasses], laid := [("unicode/utf8.acceptRanges", laid_unicode_utf8_acceptRanges), ("unicode/utf8.first", laid_unicode_utf8_first)] }
def FnExactTabletAfterSaid : Prop := fnExactTabletAfterRow.holds Tryd.pinned (OpenSpec.ofChange fnExactTabletAfterSpec)

/-- ITS FALSE NEIGHBOUR: 'it returns false'. Refute it at one input. -/
def fnExactTabletAfterWrong : ChangeSpec := { name := "fnExactTabletAfter", fn := fun _ => fun
  | [d1, d2, d3] => { results := [.lit (.bool false)], args := [d1, d2, d3] }
  | _ => none }
def FnExactTabletAfterWrongFalsely : Prop := fnExactTabletAfterRow.holds Tryd.pinned (OpenSpec.ofChange fnExactTabletAfterWrong)

/-- 'laws.FnExactHoursToMelt': WHATEVER THE INPUT: true; the input reads as it did. -/
def fnExactHoursToMeltSpec : ChangeSpec := { name := "fnExactHoursToMelt", fn := fun _ => fun
  | [d1, d2] => { results := [.lit (.bool true)], args := [d1, d2] }
  | _ => none }
def fnExactHoursToMeltRow : OpenClaim := { program := "ytieiakljholkaaadoor", sum := "aa260aec795b2d6aaf023575b699af6ec7fdaeb2d087288a56ee21e2dbf9dad6", func := "loop.example/g01377/laws.FnExactHoursToMelt", spec := "fnExactHoursToMelt", inPlace := ["internal/bytealg.IndexByteString", "internal/bytealg.IndexString", "(*internal/sync.Mutex).Lock", "internal/race.Disable", "sync/atomic.CompareAndSwapInt32", "internal/race.Enable", "internal/race.Acquire", "(*internal/sync.Mutex).lockSlow", "internal/sync.runtime_canSpin", "internal/sync.runtime_doSpin", "internal/sync.throw", "internal/sync.runtime_nanotime", "internal/sync.runtime_SemacquireMutex", "sync/atomic.AddInt32", "(*internal/sync.Mutex).Unlock", "internal/race.ReleaseMerge", "(*internal/sync.Mutex).unlockSlow", "internal/sync.fatal", "internal/sync.runtime_Semrelease", "(*sync.WaitGroup).Go", "(*sync.WaitGroup).Add", "internal/synctest.IsInBubble", "internal/synctest.Associate[sync.WaitGroup]", "sync.fatal", "sync/atomic.OrUint64", "sync/atomic.AddUint64", "internal/race.Read", "sync/atomic.LoadUint64", "sync/atomic.StoreUint64", "internal/synctest.Disassociate[sync.WaitGroup]", "sync.runtime_Semrelease", "(*sync.WaitGroup).Go$1", "(*sync.WaitGroup).Go$1$1", "(*sync.WaitGroup).Done", "(*sync.WaitGroup).Wait", "internal/synctest.IsAssociated[sync.WaitGroup]", "sync/atomic.CompareAndSwapUint64", "internal/race.Write", "sync.runtime_SemacquireWaitGroup"], unfollowed := true, recurses := true, named := ["unicode/utf8.first", "unicode/utf8.acceptRanges", "internal/bytealg.MaxLen"], plainKeys := false, leaving := true, apart := false, calm := true, outside := [.timePasses], laid := [("unicode/utf8.acceptRanges", laid_unicode_utf8_acceptRanges), ("unicode/utf8.first", laid_unicode_utf8_first)] }
def FnExactHoursToMeltSaid : Prop := fnExactHoursToMeltRow.holds Tryd.pinned (OpenSpec.ofChange fnExactHoursToMeltSpec)

/-- ITS FALSE NEIGHBOUR: 'it returns false'. Refute it at one input. -/
def fnExactHoursToMeltWrong : ChangeSpec := { name := "fnExactHoursToMelt", fn := fun _ => fun
  | [d1, d2] => { results := [.lit (.bool false)], args := [d1, d2] }
  | _ => none }
def FnExactHoursToMeltWrongFalsely : Prop := fnExactHoursToMeltRow.holds Tryd.pinned (OpenSpec.ofChange fnExactHoursToMeltWrong)

/-- 'laws.FnExactEverLeft': WHATEVER THE INPUT: true; the input reads as it did. -/
def fnExactEverLeftSpec : ChangeSpec := { name := "fnExactEverLeft", fn := fun _ => fun
  | [d1, d2] => { results := [.lit (.bool true)], args := [d1, d2] }
  | _ => none }
def fnExactEverLeftRow : OpenClaim := { program := "ytieiakljholkaaadoor", sum := "aa260aec795b2d6aaf023575b699af6ec7fdaeb2d087288a56ee21e2dbf9dad6", func := "loop.example/g01377/laws.FnExactEverLeft", spec := "fnExactEverLeft", inPlace := ["internal/bytealg.IndexByteString", "internal/bytealg.IndexString", "(*internal/sync.Mutex).Lock", "internal/race.Disable", "sync/atomic.CompareAndSwapInt32", "internal/race.Enable", "internal/race.Acquire", "(*internal/sync.Mutex).lockSlow", "internal/sync.runtime_canSpin", "internal/sync.runtime_doSpin", "internal/sync.throw", "internal/sync.runtime_nanotime", "internal/sync.runtime_SemacquireMutex", "sync/atomic.AddInt32", "(*internal/sync.Mutex).Unlock", "internal/race.ReleaseMerge", "(*internal/sync.Mutex).unlockSlow", "internal/sync.fatal", "internal/sync.runtime_Semrelease", "(*sync.WaitGroup).Go", "(*sync.WaitGroup).Add", "internal/synctest.IsInBubble", "internal/synctest.Associate[sync.WaitGroup]", "sync.fatal", "sync/atomic.OrUint64", "sync/atomic.AddUint64", "internal/race.Read", "sync/atomic.LoadUint64", "sync/atomic.StoreUint64", "internal/synctest.Disassociate[sync.WaitGroup]", "sync.runtime_Semrelease", "(*sync.WaitGroup).Go$1", "(*sync.WaitGroup).Go$1$1", "(*sync.WaitGroup).Done", "(*sync.WaitGroup).Wait", "internal/synctest.IsAssociated[sync.WaitGroup]", "sync/atomic.CompareAndSwapUint64", "internal/race.Write", "sync.runtime_SemacquireWaitGroup"], unfollowed := true, recurses := true, named := ["unicode/utf8.first", "unicode/utf8.acceptRanges", "internal/bytealg.MaxLen"], plainKeys := false, leaving := true, apart := false, calm := true, outside := [.timePasses], laid := [("unicode/utf8.acceptRanges", laid_unicode_utf8_acceptRanges), ("unicode/utf8.first", laid_unicode_utf8_first)] }
def FnExactEverLeftSaid : Prop := fnExactEverLeftRow.holds Tryd.pinned (OpenSpec.ofChange fnExactEverLeftSpec)

/-- ITS FALSE NEIGHBOUR: 'it returns false'. Refute it at one input. -/
def fnExactEverLeftWrong : ChangeSpec := { name := "fnExactEverLeft", fn := fun _ => fun
  | [d1, d2] => { results := [.lit (.bool false)], args := [d1, d2] }
  | _ => none }
def FnExactEverLeftWrongFalsely : Prop := fnExactEverLeftRow.holds Tryd.pinned (OpenSpec.ofChange fnExactEverLeftWrong)

/-- 'laws.FnExactMeltsAt': WHATEVER THE INPUT: true; the input reads as it did. -/
def fnExactMeltsAtSpec : ChangeSpec := { name := "fnExactMeltsAt", fn := fun _ => fun
  | [d1, d2, d3, d4] => { results := [.lit (.bool true)], args := [d1, d2, d3, d4] }
  | _ => none }
def fnExactMeltsAtRow : OpenClaim := { program := "ytieiakljholkaaadoor", sum := "aa260aec795b2d6aaf023575b699af6ec7fdaeb2d087288a56ee21e2dbf9dad6", func := "loop.example/g01377/laws.FnExactMeltsAt", spec := "fnExactMeltsAt", inPlace := ["internal/bytealg.IndexByteString", "internal/bytealg.IndexString", "(*internal/sync.Mutex).Lock", "internal/race.Disable", "sync/atomic.CompareAndSwapInt32", "internal/race.Enable", "internal/race.Acquire", "(*internal/sync.Mutex).lockSlow", "internal/sync.runtime_canSpin", "internal/sync.runtime_doSpin", "internal/sync.throw", "internal/sync.runtime_nanotime", "internal/sync.runtime_SemacquireMutex", "sync/atomic.AddInt32", "(*internal/sync.Mutex).Unlock", "internal/race.ReleaseMerge", "(*internal/sync.Mutex).unlockSlow", "internal/sync.fatal", "internal/sync.runtime_Semrelease", "(*sync.WaitGroup).Go", "(*sync.WaitGroup).Add", "internal/synctest.IsInBubble", "internal/synctest.Associate[sync.WaitGroup]", "sync.fatal", "sync/atomic.OrUint64", "sync/atomic.AddUint64", "internal/race.Read", "sync/atomic.LoadUint64", "sync/atomic.StoreUint64", "internal/synctest.Disassociate[sync.WaitGroup]", "sync.runtime_Semrelease", "(*sync.WaitGroup).Go$1", "(*sync.WaitGroup).Go$1$1", "(*sync.WaitGroup).Done", "(*sync.WaitGroup).Wait", "internal/synctest.IsAssociated[sync.WaitGroup]", "sync/atomic.CompareAndSwapUint64", "internal/race.Write", "sync.runtime_SemacquireWaitGroup"], unfollowed := true, recurses := true, named := ["unicode/utf8.first", "unicode/utf8.acceptRanges", "internal/bytealg.MaxLen"], plainKeys := false, leaving := true, apart := false, calm := true, outside := [.timePasses], laid := [("unicode/utf8.acceptRanges", laid_unicode_utf8_acceptRanges), ("unicode/utf8.first", laid_unicode_utf8_first)] }
def FnExactMeltsAtSaid : Prop := fnExactMeltsAtRow.holds Tryd.pinned (OpenSpec.ofChange fnExactMeltsAtSpec)

/-- ITS FALSE NEIGHBOUR: 'it returns false'. Refute it at one input. -/
def fnExactMeltsAtWrong : ChangeSpec := { name := "fnExactMeltsAt", fn := fun _ => fun
  | [d1, d2, d3, d4] => { results := [.lit (.bool false)], args := [d1, d2, d3, d4] }
  | _ => none }
def FnExactMeltsAtWrongFalsely : Prop := fnExactMeltsAtRow.holds Tryd.pinned (OpenSpec.ofChange fnExactMeltsAtWrong)

/-- 'laws.FnExactMeltedEach': WHATEVER THE INPUT: true; the input reads as it did. -/
def fnExactMeltedEachSpec : ChangeSpec := { name := "fnExactMeltedEach", fn := fun _ => fun
  | [d1, d2] => { results := [.lit (.bool true)], args := [d1, d2] }
  | _ => none }
def fnExactMeltedEachRow : OpenClaim := { program := "ytieiakljholkaaadoor", sum := "aa260aec795b2d6aaf023575b699af6ec7fdaeb2d087288a56ee21e2dbf9dad6", func := "loop.example/g01377/laws.FnExactMeltedEach", spec := "fnExactMeltedEach", inPlace := ["internal/bytealg.IndexByteString", "internal/bytealg.IndexString", "(*internal/sync.Mutex).Lock", "internal/race.Disable", "sync/atomic.CompareAndSwapInt32", "internal/race.Enable", "internal/race.Acquire", "(*internal/sync.Mutex).lockSlow", "internal/sync.runtime_canSpin", "internal/sync.runtime_doSpin", "internal/sync.throw", "internal/sync.runtime_nanotime", "internal/sync.runtime_SemacquireMutex", "sync/atomic.AddInt32", "(*internal/sync.Mutex).Unlock", "internal/race.ReleaseMerge", "(*internal/sync.Mutex).unlockSlow", "internal/sync.fatal", "internal/sync.runtime_Semrelease", "(*sync.WaitGroup).Go", "(*sync.WaitGroup).Add", "internal/synctest.IsInBubble", "internal/synctest.Associate[sync.WaitGroup]", "sync.fatal", "sync/atomic.OrUint64", "sync/atomic.AddUint64", "internal/race.Read", "sync/atomic.LoadUint64", "sync/atomic.StoreUint64", "internal/synctest.Disassociate[sync.WaitGroup]", "sync.runtime_Semrelease", "(*sync.WaitGroup).Go$1", "(*sync.WaitGroup).Go$1$1", "(*sync.WaitGroup).Done", "(*sync.WaitGroup).Wait", "internal/synctest.IsAssociated[sync.WaitGroup]", "sync/atomic.CompareAndSwapUint64", "internal/race.Write", "sync.runtime_SemacquireWaitGroup"], unfollowed := true, recurses := true, named := ["unicode/utf8.first", "unicode/utf8.acceptRanges", "internal/bytealg.MaxLen"], plainKeys := false, leaving := true, apart := false, calm := true, outside := [.timePasses], laid := [("unicode/utf8.acceptRanges", laid_unicode_utf8_acceptRanges), ("unicode/utf8.first", laid_unicode_utf8_first)] }
def FnExactMeltedEachSaid : Prop := fnExactMeltedEachRow.holds Tryd.pinned (OpenSpec.ofChange fnExactMeltedEachSpec)

/-- ITS FALSE NEIGHBOUR: 'it returns false'. Refute it at one input. -/
def fnExactMeltedEachWrong : ChangeSpec := { name := "fnExactMeltedEach", fn := fun _ => fun
  | [d1, d2] => { results := [.lit (.bool false)], args := [d1, d2] }
  | _ => none }
def FnExactMeltedEachWrongFalsely : Prop := fnExactMeltedEachRow.holds Tryd.pinned (OpenSpec.ofChange fnExactMeltedEachWrong)

/-- 'laws.FnExactPiecesOfTablet': WHATEVER THE INPUT: true; the input reads as it did. -/
def fnExactPiecesOfTabletSpec : ChangeSpec := { name := "fnExactPiecesOfTablet", fn := fun _ => fun
  | [d] => { results := [.lit (.bool true)], args := [d] }
  | _ => none }
def fnExactPiecesOfTabletRow : OpenClaim := { program := "ytieiakljholkaaadoor", sum := "aa260aec795b2d6aaf023575b699af6ec7fdaeb2d087288a56ee21e2dbf9dad6", func := "loop.example/g01377/laws.FnExactPiecesOfTablet", spec := "fnExactPiecesOfTablet", inPlace := ["internal/bytealg.IndexByteString", "internal/bytealg.IndexString"], recurses := true, named := ["unicode/utf8.first", "unicode/utf8.acceptRanges", "internal/bytealg.MaxLen"], plainKeys := false, apart := false, laid := [("unicode/utf8.acceptRanges", laid_unicode_utf8_acceptRanges), ("unicode/utf8.first", laid_unicode_utf8_first)] }
def FnExactPiecesOfTabletSaid : Prop := fnExactPiecesOfTabletRow.holds Tryd.pinned (OpenSpec.ofChange fnExactPiecesOfTabletSpec)

/-- ITS FALSE NEIGHBOUR: 'it returns false'. Refute it at one input. -/
def fnExactPiecesOfTabletWrong : ChangeSpec := { name := "fnExactPiecesOfTablet", fn := fun _ => fun
  | [d] => { results := [.lit (.bool false)], args := [d] }
  | _ => none }
def FnExactPiecesOfTabletWrongFalsely : Prop := fnExactPiecesOfTabletRow.holds Tryd.pinned (OpenSpec.ofChange fnExactPiecesOfTabletWrong)

/- THE SECOND FORM. 'bulk': how many values and letters a reading holds, each counted each time it is reached (what is shared counts as often as it is met; a slice's spare places count too). A statement '..UptoSaid' is the law's where the arguments, and the package variables that the reading takes, are together of bulk at most 1048576: NARROWER than '..Said'. Prove '..Said' where nothing that the law and all that it calls make is longer than what came in: it says more and counts as full. Else prove '..UptoSaid'. A law counts once. -/
mutual
def uptoBulk {H : Type} : DataW H → Nat
  | .lit (.string bytes) => bytes.length + 1
  | .lit _ => 1
  | .nil => 1
  | .ptr d => uptoBulk d + 1
  | .slice elems spare => uptoBulkAll elems + uptoBulkAll spare + 1
  | .agg parts => uptoBulkAll parts + 1
  | .iface _ d => uptoBulk d + 1
  | .map entries => uptoBulkEntries entries + 1
  | .held _ => 1
def uptoBulkAll {H : Type} : List (DataW H) → Nat
  | [] => 0
  | d :: r => uptoBulk d + uptoBulkAll r
def uptoBulkEntries {H : Type} : List (Lit × DataW H) → Nat
  | [] => 0
  | x :: r => uptoBulkEntry x + uptoBulkEntries r
def uptoBulkEntry {H : Type} : Lit × DataW H → Nat
  | (.string bytes, d) => bytes.length + uptoBulk d + 1
  | (_, d) => uptoBulk d + 1
 end
def uptoSmall : (H : Type) → List (DataW H) → Bool := fun _ ds => decide (uptoBulkAll ds ≤ 1048576)
def OpenSpec.upto (s : _root_.Go.ChangeSpec) : _root_.Go.OpenSpec := { _root_.Go.OpenSpec.ofChange s with cond := some uptoSmall }

/-- 'laws.FnExactIsTablet', WHERE WHAT IT READS IS OF BULK AT MOST 1048576: true; the input reads as it did. -/
def fnExactIsTabletUptoRow : OpenClaim := { program := "ytieiakljholkaaadoor", sum := "aa260aec795b2d6aaf023575b699af6ec7fdaeb2d087288a56ee21e2dbf9dad6", func := "loop.example/g01377/laws.FnExactIsTablet", spec := "fnExactIsTablet", inPlace := ["internal/bytealg.IndexByteString", "internal/bytealg.IndexString"], named := ["unicode/utf8.first", "unicode/utf8.acceptRanges", "internal/bytealg.MaxLen"], plainKeys := false, apart := false, laid := [("unicode/utf8.acceptRanges", laid_unicode_utf8_acceptRanges), ("unicode/utf8.first", laid_unicode_utf8_first)], narrowed := true }
def FnExactIsTabletUptoSaid : Prop := fnExactIsTabletUptoRow.holds Tryd.pinned (OpenSpec.upto fnExactIsTabletSpec)

/-- 'laws.FnExactLeftOnTablet', WHERE WHAT IT READS IS OF BULK AT MOST 1048576: true; the input reads as it did. -/
def fnExactLeftOnTabletUptoRow : OpenClaim := { program := "ytieiakljholkaaadoor", sum := "aa260aec795b2d6aaf023575b699af6ec7fdaeb2d087288a56ee21e2dbf9dad6", func := "loop.example/g01377/laws.FnExactLeftOnTablet", spec := "fnExactLeftOnTablet", inPlace := ["internal/bytealg.IndexByteString", "internal/bytealg.IndexString"], named := ["unicode/utf8.first", "unicode/utf8.acceptRanges", "internal/bytealg.MaxLen"], plainKeys := false, apart := false, laid := [("unicode/utf8.acceptRanges", laid_unicode_utf8_acceptRanges), ("unicode/utf8.first", laid_unicode_utf8_first)], narrowed := true }
def FnExactLeftOnTabletUptoSaid : Prop := fnExactLeftOnTabletUptoRow.holds Tryd.pinned (OpenSpec.upto fnExactLeftOnTabletSpec)

/-- 'laws.FnExactOpenSides', WHERE WHAT IT READS IS OF BULK AT MOST 1048576: true; the input reads as it did. -/
def fnExactOpenSidesUptoRow : OpenClaim := { program := "ytieiakljholkaaadoor", sum := "aa260aec795b2d6aaf023575b699af6ec7fdaeb2d087288a56ee21e2dbf9dad6", func := "loop.example/g01377/laws.FnExactOpenSides", spec := "fnExactOpenSides", inPlace := ["internal/bytealg.IndexByteString", "internal/bytealg.IndexString"], named := ["unicode/utf8.first", "unicode/utf8.acceptRanges", "internal/bytealg.MaxLen"], plainKeys := false, apart := false, laid := [("unicode/utf8.acceptRanges", laid_unicode_utf8_acceptRanges), ("unicode/utf8.first", laid_unicode_utf8_first)], narrowed := true }
def FnExactOpenSidesUptoSaid : Prop := fnExactOpenSidesUptoRow.holds Tryd.pinned (OpenSpec.upto fnExactOpenSidesSpec)

/-- 'laws.FnExactPiecesOfTablet', WHERE WHAT IT READS IS OF BULK AT MOST 1048576: true; the input reads as it did. -/
def fnExactPiecesOfTabletUptoRow : OpenClaim := { program := "ytieiakljholkaaadoor", sum := "aa260aec795b2d6aaf023575b699af6ec7fdaeb2d087288a56ee21e2dbf9dad6", func := "loop.example/g01377/laws.FnExactPiecesOfTablet", spec := "fnExactPiecesOfTablet", inPlace := ["internal/bytealg.IndexByteString", "internal/bytealg.IndexString"], recurses := true, named := ["unicode/utf8.first", "unicode/utf8.acceptRanges", "internal/bytealg.MaxLen"], plainKeys := false, apart := false, laid := [("unicode/utf8.acceptRanges", laid_unicode_utf8_acceptRanges), ("unicode/utf8.first", laid_unicode_utf8_first)], narrowed := true }
def FnExactPiecesOfTabletUptoSaid : Prop := fnExactPiecesOfTabletUptoRow.holds Tryd.pinned (OpenSpec.upto fnExactPiecesOfTabletSpec)

end Rows
end Go.Proofs.YtieiakljholkaaaDoor
