/-
  NARROWER THAN 'FOR EVERY INPUT', by the rows' own cells (each row's printed sentence says how): Hashes: laid · Roots: laid · Paths: laid · Links: laid · Included: laid · Extended: laid · Member: laid · Grows: laid · Binding: laid · Known: laid · Holds: laid.
  DERIVED. THE GIVEN ROWS OF THIS SEAT. 11 by the template 'for every input the law returns true; each argument reads behind the call as it read before'; 0 by the template 'total and deterministic' (their statements: YtplhlhjakapaaaaDoorTotals.lean).
  GIVEN WITH THE SEED: the statements are not yours to turn. If you find one false, say at which input.
  Laid BY PROGRAM, IN A SANDBOX (cutbox-rows.mjs): the forced cells as the released guide's own fill.sh prints them over the translation ec7d1d05f54b8c89… (all of the seat's roots in one cut). By AI agents, Wed Nov 11 2026. No macro, syntax, notation, axiom, sorry.
-/
import Derived.Test.YtplhlhjakapaaaaDoorChecked
import GoSem.Claim
import GoSem.ClaimJoined
import GoSem.ClaimMapViews
import Derived.JoinedTies
import Derived.KernelRfl
namespace Go.Proofs.YtplhlhjakapaaaaDoor
/- THE CELL 'sum', in the pinned program and in every row, IS THE sha256 OF THE DUMP (.gsa) THAT YtplhlhjakapaaaaDoorProg.lean LOADS. Nothing in Lean hashes anything: it is a label: what it is worth is what the hold of that sum in a sandbox is worth. -/
noncomputable def Tryd.pinned : Pinned := { name := "ytplhlhjakapaaaadoor", sum := "ec7d1d05f54b8c89f46d299e488e7ce1e758a3d48c20abb80716fa233d11fa9a", checked := Tryd.checked }
namespace Rows
def none {H : Type} : Left H := { results := [], args := [] }

/- WHAT THE LISTED PACKAGE-LEVEL VARIABLES READ AS WHEN THE CALL BEGINS. Each datum BY PROGRAM (the guide's laid-datum.mjs) off the statement by which the dump's own 'gosem.cut.vars' lays the variable. In a bare row this is a premise. The card (YtplhlhjakapaaaaDoorCards.lean) ties it to the program's text. -/
def laid_roots_digest_rounds {H : Type} : DataW H := .agg [.lit (.int .u32 1116352408), .lit (.int .u32 1899447441), .lit (.int .u32 3049323471), .lit (.int .u32 3921009573), .lit (.int .u32 961987163), .lit (.int .u32 1508970993), .lit (.int .u32 2453635748), .lit (.int .u32 2870763221), .lit (.int .u32 3624381080), .lit (.int .u32 310598401), .lit (.int .u32 607225278), .lit (.int .u32 1426881987), .lit (.int .u32 1925078388), .lit (.int .u32 2162078206), .lit (.int .u32 2614888103), .lit (.int .u32 3248222580), .lit (.int .u32 3835390401), .lit (.int .u32 4022224774), .lit (.int .u32 264347078), .lit (.int .u32 604807628), .lit (.int .u32 770255983), .lit (.int .u32 1249150122), .lit (.int .u32 1555081692), .lit (.int .u32 1996064986), .lit (.int .u32 2554220882), .lit (.int .u32 2821834349), .lit (.int .u32 2952996808), .lit (.int .u32 3210313671), .lit (.int .u32 3336571891), .lit (.int .u32 3584528711), .lit (.int .u32 113926993), .lit (.int .u32 338241895), .lit (.int .u32 666307205), .lit (.int .u32 773529912), .lit (.int .u32 1294757372), .lit (.int .u32 1396182291), .lit (.int .u32 1695183700), .lit (.int .u32 1986661051), .lit (.int .u32 2177026350), .lit (.int .u32 2456956037), .lit (.int .u32 2730485921), .lit (.int .u32 2820302411), .lit (.int .u32 3259730800), .lit (.int .u32 3345764771), .lit (.int .u32 3516065817), .lit (.int .u32 3600352804), .lit (.int .u32 4094571909), .lit (.int .u32 275423344), .lit (.int .u32 430227734), .lit (.int .u32 506948616), .lit (.int .u32 659060556), .lit (.int .u32 883997877), .lit (.int .u32 958139571), .lit (.int .u32 1322822218), .lit (.int .u32 1537002063), .lit (.int .u32 1747873779), .lit (.int .u32 1955562222), .lit (.int .u32 2024104815), .lit (.int .u32 2227730452), .lit (.int .u32 2361852424), .lit (.int .u32 2428436474), .lit (.int .u32 2756734187), .lit (.int .u32 3204031479), .lit (.int .u32 3329325298)]
def laid_errors_errorType {H : Type} : DataW H := .iface "internal/reflectlite.rtype" (.agg [.ptr (.lit (.string [101, 114, 114, 111, 114]))])

/-- 'rootslaw.Hashes': WHATEVER THE INPUT: true; the input reads as it did. -/
def hashesSpec : ChangeSpec := { name := "hashes", fn := fun _ => fun
  | [d] => { results := [.lit (.bool true)], args := [d] }
  | _ => none }
def hashesRow : OpenClaim := { program := "ytplhlhjakapaaaadoor", sum := "ec7d1d05f54b8c89f46d299e488e7ce1e758a3d48c20abb80716fa233d11fa9a", func := "roots/rootslaw.Hashes", spec := "hashes", named := ["roots/digest.rounds"], apart := false, laid := [("roots/digest.rounds", laid_roots_digest_rounds)] }
def HashesSaid : Prop := hashesRow.holds Tryd.pinned (OpenSpec.ofChange hashesSpec)

/-- ITS FALSE NEIGHBOUR: 'it returns false'. Refute it at one input. -/
def hashesWrong : ChangeSpec := { name := "hashes", fn := fun _ => fun
  | [d] => { results := [.lit (.bool false)], args := [d] }
  | _ => none }
def HashesWrongFalsely : Prop := hashesRow.holds Tryd.pinned (OpenSpec.ofChange hashesWrong)

/-- 'rootslaw.Roots': WHATEVER THE INPUT: true; the input reads as it did. -/
def rootsSpec : ChangeSpec := { name := "roots", fn := fun _ => fun
  | [d] => { results := [.lit (.bool true)], args := [d] }
  | _ => none }
def rootsRow : OpenClaim := { program := "ytplhlhjakapaaaadoor", sum := "ec7d1d05f54b8c89f46d299e488e7ce1e758a3d48c20abb80716fa233d11fa9a", func := "roots/rootslaw.Roots", spec := "roots", inPlace := ["(*sync.WaitGroup).Add", "internal/race.ReleaseMerge", "internal/race.Disable", "internal/race.Enable", "internal/synctest.IsInBubble", "internal/synctest.Associate[sync.WaitGroup]", "sync.fatal", "sync/atomic.OrUint64", "sync/atomic.AddUint64", "internal/race.Read", "sync/atomic.LoadUint64", "sync/atomic.StoreUint64", "internal/synctest.Disassociate[sync.WaitGroup]", "sync.runtime_Semrelease", "(*sync.WaitGroup).Done", "(*sync.WaitGroup).Wait", "internal/race.Acquire", "internal/synctest.IsAssociated[sync.WaitGroup]", "sync/atomic.CompareAndSwapUint64", "internal/race.Write", "sync.runtime_SemacquireWaitGroup"], unfollowed := true, recurses := true, named := ["roots/digest.rounds"], apart := false, laid := [("roots/digest.rounds", laid_roots_digest_rounds)] }
def RootsSaid : Prop := rootsRow.holds Tryd.pinned (OpenSpec.ofChange rootsSpec)

/-- ITS FALSE NEIGHBOUR: 'it returns false'. Refute it at one input. -/
def rootsWrong : ChangeSpec := { name := "roots", fn := fun _ => fun
  | [d] => { results := [.lit (.bool false)], args := [d] }
  | _ => none }
def RootsWrongFalsely : Prop := rootsRow.holds Tryd.pinned (OpenSpec.ofChange rootsWrong)

/-- 'rootslaw.Paths': WHATEVER THE INPUT: true; the input reads as it did. -/
def pathsSpec : ChangeSpec := { name := "paths", fn := fun _ => fun
  | [d1, d2, d3] => { results := [.lit (.bool true)], args := [d1, d2, d3] }
  | _ => none }
def pathsRow : OpenClaim := { program := "ytplhlhjakapaaaadoor", sum := "ec7d1d05f54b8c89f46d299e488e7ce1e758a3d48c20abb80716fa233d11fa9a", func := "roots/rootslaw.Paths", spec := "paths", inPlace := ["(*sync.WaitGroup).Add", "internal/race.ReleaseMerge", "internal/race.Disable", "internal/race.Enable", "internal/synctest.IsInBubble", "internal/synctest.Associate[sync.WaitGroup]", "sync.fatal", "sync/atomic.OrUint64", "sync/atomic.AddUint64", "internal/race.Read", "sync/atomic.LoadUint64", "sync/atomic.StoreUint64", "internal/synctest.Disassociate[sync.WaitGroup]", "sync.runtime_Semrelease", "(*sync.WaitGroup).Done", "(*sync.WaitGroup).Wait", "internal/race.Acquire", "internal/synctest.IsAssociated[sync.WaitGroup]", "sync/atomic.CompareAndSwapUint64", "internal/race.Write", "sync.runtime_SemacquireWaitGroup", "internal/reflectlite.ValueOf", "(internal/reflectlite.Value).Type", "(internal/reflectlite.Value).IsNil", "internal/reflectlite.TypeOf", "(internal/reflectlite.Value).Elem", "(internal/reflectlite.Value).Set"], unfollowed := true, recurses := true, named := ["roots/digest.rounds", "errors.errorType"], apart := false, laid := [("errors.errorType", laid_errors_errorType), ("roots/digest.rounds", laid_roots_digest_rounds)] }
def PathsSaid : Prop := pathsRow.holds Tryd.pinned (OpenSpec.ofChange pathsSpec)

/-- ITS FALSE NEIGHBOUR: 'it returns false'. Refute it at one input. -/
def pathsWrong : ChangeSpec := { name := "paths", fn := fun _ => fun
  | [d1, d2, d3] => { results := [.lit (.bool false)], args := [d1, d2, d3] }
  | _ => none }
def PathsWrongFalsely : Prop := pathsRow.holds Tryd.pinned (OpenSpec.ofChange pathsWrong)

/-- 'rootslaw.Links': WHATEVER THE INPUT: true; the input reads as it did. -/
def linksSpec : ChangeSpec := { name := "links", fn := fun _ => fun
  | [d1, d2, d3] => { results := [.lit (.bool true)], args := [d1, d2, d3] }
  | _ => none }
def linksRow : OpenClaim := { program := "ytplhlhjakapaaaadoor", sum := "ec7d1d05f54b8c89f46d299e488e7ce1e758a3d48c20abb80716fa233d11fa9a", func := "roots/rootslaw.Links", spec := "links", inPlace := ["(*sync.WaitGroup).Add", "internal/race.ReleaseMerge", "internal/race.Disable", "internal/race.Enable", "internal/synctest.IsInBubble", "internal/synctest.Associate[sync.WaitGroup]", "sync.fatal", "sync/atomic.OrUint64", "sync/atomic.AddUint64", "internal/race.Read", "sync/atomic.LoadUint64", "sync/atomic.StoreUint64", "internal/synctest.Disassociate[sync.WaitGroup]", "sync.runtime_Semrelease", "(*sync.WaitGroup).Done", "(*sync.WaitGroup).Wait", "internal/race.Acquire", "internal/synctest.IsAssociated[sync.WaitGroup]", "sync/atomic.CompareAndSwapUint64", "internal/race.Write", "sync.runtime_SemacquireWaitGroup", "internal/reflectlite.ValueOf", "(internal/reflectlite.Value).Type", "(internal/reflectlite.Value).IsNil", "internal/reflectlite.TypeOf", "(internal/reflectlite.Value).Elem", "(internal/reflectlite.Value).Set"], unfollowed := true, recurses := true, named := ["roots/digest.rounds", "errors.errorType"], apart := false, laid := [("errors.errorType", laid_errors_errorType), ("roots/digest.rounds", laid_roots_digest_rounds)] }
def LinksSaid : Prop := linksRow.holds Tryd.pinned (OpenSpec.ofChange linksSpec)

/-- ITS FALSE NEIGHBOUR: 'it returns false'. Refute it at one input. -/
def linksWrong : ChangeSpec := { name := "links", fn := fun _ => fun
  | [d1, d2, d3] => { results := [.lit (.bool false)], args := [d1, d2, d3] }
  | _ => none }
def LinksWrongFalsely : Prop := linksRow.holds Tryd.pinned (OpenSpec.ofChange linksWrong)

/-- 'rootslaw.Included': WHATEVER THE INPUT: true; the input reads as it did. -/
def includedSpec : ChangeSpec := { name := "included", fn := fun _ => fun
  | [d1, d2, d3, d4, d5, d6, d7] => { results := [.lit (.bool true)], args := [d1, d2, d3, d4, d5, d6, d7] }
  | _ => none }
def includedRow : OpenClaim := { program := "ytplhlhjakapaaaadoor", sum := "ec7d1d05f54b8c89f46d299e488e7ce1e758a3d48c20abb80716fa233d11fa9a", func := "roots/rootslaw.Included", spec := "included", recurses := true, named := ["roots/digest.rounds"], apart := false, laid := [("roots/digest.rounds", laid_roots_digest_rounds)] }
def IncludedSaid : Prop := includedRow.holds Tryd.pinned (OpenSpec.ofChange includedSpec)

/-- ITS FALSE NEIGHBOUR: 'it returns false'. Refute it at one input. -/
def includedWrong : ChangeSpec := { name := "included", fn := fun _ => fun
  | [d1, d2, d3, d4, d5, d6, d7] => { results := [.lit (.bool false)], args := [d1, d2, d3, d4, d5, d6, d7] }
  | _ => none }
def IncludedWrongFalsely : Prop := includedRow.holds Tryd.pinned (OpenSpec.ofChange includedWrong)

/-- 'rootslaw.Extended': WHATEVER THE INPUT: true; the input reads as it did. -/
def extendedSpec : ChangeSpec := { name := "extended", fn := fun _ => fun
  | [d1, d2, d3, d4, d5, d6] => { results := [.lit (.bool true)], args := [d1, d2, d3, d4, d5, d6] }
  | _ => none }
def extendedRow : OpenClaim := { program := "ytplhlhjakapaaaadoor", sum := "ec7d1d05f54b8c89f46d299e488e7ce1e758a3d48c20abb80716fa233d11fa9a", func := "roots/rootslaw.Extended", spec := "extended", recurses := true, named := ["roots/digest.rounds"], apart := false, laid := [("roots/digest.rounds", laid_roots_digest_rounds)] }
def ExtendedSaid : Prop := extendedRow.holds Tryd.pinned (OpenSpec.ofChange extendedSpec)

/-- ITS FALSE NEIGHBOUR: 'it returns false'. Refute it at one input. -/
def extendedWrong : ChangeSpec := { name := "extended", fn := fun _ => fun
  | [d1, d2, d3, d4, d5, d6] => { results := [.lit (.bool false)], args := [d1, d2, d3, d4, d5, d6] }
  | _ => none }
def ExtendedWrongFalsely : Prop := extendedRow.holds Tryd.pinned (OpenSpec.ofChange extendedWrong)

/-- 'rootskeep.Member': WHATEVER THE INPUT: true; the input reads as it did. -/
def memberSpec : ChangeSpec := { name := "member", fn := fun _ => fun
  | [d1, d2] => { results := [.lit (.bool true)], args := [d1, d2] }
  | _ => none }
def memberRow : OpenClaim := { program := "ytplhlhjakapaaaadoor", sum := "ec7d1d05f54b8c89f46d299e488e7ce1e758a3d48c20abb80716fa233d11fa9a", func := "roots/rootskeep.Member", spec := "member", inPlace := ["(*sync.WaitGroup).Add", "internal/race.ReleaseMerge", "internal/race.Disable", "internal/race.Enable", "internal/synctest.IsInBubble", "internal/synctest.Associate[sync.WaitGroup]", "sync.fatal", "sync/atomic.OrUint64", "sync/atomic.AddUint64", "internal/race.Read", "sync/atomic.LoadUint64", "sync/atomic.StoreUint64", "internal/synctest.Disassociate[sync.WaitGroup]", "sync.runtime_Semrelease", "(*sync.WaitGroup).Done", "(*sync.WaitGroup).Wait", "internal/race.Acquire", "internal/synctest.IsAssociated[sync.WaitGroup]", "sync/atomic.CompareAndSwapUint64", "internal/race.Write", "sync.runtime_SemacquireWaitGroup", "internal/reflectlite.ValueOf", "(internal/reflectlite.Value).Type", "(internal/reflectlite.Value).IsNil", "internal/reflectlite.TypeOf", "(internal/reflectlite.Value).Elem", "(internal/reflectlite.Value).Set"], unfollowed := true, recurses := true, named := ["roots/digest.rounds", "errors.errorType"], apart := false, laid := [("errors.errorType", laid_errors_errorType), ("roots/digest.rounds", laid_roots_digest_rounds)] }
def MemberSaid : Prop := memberRow.holds Tryd.pinned (OpenSpec.ofChange memberSpec)

/-- ITS FALSE NEIGHBOUR: 'it returns false'. Refute it at one input. -/
def memberWrong : ChangeSpec := { name := "member", fn := fun _ => fun
  | [d1, d2] => { results := [.lit (.bool false)], args := [d1, d2] }
  | _ => none }
def MemberWrongFalsely : Prop := memberRow.holds Tryd.pinned (OpenSpec.ofChange memberWrong)

/-- 'rootskeep.Grows': WHATEVER THE INPUT: true; the input reads as it did. -/
def growsSpec : ChangeSpec := { name := "grows", fn := fun _ => fun
  | [d1, d2, d3] => { results := [.lit (.bool true)], args := [d1, d2, d3] }
  | _ => none }
def growsRow : OpenClaim := { program := "ytplhlhjakapaaaadoor", sum := "ec7d1d05f54b8c89f46d299e488e7ce1e758a3d48c20abb80716fa233d11fa9a", func := "roots/rootskeep.Grows", spec := "grows", inPlace := ["(*sync.WaitGroup).Add", "internal/race.ReleaseMerge", "internal/race.Disable", "internal/race.Enable", "internal/synctest.IsInBubble", "internal/synctest.Associate[sync.WaitGroup]", "sync.fatal", "sync/atomic.OrUint64", "sync/atomic.AddUint64", "internal/race.Read", "sync/atomic.LoadUint64", "sync/atomic.StoreUint64", "internal/synctest.Disassociate[sync.WaitGroup]", "sync.runtime_Semrelease", "(*sync.WaitGroup).Done", "(*sync.WaitGroup).Wait", "internal/race.Acquire", "internal/synctest.IsAssociated[sync.WaitGroup]", "sync/atomic.CompareAndSwapUint64", "internal/race.Write", "sync.runtime_SemacquireWaitGroup", "internal/reflectlite.ValueOf", "(internal/reflectlite.Value).Type", "(internal/reflectlite.Value).IsNil", "internal/reflectlite.TypeOf", "(internal/reflectlite.Value).Elem", "(internal/reflectlite.Value).Set"], unfollowed := true, recurses := true, named := ["roots/digest.rounds", "errors.errorType"], apart := false, laid := [("errors.errorType", laid_errors_errorType), ("roots/digest.rounds", laid_roots_digest_rounds)] }
def GrowsSaid : Prop := growsRow.holds Tryd.pinned (OpenSpec.ofChange growsSpec)

/-- ITS FALSE NEIGHBOUR: 'it returns false'. Refute it at one input. -/
def growsWrong : ChangeSpec := { name := "grows", fn := fun _ => fun
  | [d1, d2, d3] => { results := [.lit (.bool false)], args := [d1, d2, d3] }
  | _ => none }
def GrowsWrongFalsely : Prop := growsRow.holds Tryd.pinned (OpenSpec.ofChange growsWrong)

/-- 'rootskeep.Binding': WHATEVER THE INPUT: true; the input reads as it did. -/
def bindingSpec : ChangeSpec := { name := "binding", fn := fun _ => fun
  | [d1, d2, d3, d4, d5, d6] => { results := [.lit (.bool true)], args := [d1, d2, d3, d4, d5, d6] }
  | _ => none }
def bindingRow : OpenClaim := { program := "ytplhlhjakapaaaadoor", sum := "ec7d1d05f54b8c89f46d299e488e7ce1e758a3d48c20abb80716fa233d11fa9a", func := "roots/rootskeep.Binding", spec := "binding", recurses := true, named := ["roots/digest.rounds"], apart := false, laid := [("roots/digest.rounds", laid_roots_digest_rounds)] }
def BindingSaid : Prop := bindingRow.holds Tryd.pinned (OpenSpec.ofChange bindingSpec)

/-- ITS FALSE NEIGHBOUR: 'it returns false'. Refute it at one input. -/
def bindingWrong : ChangeSpec := { name := "binding", fn := fun _ => fun
  | [d1, d2, d3, d4, d5, d6] => { results := [.lit (.bool false)], args := [d1, d2, d3, d4, d5, d6] }
  | _ => none }
def BindingWrongFalsely : Prop := bindingRow.holds Tryd.pinned (OpenSpec.ofChange bindingWrong)

/-- 'rootskeep.Known': WHATEVER THE INPUT: true; the input reads as it did. -/
def knownSpec : ChangeSpec := { name := "known", fn := fun _ => fun
  | [d] => { results := [.lit (.bool true)], args := [d] }
  | _ => none }
def knownRow : OpenClaim := { program := "ytplhlhjakapaaaadoor", sum := "ec7d1d05f54b8c89f46d299e488e7ce1e758a3d48c20abb80716fa233d11fa9a", func := "roots/rootskeep.Known", spec := "known", inPlace := ["(*sync.WaitGroup).Add", "internal/race.ReleaseMerge", "internal/race.Disable", "internal/race.Enable", "internal/synctest.IsInBubble", "internal/synctest.Associate[sync.WaitGroup]", "sync.fatal", "sync/atomic.OrUint64", "sync/atomic.AddUint64", "internal/race.Read", "sync/atomic.LoadUint64", "sync/atomic.StoreUint64", "internal/synctest.Disassociate[sync.WaitGroup]", "sync.runtime_Semrelease", "(*sync.WaitGroup).Done", "(*sync.WaitGroup).Wait", "internal/race.Acquire", "internal/synctest.IsAssociated[sync.WaitGroup]", "sync/atomic.CompareAndSwapUint64", "internal/race.Write", "sync.runtime_SemacquireWaitGroup", "internal/reflectlite.ValueOf", "(internal/reflectlite.Value).Type", "(internal/reflectlite.Value).IsNil", "internal/reflectlite.TypeOf", "(internal/reflectlite.Value).Elem", "(internal/reflectlite.Value).Set"], unfollowed := true, recurses := true, named := ["roots/digest.rounds", "errors.errorType"], apart := false, laid := [("errors.errorType", laid_errors_errorType), ("roots/digest.rounds", laid_roots_digest_rounds)] }
def KnownSaid : Prop := knownRow.holds Tryd.pinned (OpenSpec.ofChange knownSpec)

/-- ITS FALSE NEIGHBOUR: 'it returns false'. Refute it at one input. -/
def knownWrong : ChangeSpec := { name := "known", fn := fun _ => fun
  | [d] => { results := [.lit (.bool false)], args := [d] }
  | _ => none }
def KnownWrongFalsely : Prop := knownRow.holds Tryd.pinned (OpenSpec.ofChange knownWrong)

/-- 'rootslaw.Holds': WHATEVER THE INPUT: true; the input reads as it did. -/
def holdsSpec : ChangeSpec := { name := "holds", fn := fun _ => fun
  | [d1, d2, d3, d4, d5, d6, d7, d8] => { results := [.lit (.bool true)], args := [d1, d2, d3, d4, d5, d6, d7, d8] }
  | _ => none }
def holdsRow : OpenClaim := { program := "ytplhlhjakapaaaadoor", sum := "ec7d1d05f54b8c89f46d299e488e7ce1e758a3d48c20abb80716fa233d11fa9a", func := "roots/rootslaw.Holds", spec := "holds", inPlace := ["sync/atomic.LoadUint32", "(*internal/sync.Mutex).Lock", "internal/race.Disable", "sync/atomic.CompareAndSwapInt32", "internal/race.Enable", "internal/race.Acquire", "(*internal/sync.Mutex).lockSlow", "internal/sync.runtime_canSpin", "internal/sync.runtime_doSpin", "internal/sync.throw", "internal/sync.runtime_nanotime", "internal/sync.runtime_SemacquireMutex", "sync/atomic.AddInt32", "(*internal/sync.Mutex).Unlock", "internal/race.ReleaseMerge", "(*internal/sync.Mutex).unlockSlow", "internal/sync.fatal", "internal/sync.runtime_Semrelease", "sync/atomic.StoreUint32"], unfollowed := true, recurses := true, named := ["roots/digest.rounds"], apart := false, laid := [("roots/digest.rounds", laid_roots_digest_rounds)] }
def HoldsSaid : Prop := holdsRow.holds Tryd.pinned (OpenSpec.ofChange holdsSpec)

/-- ITS FALSE NEIGHBOUR: 'it returns false'. Refute it at one input. -/
def holdsWrong : ChangeSpec := { name := "holds", fn := fun _ => fun
  | [d1, d2, d3, d4, d5, d6, d7, d8] => { results := [.lit (.bool false)], args := [d1, d2, d3, d4, d5, d6, d7, d8] }
  | _ => none }
def HoldsWrongFalsely : Prop := holdsRow.holds Tryd.pinned (OpenSpec.ofChange holdsWrong)

/- THE SECOND FORM. 'bulk': how many values and letters a reading holds, each counted each time it is reached (what is shared counts as often as it is met; a slice's spare places count too). A statement '..UptoSaid' is the law's where the arguments, and the package variables that the reading takes, are together of bulk at most 1048576: NARROWER than '..Said'. Prove '..Said' where nothing that the law and all that it calls make is longer than what came in: it says more and counts as full. Else prove '..UptoSaid'. A law counts once. -/
mutual
def uptoBulk {H : Type} : DataW H → Nat
  | .lit (.string bytes) => bytes.length + 1
  | .lit _ => 1
  | .nil => 1
  | .ptr d => uptoBulk d + 1
  | .slice elems spare => uptoBulkAll elems + uptoBulkAll spare + 1
  | .agg parts => uptoBulkAll parts + 1
  | .iface _ d => uptoBulk d + 1
  | .map entries => uptoBulkEntries entries + 1
  | .held _ => 1
def uptoBulkAll {H : Type} : List (DataW H) → Nat
  | [] => 0
  | d :: r => uptoBulk d + uptoBulkAll r
def uptoBulkEntries {H : Type} : List (Lit × DataW H) → Nat
  | [] => 0
  | x :: r => uptoBulkEntry x + uptoBulkEntries r
def uptoBulkEntry {H : Type} : Lit × DataW H → Nat
  | (.string bytes, d) => bytes.length + uptoBulk d + 1
  | (_, d) => uptoBulk d + 1
 end
def uptoSmall : (H : Type) → List (DataW H) → Bool := fun _ ds => decide (uptoBulkAll ds ≤ 1048576)
def OpenSpec.upto (s : _root_.Go.ChangeSpec) : _root_.Go.OpenSpec := { _root_.Go.OpenSpec.ofChange s with cond := some uptoSmall }

/-- 'rootslaw.Hashes', WHERE WHAT IT READS IS OF BULK AT MOST 1048576: true; the input reads as it did. -/
def hashesUptoRow : OpenClaim := { program := "ytplhlhjakapaaaadoor", sum := "ec7d1d05f54b8c89f46d299e488e7ce1e758a3d48c20abb80716fa233d11fa9a", func := "roots/rootslaw.Hashes", spec := "hashes", named := ["roots/digest.rounds"], apart := false, laid := [("roots/digest.rounds", laid_roots_digest_rounds)], narrowed := true }
def HashesUptoSaid : Prop := hashesUptoRow.holds Tryd.pinned (OpenSpec.upto hashesSpec)

/-- 'rootslaw.Roots', WHERE WHAT IT READS IS OF BULK AT MOST 1048576: true; the input reads as it did. -/
def rootsUptoRow : OpenClaim := { program := "ytplhlhjakapaaaadoor", sum := "ec7d1d05f54b8c89f46d299e488e7ce1e758a3d48c20abb80716fa233d11fa9a", func := "roots/rootslaw.Roots", spec := "roots", inPlace := ["(*sync.WaitGroup).Add", "internal/race.ReleaseMerge", "internal/race.Disable", "internal/race.Enable", "internal/synctest.IsInBubble", "internal/synctest.Associate[sync.WaitGroup]", "sync.fatal", "sync/atomic.OrUint64", "sync/atomic.AddUint64", "internal/race.Read", "sync/atomic.LoadUint64", "sync/atomic.StoreUint64", "internal/synctest.Disassociate[sync.WaitGroup]", "sync.runtime_Semrelease", "(*sync.WaitGroup).Done", "(*sync.WaitGroup).Wait", "internal/race.Acquire", "internal/synctest.IsAssociated[sync.WaitGroup]", "sync/atomic.CompareAndSwapUint64", "internal/race.Write", "sync.runtime_SemacquireWaitGroup"], unfollowed := true, recurses := true, named := ["roots/digest.rounds"], apart := false, laid := [("roots/digest.rounds", laid_roots_digest_rounds)], narrowed := true }
def RootsUptoSaid : Prop := rootsUptoRow.holds Tryd.pinned (OpenSpec.upto rootsSpec)

/-- 'rootslaw.Paths', WHERE WHAT IT READS IS OF BULK AT MOST 1048576: true; the input reads as it did. -/
def pathsUptoRow : OpenClaim := { program := "ytplhlhjakapaaaadoor", sum := "ec7d1d05f54b8c89f46d299e488e7ce1e758a3d48c20abb80716fa233d11fa9a", func := "roots/rootslaw.Paths", spec := "paths", inPlace := ["(*sync.WaitGroup).Add", "internal/race.ReleaseMerge", "internal/race.Disable", "internal/race.Enable", "internal/synctest.IsInBubble", "internal/synctest.Associate[sync.WaitGroup]", "sync.fatal", "sync/atomic.OrUint64", "sync/atomic.AddUint64", "internal/race.Read", "sync/atomic.LoadUint64", "sync/atomic.StoreUint64", "internal/synctest.Disassociate[sync.WaitGroup]", "sync.runtime_Semrelease", "(*sync.WaitGroup).Done", "(*sync.WaitGroup).Wait", "internal/race.Acquire", "internal/synctest.IsAssociated[sync.WaitGroup]", "sync/atomic.CompareAndSwapUint64", "internal/race.Write", "sync.runtime_SemacquireWaitGroup", "internal/reflectlite.ValueOf", "(internal/reflectlite.Value).Type", "(internal/reflectlite.Value).IsNil", "internal/reflectlite.TypeOf", "(internal/reflectlite.Value).Elem", "(internal/reflectlite.Value).Set"], unfollowed := true, recurses := true, named := ["roots/digest.rounds", "errors.errorType"], apart := false, laid := [("errors.errorType", laid_errors_errorType), ("roots/digest.rounds", laid_roots_digest_rounds)], narrowed := true }
def PathsUptoSaid : Prop := pathsUptoRow.holds Tryd.pinned (OpenSpec.upto pathsSpec)

/-- 'rootslaw.Links', WHERE WHAT IT READS IS OF BULK AT MOST 1048576: true; the input reads as it did. -/
def linksUptoRow : OpenClaim := { program := "ytplhlhjakapaaaadoor", sum := "ec7d1d05f54b8c89f46d299e488e7ce1e758a3d48c20abb80716fa233d11fa9a", func := "roots/rootslaw.Links", spec := "links", inPlace := ["(*sync.WaitGroup).Add", "internal/race.ReleaseMerge", "internal/race.Disable", "internal/race.Enable", "internal/synctest.IsInBubble", "internal/synctest.Associate[sync.WaitGroup]", "sync.fatal", "sync/atomic.OrUint64", "sync/atomic.AddUint64", "internal/race.Read", "sync/atomic.LoadUint64", "sync/atomic.StoreUint64", "internal/synctest.Disassociate[sync.WaitGroup]", "sync.runtime_Semrelease", "(*sync.WaitGroup).Done", "(*sync.WaitGroup).Wait", "internal/race.Acquire", "internal/synctest.IsAssociated[sync.WaitGroup]", "sync/atomic.CompareAndSwapUint64", "internal/race.Write", "sync.runtime_SemacquireWaitGroup", "internal/reflectlite.ValueOf", "(internal/reflectlite.Value).Type", "(internal/reflectlite.Value).IsNil", "internal/reflectlite.TypeOf", "(internal/reflectlite.Value).Elem", "(internal/reflectlite.Value).Set"], unfollowed := true, recurses := true, named := ["roots/digest.rounds", "errors.errorType"], apart := false, laid := [("errors.errorType", laid_errors_errorType), ("roots/digest.rounds", laid_roots_digest_rounds)], narrowed := true }
def LinksUptoSaid : Prop := linksUptoRow.holds Tryd.pinned (OpenSpec.upto linksSpec)

/-- 'rootslaw.Included', WHERE WHAT IT READS IS OF BULK AT MOST 1048576: true; the input reads as it did. -/
def includedUptoRow : OpenClaim := { program := "ytplhlhjakapaaaadoor", sum := "ec7d1d05f54b8c89f46d299e488e7ce1e758a3d48c20abb80716fa233d11fa9a", func := "roots/rootslaw.Included", spec := "included", recurses := true, named := ["roots/digest.rounds"], apart := false, laid := [("roots/digest.rounds", laid_roots_digest_rounds)], narrowed := true }
def IncludedUptoSaid : Prop := includedUptoRow.holds Tryd.pinned (OpenSpec.upto includedSpec)

/-- 'rootslaw.Extended', WHERE WHAT IT READS IS OF BULK AT MOST 1048576: true; the input reads as it did. -/
def extendedUptoRow : OpenClaim := { program := "ytplhlhjakapaaaadoor", sum := "ec7d1d05f54b8c89f46d299e488e7ce1e758a3d48c20abb80716fa233d11fa9a", func := "roots/rootslaw.Extended", spec := "extended", recurses := true, named := ["roots/digest.rounds"], apart := false, laid := [("roots/digest.rounds", laid_roots_digest_rounds)], narrowed := true }
def ExtendedUptoSaid : Prop := extendedUptoRow.holds Tryd.pinned (OpenSpec.upto extendedSpec)

/-- 'rootskeep.Member', WHERE WHAT IT READS IS OF BULK AT MOST 1048576: true; the input reads as it did. -/
def memberUptoRow : OpenClaim := { program := "ytplhlhjakapaaaadoor", sum := "ec7d1d05f54b8c89f46d299e488e7ce1e758a3d48c20abb80716fa233d11fa9a", func := "roots/rootskeep.Member", spec := "member", inPlace := ["(*sync.WaitGroup).Add", "internal/race.ReleaseMerge", "internal/race.Disable", "internal/race.Enable", "internal/synctest.IsInBubble", "internal/synctest.Associate[sync.WaitGroup]", "sync.fatal", "sync/atomic.OrUint64", "sync/atomic.AddUint64", "internal/race.Read", "sync/atomic.LoadUint64", "sync/atomic.StoreUint64", "internal/synctest.Disassociate[sync.WaitGroup]", "sync.runtime_Semrelease", "(*sync.WaitGroup).Done", "(*sync.WaitGroup).Wait", "internal/race.Acquire", "internal/synctest.IsAssociated[sync.WaitGroup]", "sync/atomic.CompareAndSwapUint64", "internal/race.Write", "sync.runtime_SemacquireWaitGroup", "internal/reflectlite.ValueOf", "(internal/reflectlite.Value).Type", "(internal/reflectlite.Value).IsNil", "internal/reflectlite.TypeOf", "(internal/reflectlite.Value).Elem", "(internal/reflectlite.Value).Set"], unfollowed := true, recurses := true, named := ["roots/digest.rounds", "errors.errorType"], apart := false, laid := [("errors.errorType", laid_errors_errorType), ("roots/digest.rounds", laid_roots_digest_rounds)], narrowed := true }
def MemberUptoSaid : Prop := memberUptoRow.holds Tryd.pinned (OpenSpec.upto memberSpec)

/-- 'rootskeep.Grows', WHERE WHAT IT READS IS OF BULK AT MOST 1048576: true; the input reads as it did. -/
def growsUptoRow : OpenClaim := { program := "ytplhlhjakapaaaadoor", sum := "ec7d1d05f54b8c89f46d299e488e7ce1e758a3d48c20abb80716fa233d11fa9a", func := "roots/rootskeep.Grows", spec := "grows", inPlace := ["(*sync.WaitGroup).Add", "internal/race.ReleaseMerge", "internal/race.Disable", "internal/race.Enable", "internal/synctest.IsInBubble", "internal/synctest.Associate[sync.WaitGroup]", "sync.fatal", "sync/atomic.OrUint64", "sync/atomic.AddUint64", "internal/race.Read", "sync/atomic.LoadUint64", "sync/atomic.StoreUint64", "internal/synctest.Disassociate[sync.WaitGroup]", "sync.runtime_Semrelease", "(*sync.WaitGroup).Done", "(*sync.WaitGroup).Wait", "internal/race.Acquire", "internal/synctest.IsAssociated[sync.WaitGroup]", "sync/atomic.CompareAndSwapUint64", "internal/race.Write", "sync.runtime_SemacquireWaitGroup", "internal/reflectlite.ValueOf", "(internal/reflectlite.Value).Type", "(internal/reflectlite.Value).IsNil", "internal/reflectlite.TypeOf", "(internal/reflectlite.Value).Elem", "(internal/reflectlite.Value).Set"], unfollowed := true, recurses := true, named := ["roots/digest.rounds", "errors.errorType"], apart := false, laid := [("errors.errorType", laid_errors_errorType), ("roots/digest.rounds", laid_roots_digest_rounds)], narrowed := true }
def GrowsUptoSaid : Prop := growsUptoRow.holds Tryd.pinned (OpenSpec.upto growsSpec)

/-- 'rootskeep.Binding', WHERE WHAT IT READS IS OF BULK AT MOST 1048576: true; the input reads as it did. -/
def bindingUptoRow : OpenClaim := { program := "ytplhlhjakapaaaadoor", sum := "ec7d1d05f54b8c89f46d299e488e7ce1e758a3d48c20abb80716fa233d11fa9a", func := "roots/rootskeep.Binding", spec := "binding", recurses := true, named := ["roots/digest.rounds"], apart := false, laid := [("roots/digest.rounds", laid_roots_digest_rounds)], narrowed := true }
def BindingUptoSaid : Prop := bindingUptoRow.holds Tryd.pinned (OpenSpec.upto bindingSpec)

/-- 'rootskeep.Known', WHERE WHAT IT READS IS OF BULK AT MOST 1048576: true; the input reads as it did. -/
def knownUptoRow : OpenClaim := { program := "ytplhlhjakapaaaadoor", sum := "ec7d1d05f54b8c89f46d299e488e7ce1e758a3d48c20abb80716fa233d11fa9a", func := "roots/rootskeep.Known", spec := "known", inPlace := ["(*sync.WaitGroup).Add", "internal/race.ReleaseMerge", "internal/race.Disable", "internal/race.Enable", "internal/synctest.IsInBubble", "internal/synctest.Associate[sync.WaitGroup]", "sync.fatal", "sync/atomic.OrUint64", "sync/atomic.AddUint64", "internal/race.Read", "sync/atomic.LoadUint64", "sync/atomic.StoreUint64", "internal/synctest.Disassociate[sync.WaitGroup]", "sync.runtime_Semrelease", "(*sync.WaitGroup).Done", "(*sync.WaitGroup).Wait", "internal/race.Acquire", "internal/synctest.IsAssociated[sync.WaitGroup]", "sync/atomic.CompareAndSwapUint64", "internal/race.Write", "sync.runtime_SemacquireWaitGroup", "internal/reflectlite.ValueOf", "(internal/reflectlite.Value).Type", "(internal/reflectlite.Value).IsNil", "internal/reflectlite.TypeOf", "(internal/reflectlite.Value).Elem", "(internal/reflectlite.Value).Set"], unfollowed := true, recurses := true, named := ["roots/digest.rounds", "errors.errorType"], apart := false, laid := [("errors.errorType", laid_errors_errorType), ("roots/digest.rounds", laid_roots_digest_rounds)], narrowed := true }
def KnownUptoSaid : Prop := knownUptoRow.holds Tryd.pinned (OpenSpec.upto knownSpec)

/-- 'rootslaw.Holds', WHERE WHAT IT READS IS OF BULK AT MOST 1048576: true; the input reads as it did. -/
def holdsUptoRow : OpenClaim := { program := "ytplhlhjakapaaaadoor", sum := "ec7d1d05f54b8c89f46d299e488e7ce1e758a3d48c20abb80716fa233d11fa9a", func := "roots/rootslaw.Holds", spec := "holds", inPlace := ["sync/atomic.LoadUint32", "(*internal/sync.Mutex).Lock", "internal/race.Disable", "sync/atomic.CompareAndSwapInt32", "internal/race.Enable", "internal/race.Acquire", "(*internal/sync.Mutex).lockSlow", "internal/sync.runtime_canSpin", "internal/sync.runtime_doSpin", "internal/sync.throw", "internal/sync.runtime_nanotime", "internal/sync.runtime_SemacquireMutex", "sync/atomic.AddInt32", "(*internal/sync.Mutex).Unlock", "internal/race.ReleaseMerge", "(*internal/sync.Mutex).unlockSlow", "internal/sync.fatal", "internal/sync.runtime_Semrelease", "sync/atomic.StoreUint32"], unfollowed := true, recurses := true, named := ["roots/digest.rounds"], apart := false, laid := [("roots/digest.rounds", laid_roots_digest_rounds)], narrowed := true }
def HoldsUptoSaid : Prop := holdsUptoRow.holds Tryd.pinned (OpenSpec.upto holdsSpec)

end Rows
end Go.Proofs.YtplhlhjakapaaaaDoor
