/-
  No cell of these rows narrows 'for every input' (looked for: loops, veiled, ifaces, maps, wideKeys, modest, calm, conditions, laid).
  DERIVED. THE GIVEN ROWS OF THIS SEAT. 6 by the template 'for every input the law returns true; each argument reads behind the call as it read before'; 0 by the template 'total and deterministic' (their statements: YthcbekfgkbhpeaaDoorTotals.lean).
  GIVEN WITH THE SEED: the statements are not yours to turn. If you find one false, say at which input.
  Laid BY PROGRAM, IN A SANDBOX (cutbox-rows.mjs): the forced cells as the released guide's own fill.sh prints them over the translation e4952fb913457370… (all of the seat's roots in one cut). By AI agents, Wed Nov 11 2026. No macro, syntax, notation, axiom, sorry.
-/
import Derived.Test.YthcbekfgkbhpeaaDoorChecked
import GoSem.Claim
import GoSem.ClaimJoined
import GoSem.ClaimMapViews
import Derived.JoinedTies
import Derived.KernelRfl
namespace Go.Proofs.YthcbekfgkbhpeaaDoor
/- THE CELL 'sum', in the pinned program and in every row, IS THE sha256 OF THE DUMP (.gsa) THAT YthcbekfgkbhpeaaDoorProg.lean LOADS. Nothing in Lean hashes anything: it is a label: what it is worth is what the hold of that sum in a sandbox is worth. -/
noncomputable def Tryd.pinned : Pinned := { name := "ythcbekfgkbhpeaadoor", sum := "e4952fb913457370c0dd928d141537c49e36b08b6b83359fd0daddcd1a30ac99", checked := Tryd.checked }
namespace Rows
def none {H : Type} : Left H := { results := [], args := [] }

/-- 'laws.FnExactLayoutOf': WHATEVER THE INPUT: true; the input reads as it did. -/
def fnExactLayoutOfSpec : ChangeSpec := { name := "fnExactLayoutOf", vars := ["loop.example/g00899/impl.checkOnce", "loop.example/g00899/impl.checkTable"], fn := fun _ => fun
  | [d, g1, g2] => { results := [.lit (.bool true)], args := [d], vars := [g1, g2] }
  | _ => none }
def fnExactLayoutOfRow : OpenClaim := { program := "ythcbekfgkbhpeaadoor", sum := "e4952fb913457370c0dd928d141537c49e36b08b6b83359fd0daddcd1a30ac99", func := "loop.example/g00899/laws.FnExactLayoutOf", spec := "fnExactLayoutOf", inPlace := ["sync/atomic.LoadUint32", "(*internal/sync.Mutex).Lock", "internal/race.Disable", "sync/atomic.CompareAndSwapInt32", "internal/race.Enable", "internal/race.Acquire", "(*internal/sync.Mutex).lockSlow", "internal/sync.runtime_canSpin", "internal/sync.runtime_doSpin", "internal/sync.throw", "internal/sync.runtime_nanotime", "internal/sync.runtime_SemacquireMutex", "sync/atomic.AddInt32", "(*internal/sync.Mutex).Unlock", "internal/race.ReleaseMerge", "(*internal/sync.Mutex).unlockSlow", "internal/sync.fatal", "internal/sync.runtime_Semrelease", "sync/atomic.StoreUint32", "internal/abi.NoEscape", "internal/bytealg.MakeNoZero"], unfollowed := true, recurses := true, named := ["loop.example/g00899/impl.checkOnce", "loop.example/g00899/impl.checkTable"], apart := false }
def FnExactLayoutOfSaid : Prop := fnExactLayoutOfRow.holds Tryd.pinned (OpenSpec.ofChange fnExactLayoutOfSpec)

/-- ITS FALSE NEIGHBOUR: 'it returns false'. Refute it at one input. -/
def fnExactLayoutOfWrong : ChangeSpec := { name := "fnExactLayoutOf", vars := ["loop.example/g00899/impl.checkOnce", "loop.example/g00899/impl.checkTable"], fn := fun _ => fun
  | [d, g1, g2] => { results := [.lit (.bool false)], args := [d], vars := [g1, g2] }
  | _ => none }
def FnExactLayoutOfWrongFalsely : Prop := fnExactLayoutOfRow.holds Tryd.pinned (OpenSpec.ofChange fnExactLayoutOfWrong)

/-- 'laws.FnExactFormatChains': WHATEVER THE INPUT: true; the input reads as it did. -/
def fnExactFormatChainsSpec : ChangeSpec := { name := "fnExactFormatChains", vars := ["loop.example/g00899/impl.checkOnce", "loop.example/g00899/impl.checkTable"], fn := fun _ => fun
  | [d1, d2, g1, g2] => { results := [.lit (.bool true)], args := [d1, d2], vars := [g1, g2] }
  | _ => none }
def fnExactFormatChainsRow : OpenClaim := { program := "ythcbekfgkbhpeaadoor", sum := "e4952fb913457370c0dd928d141537c49e36b08b6b83359fd0daddcd1a30ac99", func := "loop.example/g00899/laws.FnExactFormatChains", spec := "fnExactFormatChains", inPlace := ["sync/atomic.LoadUint32", "(*internal/sync.Mutex).Lock", "internal/race.Disable", "sync/atomic.CompareAndSwapInt32", "internal/race.Enable", "internal/race.Acquire", "(*internal/sync.Mutex).lockSlow", "internal/sync.runtime_canSpin", "internal/sync.runtime_doSpin", "internal/sync.throw", "internal/sync.runtime_nanotime", "internal/sync.runtime_SemacquireMutex", "sync/atomic.AddInt32", "(*internal/sync.Mutex).Unlock", "internal/race.ReleaseMerge", "(*internal/sync.Mutex).unlockSlow", "internal/sync.fatal", "internal/sync.runtime_Semrelease", "sync/atomic.StoreUint32", "internal/abi.NoEscape", "internal/bytealg.MakeNoZero"], unfollowed := true, recurses := true, named := ["loop.example/g00899/impl.checkOnce", "loop.example/g00899/impl.checkTable"], apart := false }
def FnExactFormatChainsSaid : Prop := fnExactFormatChainsRow.holds Tryd.pinned (OpenSpec.ofChange fnExactFormatChainsSpec)

/-- ITS FALSE NEIGHBOUR: 'it returns false'. Refute it at one input. -/
def fnExactFormatChainsWrong : ChangeSpec := { name := "fnExactFormatChains", vars := ["loop.example/g00899/impl.checkOnce", "loop.example/g00899/impl.checkTable"], fn := fun _ => fun
  | [d1, d2, g1, g2] => { results := [.lit (.bool false)], args := [d1, d2], vars := [g1, g2] }
  | _ => none }
def FnExactFormatChainsWrongFalsely : Prop := fnExactFormatChainsRow.holds Tryd.pinned (OpenSpec.ofChange fnExactFormatChainsWrong)

/-- 'laws.FnExactLinkAt': WHATEVER THE INPUT: true; the input reads as it did. -/
def fnExactLinkAtSpec : ChangeSpec := { name := "fnExactLinkAt", vars := ["loop.example/g00899/impl.checkOnce", "loop.example/g00899/impl.checkTable"], fn := fun _ => fun
  | [d1, d2, g1, g2] => { results := [.lit (.bool true)], args := [d1, d2], vars := [g1, g2] }
  | _ => none }
def fnExactLinkAtRow : OpenClaim := { program := "ythcbekfgkbhpeaadoor", sum := "e4952fb913457370c0dd928d141537c49e36b08b6b83359fd0daddcd1a30ac99", func := "loop.example/g00899/laws.FnExactLinkAt", spec := "fnExactLinkAt", inPlace := ["sync/atomic.LoadUint32", "(*internal/sync.Mutex).Lock", "internal/race.Disable", "sync/atomic.CompareAndSwapInt32", "internal/race.Enable", "internal/race.Acquire", "(*internal/sync.Mutex).lockSlow", "internal/sync.runtime_canSpin", "internal/sync.runtime_doSpin", "internal/sync.throw", "internal/sync.runtime_nanotime", "internal/sync.runtime_SemacquireMutex", "sync/atomic.AddInt32", "(*internal/sync.Mutex).Unlock", "internal/race.ReleaseMerge", "(*internal/sync.Mutex).unlockSlow", "internal/sync.fatal", "internal/sync.runtime_Semrelease", "sync/atomic.StoreUint32", "internal/abi.NoEscape", "internal/bytealg.MakeNoZero"], unfollowed := true, recurses := true, named := ["loop.example/g00899/impl.checkOnce", "loop.example/g00899/impl.checkTable"], apart := false }
def FnExactLinkAtSaid : Prop := fnExactLinkAtRow.holds Tryd.pinned (OpenSpec.ofChange fnExactLinkAtSpec)

/-- ITS FALSE NEIGHBOUR: 'it returns false'. Refute it at one input. -/
def fnExactLinkAtWrong : ChangeSpec := { name := "fnExactLinkAt", vars := ["loop.example/g00899/impl.checkOnce", "loop.example/g00899/impl.checkTable"], fn := fun _ => fun
  | [d1, d2, g1, g2] => { results := [.lit (.bool false)], args := [d1, d2], vars := [g1, g2] }
  | _ => none }
def FnExactLinkAtWrongFalsely : Prop := fnExactLinkAtRow.holds Tryd.pinned (OpenSpec.ofChange fnExactLinkAtWrong)

/-- 'laws.FnExactSetLink': WHATEVER THE INPUT: true; the input reads as it did. -/
def fnExactSetLinkSpec : ChangeSpec := { name := "fnExactSetLink", vars := ["loop.example/g00899/impl.checkOnce", "loop.example/g00899/impl.checkTable"], fn := fun _ => fun
  | [d1, d2, d3, g1, g2] => { results := [.lit (.bool true)], args := [d1, d2, d3], vars := [g1, g2] }
  | _ => none }
def fnExactSetLinkRow : OpenClaim := { program := "ythcbekfgkbhpeaadoor", sum := "e4952fb913457370c0dd928d141537c49e36b08b6b83359fd0daddcd1a30ac99", func := "loop.example/g00899/laws.FnExactSetLink", spec := "fnExactSetLink", inPlace := ["sync/atomic.LoadUint32", "(*internal/sync.Mutex).Lock", "internal/race.Disable", "sync/atomic.CompareAndSwapInt32", "internal/race.Enable", "internal/race.Acquire", "(*internal/sync.Mutex).lockSlow", "internal/sync.runtime_canSpin", "internal/sync.runtime_doSpin", "internal/sync.throw", "internal/sync.runtime_nanotime", "internal/sync.runtime_SemacquireMutex", "sync/atomic.AddInt32", "(*internal/sync.Mutex).Unlock", "internal/race.ReleaseMerge", "(*internal/sync.Mutex).unlockSlow", "internal/sync.fatal", "internal/sync.runtime_Semrelease", "sync/atomic.StoreUint32", "internal/abi.NoEscape", "internal/bytealg.MakeNoZero"], unfollowed := true, recurses := true, named := ["loop.example/g00899/impl.checkOnce", "loop.example/g00899/impl.checkTable"], apart := false }
def FnExactSetLinkSaid : Prop := fnExactSetLinkRow.holds Tryd.pinned (OpenSpec.ofChange fnExactSetLinkSpec)

/-- ITS FALSE NEIGHBOUR: 'it returns false'. Refute it at one input. -/
def fnExactSetLinkWrong : ChangeSpec := { name := "fnExactSetLink", vars := ["loop.example/g00899/impl.checkOnce", "loop.example/g00899/impl.checkTable"], fn := fun _ => fun
  | [d1, d2, d3, g1, g2] => { results := [.lit (.bool false)], args := [d1, d2, d3], vars := [g1, g2] }
  | _ => none }
def FnExactSetLinkWrongFalsely : Prop := fnExactSetLinkRow.holds Tryd.pinned (OpenSpec.ofChange fnExactSetLinkWrong)

/-- 'laws.FnExactChainFrom': WHATEVER THE INPUT: true; the input reads as it did. -/
def fnExactChainFromSpec : ChangeSpec := { name := "fnExactChainFrom", vars := ["loop.example/g00899/impl.checkOnce", "loop.example/g00899/impl.checkTable"], fn := fun _ => fun
  | [d1, d2, g1, g2] => { results := [.lit (.bool true)], args := [d1, d2], vars := [g1, g2] }
  | _ => none }
def fnExactChainFromRow : OpenClaim := { program := "ythcbekfgkbhpeaadoor", sum := "e4952fb913457370c0dd928d141537c49e36b08b6b83359fd0daddcd1a30ac99", func := "loop.example/g00899/laws.FnExactChainFrom", spec := "fnExactChainFrom", inPlace := ["sync/atomic.LoadUint32", "(*internal/sync.Mutex).Lock", "internal/race.Disable", "sync/atomic.CompareAndSwapInt32", "internal/race.Enable", "internal/race.Acquire", "(*internal/sync.Mutex).lockSlow", "internal/sync.runtime_canSpin", "internal/sync.runtime_doSpin", "internal/sync.throw", "internal/sync.runtime_nanotime", "internal/sync.runtime_SemacquireMutex", "sync/atomic.AddInt32", "(*internal/sync.Mutex).Unlock", "internal/race.ReleaseMerge", "(*internal/sync.Mutex).unlockSlow", "internal/sync.fatal", "internal/sync.runtime_Semrelease", "sync/atomic.StoreUint32", "internal/abi.NoEscape", "internal/bytealg.MakeNoZero"], unfollowed := true, recurses := true, named := ["loop.example/g00899/impl.checkOnce", "loop.example/g00899/impl.checkTable"], apart := false }
def FnExactChainFromSaid : Prop := fnExactChainFromRow.holds Tryd.pinned (OpenSpec.ofChange fnExactChainFromSpec)

/-- ITS FALSE NEIGHBOUR: 'it returns false'. Refute it at one input. -/
def fnExactChainFromWrong : ChangeSpec := { name := "fnExactChainFrom", vars := ["loop.example/g00899/impl.checkOnce", "loop.example/g00899/impl.checkTable"], fn := fun _ => fun
  | [d1, d2, g1, g2] => { results := [.lit (.bool false)], args := [d1, d2], vars := [g1, g2] }
  | _ => none }
def FnExactChainFromWrongFalsely : Prop := fnExactChainFromRow.holds Tryd.pinned (OpenSpec.ofChange fnExactChainFromWrong)

/-- 'laws.FnExactFreeChains': WHATEVER THE INPUT: true; the input reads as it did. -/
def fnExactFreeChainsSpec : ChangeSpec := { name := "fnExactFreeChains", vars := ["loop.example/g00899/impl.checkOnce", "loop.example/g00899/impl.checkTable"], fn := fun _ => fun
  | [d, g1, g2] => { results := [.lit (.bool true)], args := [d], vars := [g1, g2] }
  | _ => none }
def fnExactFreeChainsRow : OpenClaim := { program := "ythcbekfgkbhpeaadoor", sum := "e4952fb913457370c0dd928d141537c49e36b08b6b83359fd0daddcd1a30ac99", func := "loop.example/g00899/laws.FnExactFreeChains", spec := "fnExactFreeChains", inPlace := ["sync/atomic.LoadUint32", "(*internal/sync.Mutex).Lock", "internal/race.Disable", "sync/atomic.CompareAndSwapInt32", "internal/race.Enable", "internal/race.Acquire", "(*internal/sync.Mutex).lockSlow", "internal/sync.runtime_canSpin", "internal/sync.runtime_doSpin", "internal/sync.throw", "internal/sync.runtime_nanotime", "internal/sync.runtime_SemacquireMutex", "sync/atomic.AddInt32", "(*internal/sync.Mutex).Unlock", "internal/race.ReleaseMerge", "(*internal/sync.Mutex).unlockSlow", "internal/sync.fatal", "internal/sync.runtime_Semrelease", "sync/atomic.StoreUint32", "internal/abi.NoEscape", "internal/bytealg.MakeNoZero"], unfollowed := true, recurses := true, named := ["loop.example/g00899/impl.checkOnce", "loop.example/g00899/impl.checkTable"], apart := false }
def FnExactFreeChainsSaid : Prop := fnExactFreeChainsRow.holds Tryd.pinned (OpenSpec.ofChange fnExactFreeChainsSpec)

/-- ITS FALSE NEIGHBOUR: 'it returns false'. Refute it at one input. -/
def fnExactFreeChainsWrong : ChangeSpec := { name := "fnExactFreeChains", vars := ["loop.example/g00899/impl.checkOnce", "loop.example/g00899/impl.checkTable"], fn := fun _ => fun
  | [d, g1, g2] => { results := [.lit (.bool false)], args := [d], vars := [g1, g2] }
  | _ => none }
def FnExactFreeChainsWrongFalsely : Prop := fnExactFreeChainsRow.holds Tryd.pinned (OpenSpec.ofChange fnExactFreeChainsWrong)

/- THE SECOND FORM. 'bulk': how many values and letters a reading holds, each counted each time it is reached (what is shared counts as often as it is met; a slice's spare places count too). A statement '..UptoSaid' is the law's where the arguments, and the package variables that the reading takes, are together of bulk at most 1048576: NARROWER than '..Said'. Prove '..Said' where nothing that the law and all that it calls make is longer than what came in: it says more and counts as full. Else prove '..UptoSaid'. A law counts once. -/
mutual
def uptoBulk {H : Type} : DataW H → Nat
  | .lit (.string bytes) => bytes.length + 1
  | .lit _ => 1
  | .nil => 1
  | .ptr d => uptoBulk d + 1
  | .slice elems spare => uptoBulkAll elems + uptoBulkAll spare + 1
  | .agg parts => uptoBulkAll parts + 1
  | .iface _ d => uptoBulk d + 1
  | .map entries => uptoBulkEntries entries + 1
  | .held _ => 1
def uptoBulkAll {H : Type} : List (DataW H) → Nat
  | [] => 0
  | d :: r => uptoBulk d + uptoBulkAll r
def uptoBulkEntries {H : Type} : List (Lit × DataW H) → Nat
  | [] => 0
  | x :: r => uptoBulkEntry x + uptoBulkEntries r
def uptoBulkEntry {H : Type} : Lit × DataW H → Nat
  | (.string bytes, d) => bytes.length + uptoBulk d + 1
  | (_, d) => uptoBulk d + 1
 end
def uptoSmall : (H : Type) → List (DataW H) → Bool := fun _ ds => decide (uptoBulkAll ds ≤ 1048576)
def OpenSpec.upto (s : _root_.Go.ChangeSpec) : _root_.Go.OpenSpec := { _root_.Go.OpenSpec.ofChange s with cond := some uptoSmall }

/-- 'laws.FnExactLayoutOf', WHERE WHAT IT READS IS OF BULK AT MOST 1048576: true; the input reads as it did. -/
def fnExactLayoutOfUptoRow : OpenClaim := { program := "ythcbekfgkbhpeaadoor", sum := "e4952fb913457370c0dd928d141537c49e36b08b6b83359fd0daddcd1a30ac99", func := "loop.example/g00899/laws.FnExactLayoutOf", spec := "fnExactLayoutOf", inPlace := ["sync/atomic.LoadUint32", "(*internal/sync.Mutex).Lock", "internal/race.Disable", "sync/atomic.CompareAndSwapInt32", "internal/race.Enable", "internal/race.Acquire", "(*internal/sync.Mutex).lockSlow", "internal/sync.runtime_canSpin", "internal/sync.runtime_doSpin", "internal/sync.throw", "internal/sync.runtime_nanotime", "internal/sync.runtime_SemacquireMutex", "sync/atomic.AddInt32", "(*internal/sync.Mutex).Unlock", "internal/race.ReleaseMerge", "(*internal/sync.Mutex).unlockSlow", "internal/sync.fatal", "internal/sync.runtime_Semrelease", "sync/atomic.StoreUint32", "internal/abi.NoEscape", "internal/bytealg.MakeNoZero"], unfollowed := true, recurses := true, named := ["loop.example/g00899/impl.checkOnce", "loop.example/g00899/impl.checkTable"], apart := false, narrowed := true }
def FnExactLayoutOfUptoSaid : Prop := fnExactLayoutOfUptoRow.holds Tryd.pinned (OpenSpec.upto fnExactLayoutOfSpec)

/-- 'laws.FnExactFormatChains', WHERE WHAT IT READS IS OF BULK AT MOST 1048576: true; the input reads as it did. -/
def fnExactFormatChainsUptoRow : OpenClaim := { program := "ythcbekfgkbhpeaadoor", sum := "e4952fb913457370c0dd928d141537c49e36b08b6b83359fd0daddcd1a30ac99", func := "loop.example/g00899/laws.FnExactFormatChains", spec := "fnExactFormatChains", inPlace := ["sync/atomic.LoadUint32", "(*internal/sync.Mutex).Lock", "internal/race.Disable", "sync/atomic.CompareAndSwapInt32", "internal/race.Enable", "internal/race.Acquire", "(*internal/sync.Mutex).lockSlow", "internal/sync.runtime_canSpin", "internal/sync.runtime_doSpin", "internal/sync.throw", "internal/sync.runtime_nanotime", "internal/sync.runtime_SemacquireMutex", "sync/atomic.AddInt32", "(*internal/sync.Mutex).Unlock", "internal/race.ReleaseMerge", "(*internal/sync.Mutex).unlockSlow", "internal/sync.fatal", "internal/sync.runtime_Semrelease", "sync/atomic.StoreUint32", "internal/abi.NoEscape", "internal/bytealg.MakeNoZero"], unfollowed := true, recurses := true, named := ["loop.example/g00899/impl.checkOnce", "loop.example/g00899/impl.checkTable"], apart := false, narrowed := true }
def FnExactFormatChainsUptoSaid : Prop := fnExactFormatChainsUptoRow.holds Tryd.pinned (OpenSpec.upto fnExactFormatChainsSpec)

/-- 'laws.FnExactLinkAt', WHERE WHAT IT READS IS OF BULK AT MOST 1048576: true; the input reads as it did. -/
def fnExactLinkAtUptoRow : OpenClaim := { program := "ythcbekfgkbhpeaadoor", sum := "e4952fb913457370c0dd928d141537c49e36b08b6b83359fd0daddcd1a30ac99", func := "loop.example/g00899/laws.FnExactLinkAt", spec := "fnExactLinkAt", inPlace := ["sync/atomic.LoadUint32", "(*internal/sync.Mutex).Lock", "internal/race.Disable", "sync/atomic.CompareAndSwapInt32", "internal/race.Enable", "internal/race.Acquire", "(*internal/sync.Mutex).lockSlow", "internal/sync.runtime_canSpin", "internal/sync.runtime_doSpin", "internal/sync.throw", "internal/sync.runtime_nanotime", "internal/sync.runtime_SemacquireMutex", "sync/atomic.AddInt32", "(*internal/sync.Mutex).Unlock", "internal/race.ReleaseMerge", "(*internal/sync.Mutex).unlockSlow", "internal/sync.fatal", "internal/sync.runtime_Semrelease", "sync/atomic.StoreUint32", "internal/abi.NoEscape", "internal/bytealg.MakeNoZero"], unfollowed := true, recurses := true, named := ["loop.example/g00899/impl.checkOnce", "loop.example/g00899/impl.checkTable"], apart := false, narrowed := true }
def FnExactLinkAtUptoSaid : Prop := fnExactLinkAtUptoRow.holds Tryd.pinned (OpenSpec.upto fnExactLinkAtSpec)

/-- 'laws.FnExactSetLink', WHERE WHAT IT READS IS OF BULK AT MOST 1048576: true; the input reads as it did. -/
def fnExactSetLinkUptoRow : OpenClaim := { program := "ythcbekfgkbhpeaadoor", sum := "e4952fb913457370c0dd928d141537c49e36b08b6b83359fd0daddcd1a30ac99", func := "loop.example/g00899/laws.FnExactSetLink", spec := "fnExactSetLink", inPlace := ["sync/atomic.LoadUint32", "(*internal/sync.Mutex).Lock", "internal/race.Disable", "sync/atomic.CompareAndSwapInt32", "internal/race.Enable", "internal/race.Acquire", "(*internal/sync.Mutex).lockSlow", "internal/sync.runtime_canSpin", "internal/sync.runtime_doSpin", "internal/sync.throw", "internal/sync.runtime_nanotime", "internal/sync.runtime_SemacquireMutex", "sync/atomic.AddInt32", "(*internal/sync.Mutex).Unlock", "internal/race.ReleaseMerge", "(*internal/sync.Mutex).unlockSlow", "internal/sync.fatal", "internal/sync.runtime_Semrelease", "sync/atomic.StoreUint32", "internal/abi.NoEscape", "internal/bytealg.MakeNoZero"], unfollowed := true, recurses := true, named := ["loop.example/g00899/impl.checkOnce", "loop.example/g00899/impl.checkTable"], apart := false, narrowed := true }
def FnExactSetLinkUptoSaid : Prop := fnExactSetLinkUptoRow.holds Tryd.pinned (OpenSpec.upto fnExactSetLinkSpec)

/-- 'laws.FnExactChainFrom', WHERE WHAT IT READS IS OF BULK AT MOST 1048576: true; the input reads as it did. -/
def fnExactChainFromUptoRow : OpenClaim := { program := "ythcbekfgkbhpeaadoor", sum := "e4952fb913457370c0dd928d141537c49e36b08b6b83359fd0daddcd1a30ac99", func := "loop.example/g00899/laws.FnExactChainFrom", spec := "fnExactChainFrom", inPlace := ["sync/atomic.LoadUint32", "(*internal/sync.Mutex).Lock", "internal/race.Disable", "sync/atomic.CompareAndSwapInt32", "internal/race.Enable", "internal/race.Acquire", "(*internal/sync.Mutex).lockSlow", "internal/sync.runtime_canSpin", "internal/sync.runtime_doSpin", "internal/sync.throw", "internal/sync.runtime_nanotime", "internal/sync.runtime_SemacquireMutex", "sync/atomic.AddInt32", "(*internal/sync.Mutex).Unlock", "internal/race.ReleaseMerge", "(*internal/sync.Mutex).unlockSlow", "internal/sync.fatal", "internal/sync.runtime_Semrelease", "sync/atomic.StoreUint32", "internal/abi.NoEscape", "internal/bytealg.MakeNoZero"], unfollowed := true, recurses := true, named := ["loop.example/g00899/impl.checkOnce", "loop.example/g00899/impl.checkTable"], apart := false, narrowed := true }
def FnExactChainFromUptoSaid : Prop := fnExactChainFromUptoRow.holds Tryd.pinned (OpenSpec.upto fnExactChainFromSpec)

/-- 'laws.FnExactFreeChains', WHERE WHAT IT READS IS OF BULK AT MOST 1048576: true; the input reads as it did. -/
def fnExactFreeChainsUptoRow : OpenClaim := { program := "ythcbekfgkbhpeaadoor", sum := "e4952fb913457370c0dd928d141537c49e36b08b6b83359fd0daddcd1a30ac99", func := "loop.example/g00899/laws.FnExactFreeChains", spec := "fnExactFreeChains", inPlace := ["sync/atomic.LoadUint32", "(*internal/sync.Mutex).Lock", "internal/race.Disable", "sync/atomic.CompareAndSwapInt32", "internal/race.Enable", "internal/race.Acquire", "(*internal/sync.Mutex).lockSlow", "internal/sync.runtime_canSpin", "internal/sync.runtime_doSpin", "internal/sync.throw", "internal/sync.runtime_nanotime", "internal/sync.runtime_SemacquireMutex", "sync/atomic.AddInt32", "(*internal/sync.Mutex).Unlock", "internal/race.ReleaseMerge", "(*internal/sync.Mutex).unlockSlow", "internal/sync.fatal", "internal/sync.runtime_Semrelease", "sync/atomic.StoreUint32", "internal/abi.NoEscape", "internal/bytealg.MakeNoZero"], unfollowed := true, recurses := true, named := ["loop.example/g00899/impl.checkOnce", "loop.example/g00899/impl.checkTable"], apart := false, narrowed := true }
def FnExactFreeChainsUptoSaid : Prop := fnExactFreeChainsUptoRow.holds Tryd.pinned (OpenSpec.upto fnExactFreeChainsSpec)

end Rows
end Go.Proofs.YthcbekfgkbhpeaaDoor
