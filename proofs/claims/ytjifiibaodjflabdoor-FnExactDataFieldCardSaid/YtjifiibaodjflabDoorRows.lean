/-
  NARROWER THAN 'FOR EVERY INPUT', by the rows' own cells (each row's printed sentence says how): FnExactMarkCells: laid · FnExactEncodeBytes: laid · FnExactIdField: laid · FnExactDataField: laid · FnExactSectorCells: laid · FnExactNearestGcr: laid · FnExactRepairGcr: laid · FnGcrRepair: laid.
  DERIVED. THE GIVEN ROWS OF THIS SEAT. 8 by the template 'for every input the law returns true; each argument reads behind the call as it read before'; 0 by the template 'total and deterministic' (their statements: YtjifiibaodjflabDoorTotals.lean).
  GIVEN WITH THE SEED: the statements are not yours to turn. If you find one false, say at which input.
  Laid BY PROGRAM, IN A SANDBOX (cutbox-rows.mjs): the forced cells as the released guide's own fill.sh prints them over the translation f53bad7515b66dc5… (all of the seat's roots in one cut). By AI agents, Wed Nov 11 2026. No macro, syntax, notation, axiom, sorry.
-/
import Derived.Test.YtjifiibaodjflabDoorChecked
import GoSem.Claim
import GoSem.ClaimJoined
import GoSem.ClaimMapViews
import Derived.JoinedTies
import Derived.KernelRfl
namespace Go.Proofs.YtjifiibaodjflabDoor
/- THE CELL 'sum', in the pinned program and in every row, IS THE sha256 OF THE DUMP (.gsa) THAT YtjifiibaodjflabDoorProg.lean LOADS. Nothing in Lean hashes anything: it is a label: what it is worth is what the hold of that sum in a sandbox is worth. -/
noncomputable def Tryd.pinned : Pinned := { name := "ytjifiibaodjflabdoor", sum := "f53bad7515b66dc5e72a54a6ece60b31d6610a37ba1d2ead32300eb958773d6d", checked := Tryd.checked }
namespace Rows
def none {H : Type} : Left H := { results := [], args := [] }

/- WHAT THE LISTED PACKAGE-LEVEL VARIABLES READ AS WHEN THE CALL BEGINS. Each datum BY PROGRAM (the guide's laid-datum.mjs) off the statement by which the dump's own 'gosem.cut.vars' lays the variable. In a bare row this is a premise. The card (YtjifiibaodjflabDoorCards.lean) ties it to the program's text. -/
def laid_loop_example_g00899_impl_groupCodes {H : Type} : DataW H := .agg [.lit (.int .u8 10), .lit (.int .u8 11), .lit (.int .u8 18), .lit (.int .u8 19), .lit (.int .u8 14), .lit (.int .u8 15), .lit (.int .u8 22), .lit (.int .u8 23), .lit (.int .u8 9), .lit (.int .u8 25), .lit (.int .u8 26), .lit (.int .u8 27), .lit (.int .u8 13), .lit (.int .u8 29), .lit (.int .u8 30), .lit (.int .u8 21)]
def laid_loop_example_g00899_impl_clockedBytes {H : Type} : DataW H := .agg [.lit (.int .i64 0), .lit (.int .i64 254), .lit (.int .i64 251), .lit (.int .i64 248)]
def laid_loop_example_g00899_impl_groupedBytes {H : Type} : DataW H := .agg [.lit (.int .i64 0), .lit (.int .i64 8), .lit (.int .i64 7), .lit (.int .i64 6)]
def laid_loop_example_g00899_impl_layouts {H : Type} : DataW H := .agg [.agg [.lit (.int .i64 0), .lit (.string []), .lit (.string []), .lit (.string []), .lit (.string [])], .agg [.lit (.int .i64 16), .lit (.string [255]), .lit (.string [0, 0]), .lit (.string []), .lit (.string [])], .agg [.lit (.int .i64 16), .lit (.string [78]), .lit (.string [0, 0, 0]), .lit (.string []), .lit (.string [161, 161, 161])], .agg [.lit (.int .i64 10), .lit (.string [85]), .lit (.string []), .lit (.string [49, 49, 49, 49, 49, 49, 49, 49, 49, 49]), .lit (.string [])]]

/-- 'laws.FnExactMarkCells': WHATEVER THE INPUT: true; the input reads as it did. -/
def fnExactMarkCellsSpec : ChangeSpec := { name := "fnExactMarkCells", vars := ["loop.example/g00899/impl.groupedBytes", "loop.example/g00899/impl.clockedBytes", "loop.example/g00899/impl.groupCodes"], fn := fun _ => fun
  | [d1, d2, g1, g2, g3] => { results := [.lit (.bool true)], args := [d1, d2], vars := [g1, g2, g3] }
  | _ => none }
def fnExactMarkCellsRow : OpenClaim := { program := "ytjifiibaodjflabdoor", sum := "f53bad7515b66dc5e72a54a6ece60b31d6610a37ba1d2ead32300eb958773d6d", func := "loop.example/g00899/laws.FnExactMarkCells", spec := "fnExactMarkCells", inPlace := ["internal/abi.NoEscape", "internal/bytealg.MakeNoZero"], unfollowed := true, recurses := true, named := ["loop.example/g00899/impl.groupedBytes", "loop.example/g00899/impl.clockedBytes", "loop.example/g00899/impl.groupCodes"], apart := false, laid := [("loop.example/g00899/impl.groupCodes", laid_loop_example_g00899_impl_groupCodes), ("loop.example/g00899/impl.clockedBytes", laid_loop_example_g00899_impl_clockedBytes), ("loop.example/g00899/impl.groupedBytes", laid_loop_example_g00899_impl_groupedBytes)] }
def FnExactMarkCellsSaid : Prop := fnExactMarkCellsRow.holds Tryd.pinned (OpenSpec.ofChange fnExactMarkCellsSpec)

/-- ITS FALSE NEIGHBOUR: 'it returns false'. Refute it at one input. -/
def fnExactMarkCellsWrong : ChangeSpec := { name := "fnExactMarkCells", vars := ["loop.example/g00899/impl.groupedBytes", "loop.example/g00899/impl.clockedBytes", "loop.example/g00899/impl.groupCodes"], fn := fun _ => fun
  | [d1, d2, g1, g2, g3] => { results := [.lit (.bool false)], args := [d1, d2], vars := [g1, g2, g3] }
  | _ => none }
def FnExactMarkCellsWrongFalsely : Prop := fnExactMarkCellsRow.holds Tryd.pinned (OpenSpec.ofChange fnExactMarkCellsWrong)

/-- 'laws.FnExactEncodeBytes': WHATEVER THE INPUT: true; the input reads as it did. -/
def fnExactEncodeBytesSpec : ChangeSpec := { name := "fnExactEncodeBytes", vars := ["loop.example/g00899/impl.layouts", "loop.example/g00899/impl.groupCodes"], fn := fun _ => fun
  | [d1, d2, d3, g1, g2] => { results := [.lit (.bool true)], args := [d1, d2, d3], vars := [g1, g2] }
  | _ => none }
def fnExactEncodeBytesRow : OpenClaim := { program := "ytjifiibaodjflabdoor", sum := "f53bad7515b66dc5e72a54a6ece60b31d6610a37ba1d2ead32300eb958773d6d", func := "loop.example/g00899/laws.FnExactEncodeBytes", spec := "fnExactEncodeBytes", inPlace := ["internal/abi.NoEscape"], unfollowed := true, recurses := true, named := ["loop.example/g00899/impl.layouts", "loop.example/g00899/impl.groupCodes"], apart := false, laid := [("loop.example/g00899/impl.groupCodes", laid_loop_example_g00899_impl_groupCodes), ("loop.example/g00899/impl.layouts", laid_loop_example_g00899_impl_layouts)] }
def FnExactEncodeBytesSaid : Prop := fnExactEncodeBytesRow.holds Tryd.pinned (OpenSpec.ofChange fnExactEncodeBytesSpec)

/-- ITS FALSE NEIGHBOUR: 'it returns false'. Refute it at one input. -/
def fnExactEncodeBytesWrong : ChangeSpec := { name := "fnExactEncodeBytes", vars := ["loop.example/g00899/impl.layouts", "loop.example/g00899/impl.groupCodes"], fn := fun _ => fun
  | [d1, d2, d3, g1, g2] => { results := [.lit (.bool false)], args := [d1, d2, d3], vars := [g1, g2] }
  | _ => none }
def FnExactEncodeBytesWrongFalsely : Prop := fnExactEncodeBytesRow.holds Tryd.pinned (OpenSpec.ofChange fnExactEncodeBytesWrong)

/-- 'laws.FnExactIdField': WHATEVER THE INPUT: true; the input reads as it did. -/
def fnExactIdFieldSpec : ChangeSpec := { name := "fnExactIdField", vars := ["loop.example/g00899/impl.layouts", "loop.example/g00899/impl.groupedBytes", "loop.example/g00899/impl.clockedBytes", "loop.example/g00899/impl.checkOnce", "loop.example/g00899/impl.checkTable"], fn := fun _ => fun
  | [d1, d2, g1, g2, g3, g4, g5] => { results := [.lit (.bool true)], args := [d1, d2], vars := [g1, g2, g3, g4, g5] }
  | _ => none }
def fnExactIdFieldRow : OpenClaim := { program := "ytjifiibaodjflabdoor", sum := "f53bad7515b66dc5e72a54a6ece60b31d6610a37ba1d2ead32300eb958773d6d", func := "loop.example/g00899/laws.FnExactIdField", spec := "fnExactIdField", inPlace := ["sync/atomic.LoadUint32", "(*internal/sync.Mutex).Lock", "internal/race.Disable", "sync/atomic.CompareAndSwapInt32", "internal/race.Enable", "internal/race.Acquire", "(*internal/sync.Mutex).lockSlow", "internal/sync.runtime_canSpin", "internal/sync.runtime_doSpin", "internal/sync.throw", "internal/sync.runtime_nanotime", "internal/sync.runtime_SemacquireMutex", "sync/atomic.AddInt32", "(*internal/sync.Mutex).Unlock", "internal/race.ReleaseMerge", "(*internal/sync.Mutex).unlockSlow", "internal/sync.fatal", "internal/sync.runtime_Semrelease", "sync/atomic.StoreUint32"], unfollowed := true, recurses := true, named := ["loop.example/g00899/impl.layouts", "loop.example/g00899/impl.groupedBytes", "loop.example/g00899/impl.clockedBytes", "loop.example/g00899/impl.checkOnce", "loop.example/g00899/impl.checkTable"], apart := false, laid := [("loop.example/g00899/impl.clockedBytes", laid_loop_example_g00899_impl_clockedBytes), ("loop.example/g00899/impl.groupedBytes", laid_loop_example_g00899_impl_groupedBytes), ("loop.example/g00899/impl.layouts", laid_loop_example_g00899_impl_layouts)] }
def FnExactIdFieldSaid : Prop := fnExactIdFieldRow.holds Tryd.pinned (OpenSpec.ofChange fnExactIdFieldSpec)

/-- ITS FALSE NEIGHBOUR: 'it returns false'. Refute it at one input. -/
def fnExactIdFieldWrong : ChangeSpec := { name := "fnExactIdField", vars := ["loop.example/g00899/impl.layouts", "loop.example/g00899/impl.groupedBytes", "loop.example/g00899/impl.clockedBytes", "loop.example/g00899/impl.checkOnce", "loop.example/g00899/impl.checkTable"], fn := fun _ => fun
  | [d1, d2, g1, g2, g3, g4, g5] => { results := [.lit (.bool false)], args := [d1, d2], vars := [g1, g2, g3, g4, g5] }
  | _ => none }
def FnExactIdFieldWrongFalsely : Prop := fnExactIdFieldRow.holds Tryd.pinned (OpenSpec.ofChange fnExactIdFieldWrong)

/-- 'laws.FnExactDataField': WHATEVER THE INPUT: true; the input reads as it did. -/
def fnExactDataFieldSpec : ChangeSpec := { name := "fnExactDataField", vars := ["loop.example/g00899/impl.layouts", "loop.example/g00899/impl.groupedBytes", "loop.example/g00899/impl.clockedBytes", "loop.example/g00899/impl.checkOnce", "loop.example/g00899/impl.checkTable"], fn := fun _ => fun
  | [d1, d2, g1, g2, g3, g4, g5] => { results := [.lit (.bool true)], args := [d1, d2], vars := [g1, g2, g3, g4, g5] }
  | _ => none }
def fnExactDataFieldRow : OpenClaim := { program := "ytjifiibaodjflabdoor", sum := "f53bad7515b66dc5e72a54a6ece60b31d6610a37ba1d2ead32300eb958773d6d", func := "loop.example/g00899/laws.FnExactDataField", spec := "fnExactDataField", inPlace := ["sync/atomic.LoadUint32", "(*internal/sync.Mutex).Lock", "internal/race.Disable", "sync/atomic.CompareAndSwapInt32", "internal/race.Enable", "internal/race.Acquire", "(*internal/sync.Mutex).lockSlow", "internal/sync.runtime_canSpin", "internal/sync.runtime_doSpin", "internal/sync.throw", "internal/sync.runtime_nanotime", "internal/sync.runtime_SemacquireMutex", "sync/atomic.AddInt32", "(*internal/sync.Mutex).Unlock", "internal/race.ReleaseMerge", "(*internal/sync.Mutex).unlockSlow", "internal/sync.fatal", "internal/sync.runtime_Semrelease", "sync/atomic.StoreUint32"], unfollowed := true, recurses := true, named := ["loop.example/g00899/impl.layouts", "loop.example/g00899/impl.groupedBytes", "loop.example/g00899/impl.clockedBytes", "loop.example/g00899/impl.checkOnce", "loop.example/g00899/impl.checkTable"], apart := false, laid := [("loop.example/g00899/impl.clockedBytes", laid_loop_example_g00899_impl_clockedBytes), ("loop.example/g00899/impl.groupedBytes", laid_loop_example_g00899_impl_groupedBytes), ("loop.example/g00899/impl.layouts", laid_loop_example_g00899_impl_layouts)] }
def FnExactDataFieldSaid : Prop := fnExactDataFieldRow.holds Tryd.pinned (OpenSpec.ofChange fnExactDataFieldSpec)

/-- ITS FALSE NEIGHBOUR: 'it returns false'. Refute it at one input. -/
def fnExactDataFieldWrong : ChangeSpec := { name := "fnExactDataField", vars := ["loop.example/g00899/impl.layouts", "loop.example/g00899/impl.groupedBytes", "loop.example/g00899/impl.clockedBytes", "loop.example/g00899/impl.checkOnce", "loop.example/g00899/impl.checkTable"], fn := fun _ => fun
  | [d1, d2, g1, g2, g3, g4, g5] => { results := [.lit (.bool false)], args := [d1, d2], vars := [g1, g2, g3, g4, g5] }
  | _ => none }
def FnExactDataFieldWrongFalsely : Prop := fnExactDataFieldRow.holds Tryd.pinned (OpenSpec.ofChange fnExactDataFieldWrong)

/-- 'laws.FnExactSectorCells': WHATEVER THE INPUT: true; the input reads as it did. -/
def fnExactSectorCellsSpec : ChangeSpec := { name := "fnExactSectorCells", vars := ["loop.example/g00899/impl.layouts", "loop.example/g00899/impl.groupedBytes", "loop.example/g00899/impl.clockedBytes", "loop.example/g00899/impl.checkOnce", "loop.example/g00899/impl.checkTable", "loop.example/g00899/impl.groupCodes"], fn := fun _ => fun
  | [d1, d2, g1, g2, g3, g4, g5, g6] => { results := [.lit (.bool true)], args := [d1, d2], vars := [g1, g2, g3, g4, g5, g6] }
  | _ => none }
def fnExactSectorCellsRow : OpenClaim := { program := "ytjifiibaodjflabdoor", sum := "f53bad7515b66dc5e72a54a6ece60b31d6610a37ba1d2ead32300eb958773d6d", func := "loop.example/g00899/laws.FnExactSectorCells", spec := "fnExactSectorCells", inPlace := ["internal/abi.NoEscape", "internal/bytealg.MakeNoZero", "sync/atomic.LoadUint32", "(*internal/sync.Mutex).Lock", "internal/race.Disable", "sync/atomic.CompareAndSwapInt32", "internal/race.Enable", "internal/race.Acquire", "(*internal/sync.Mutex).lockSlow", "internal/sync.runtime_canSpin", "internal/sync.runtime_doSpin", "internal/sync.throw", "internal/sync.runtime_nanotime", "internal/sync.runtime_SemacquireMutex", "sync/atomic.AddInt32", "(*internal/sync.Mutex).Unlock", "internal/race.ReleaseMerge", "(*internal/sync.Mutex).unlockSlow", "internal/sync.fatal", "internal/sync.runtime_Semrelease", "sync/atomic.StoreUint32"], unfollowed := true, recurses := true, named := ["loop.example/g00899/impl.layouts", "loop.example/g00899/impl.groupedBytes", "loop.example/g00899/impl.clockedBytes", "loop.example/g00899/impl.checkOnce", "loop.example/g00899/impl.checkTable", "loop.example/g00899/impl.groupCodes"], apart := false, laid := [("loop.example/g00899/impl.groupCodes", laid_loop_example_g00899_impl_groupCodes), ("loop.example/g00899/impl.clockedBytes", laid_loop_example_g00899_impl_clockedBytes), ("loop.example/g00899/impl.groupedBytes", laid_loop_example_g00899_impl_groupedBytes), ("loop.example/g00899/impl.layouts", laid_loop_example_g00899_impl_layouts)] }
def FnExactSectorCellsSaid : Prop := fnExactSectorCellsRow.holds Tryd.pinned (OpenSpec.ofChange fnExactSectorCellsSpec)

/-- ITS FALSE NEIGHBOUR: 'it returns false'. Refute it at one input. -/
def fnExactSectorCellsWrong : ChangeSpec := { name := "fnExactSectorCells", vars := ["loop.example/g00899/impl.layouts", "loop.example/g00899/impl.groupedBytes", "loop.example/g00899/impl.clockedBytes", "loop.example/g00899/impl.checkOnce", "loop.example/g00899/impl.checkTable", "loop.example/g00899/impl.groupCodes"], fn := fun _ => fun
  | [d1, d2, g1, g2, g3, g4, g5, g6] => { results := [.lit (.bool false)], args := [d1, d2], vars := [g1, g2, g3, g4, g5, g6] }
  | _ => none }
def FnExactSectorCellsWrongFalsely : Prop := fnExactSectorCellsRow.holds Tryd.pinned (OpenSpec.ofChange fnExactSectorCellsWrong)

/-- 'laws.FnExactNearestGcr': WHATEVER THE INPUT: true; the input reads as it did. -/
def fnExactNearestGcrSpec : ChangeSpec := { name := "fnExactNearestGcr", vars := ["loop.example/g00899/impl.groupCodes"], fn := fun _ => fun
  | [d, g1] => { results := [.lit (.bool true)], args := [d], vars := [g1] }
  | _ => none }
def fnExactNearestGcrRow : OpenClaim := { program := "ytjifiibaodjflabdoor", sum := "f53bad7515b66dc5e72a54a6ece60b31d6610a37ba1d2ead32300eb958773d6d", func := "loop.example/g00899/laws.FnExactNearestGcr", spec := "fnExactNearestGcr", named := ["loop.example/g00899/impl.groupCodes"], apart := false, laid := [("loop.example/g00899/impl.groupCodes", laid_loop_example_g00899_impl_groupCodes)] }
def FnExactNearestGcrSaid : Prop := fnExactNearestGcrRow.holds Tryd.pinned (OpenSpec.ofChange fnExactNearestGcrSpec)

/-- ITS FALSE NEIGHBOUR: 'it returns false'. Refute it at one input. -/
def fnExactNearestGcrWrong : ChangeSpec := { name := "fnExactNearestGcr", vars := ["loop.example/g00899/impl.groupCodes"], fn := fun _ => fun
  | [d, g1] => { results := [.lit (.bool false)], args := [d], vars := [g1] }
  | _ => none }
def FnExactNearestGcrWrongFalsely : Prop := fnExactNearestGcrRow.holds Tryd.pinned (OpenSpec.ofChange fnExactNearestGcrWrong)

/-- 'laws.FnExactRepairGcr': WHATEVER THE INPUT: true; the input reads as it did. -/
def fnExactRepairGcrSpec : ChangeSpec := { name := "fnExactRepairGcr", vars := ["loop.example/g00899/impl.groupCodes"], fn := fun _ => fun
  | [d, g1] => { results := [.lit (.bool true)], args := [d], vars := [g1] }
  | _ => none }
def fnExactRepairGcrRow : OpenClaim := { program := "ytjifiibaodjflabdoor", sum := "f53bad7515b66dc5e72a54a6ece60b31d6610a37ba1d2ead32300eb958773d6d", func := "loop.example/g00899/laws.FnExactRepairGcr", spec := "fnExactRepairGcr", inPlace := ["internal/abi.NoEscape"], unfollowed := true, recurses := true, named := ["loop.example/g00899/impl.groupCodes"], apart := false, laid := [("loop.example/g00899/impl.groupCodes", laid_loop_example_g00899_impl_groupCodes)] }
def FnExactRepairGcrSaid : Prop := fnExactRepairGcrRow.holds Tryd.pinned (OpenSpec.ofChange fnExactRepairGcrSpec)

/-- ITS FALSE NEIGHBOUR: 'it returns false'. Refute it at one input. -/
def fnExactRepairGcrWrong : ChangeSpec := { name := "fnExactRepairGcr", vars := ["loop.example/g00899/impl.groupCodes"], fn := fun _ => fun
  | [d, g1] => { results := [.lit (.bool false)], args := [d], vars := [g1] }
  | _ => none }
def FnExactRepairGcrWrongFalsely : Prop := fnExactRepairGcrRow.holds Tryd.pinned (OpenSpec.ofChange fnExactRepairGcrWrong)

/-- 'laws.FnGcrRepair': WHATEVER THE INPUT: true; the input reads as it did. -/
def fnGcrRepairSpec : ChangeSpec := { name := "fnGcrRepair", vars := ["loop.example/g00899/impl.groupCodes"], fn := fun _ => fun
  | [d1, d2, g1] => { results := [.lit (.bool true)], args := [d1, d2], vars := [g1] }
  | _ => none }
def fnGcrRepairRow : OpenClaim := { program := "ytjifiibaodjflabdoor", sum := "f53bad7515b66dc5e72a54a6ece60b31d6610a37ba1d2ead32300eb958773d6d", func := "loop.example/g00899/laws.FnGcrRepair", spec := "fnGcrRepair", inPlace := ["internal/abi.NoEscape"], unfollowed := true, recurses := true, named := ["loop.example/g00899/impl.groupCodes"], apart := false, laid := [("loop.example/g00899/impl.groupCodes", laid_loop_example_g00899_impl_groupCodes)] }
def FnGcrRepairSaid : Prop := fnGcrRepairRow.holds Tryd.pinned (OpenSpec.ofChange fnGcrRepairSpec)

/-- ITS FALSE NEIGHBOUR: 'it returns false'. Refute it at one input. -/
def fnGcrRepairWrong : ChangeSpec := { name := "fnGcrRepair", vars := ["loop.example/g00899/impl.groupCodes"], fn := fun _ => fun
  | [d1, d2, g1] => { results := [.lit (.bool false)], args := [d1, d2], vars := [g1] }
  | _ => none }
def FnGcrRepairWrongFalsely : Prop := fnGcrRepairRow.holds Tryd.pinned (OpenSpec.ofChange fnGcrRepairWrong)

/- THE SECOND FORM. 'bulk': how many values and letters a reading holds, each counted each time it is reached (what is shared counts as often as it is met; a slice's spare places count too). A statement '..UptoSaid' is the law's where the arguments, and the package variables that the reading takes, are together of bulk at most 1048576: NARROWER than '..Said'. Prove '..Said' where nothing that the law and all that it calls make is longer than what came in: it says more and counts as full. Else prove '..UptoSaid'. A law counts once. -/
mutual
def uptoBulk {H : Type} : DataW H → Nat
  | .lit (.string bytes) => bytes.length + 1
  | .lit _ => 1
  | .nil => 1
  | .ptr d => uptoBulk d + 1
  | .slice elems spare => uptoBulkAll elems + uptoBulkAll spare + 1
  | .agg parts => uptoBulkAll parts + 1
  | .iface _ d => uptoBulk d + 1
  | .map entries => uptoBulkEntries entries + 1
  | .held _ => 1
def uptoBulkAll {H : Type} : List (DataW H) → Nat
  | [] => 0
  | d :: r => uptoBulk d + uptoBulkAll r
def uptoBulkEntries {H : Type} : List (Lit × DataW H) → Nat
  | [] => 0
  | x :: r => uptoBulkEntry x + uptoBulkEntries r
def uptoBulkEntry {H : Type} : Lit × DataW H → Nat
  | (.string bytes, d) => bytes.length + uptoBulk d + 1
  | (_, d) => uptoBulk d + 1
 end
def uptoSmall : (H : Type) → List (DataW H) → Bool := fun _ ds => decide (uptoBulkAll ds ≤ 1048576)
def OpenSpec.upto (s : _root_.Go.ChangeSpec) : _root_.Go.OpenSpec := { _root_.Go.OpenSpec.ofChange s with cond := some uptoSmall }

/-- 'laws.FnExactMarkCells', WHERE WHAT IT READS IS OF BULK AT MOST 1048576: true; the input reads as it did. -/
def fnExactMarkCellsUptoRow : OpenClaim := { program := "ytjifiibaodjflabdoor", sum := "f53bad7515b66dc5e72a54a6ece60b31d6610a37ba1d2ead32300eb958773d6d", func := "loop.example/g00899/laws.FnExactMarkCells", spec := "fnExactMarkCells", inPlace := ["internal/abi.NoEscape", "internal/bytealg.MakeNoZero"], unfollowed := true, recurses := true, named := ["loop.example/g00899/impl.groupedBytes", "loop.example/g00899/impl.clockedBytes", "loop.example/g00899/impl.groupCodes"], apart := false, laid := [("loop.example/g00899/impl.groupCodes", laid_loop_example_g00899_impl_groupCodes), ("loop.example/g00899/impl.clockedBytes", laid_loop_example_g00899_impl_clockedBytes), ("loop.example/g00899/impl.groupedBytes", laid_loop_example_g00899_impl_groupedBytes)], narrowed := true }
def FnExactMarkCellsUptoSaid : Prop := fnExactMarkCellsUptoRow.holds Tryd.pinned (OpenSpec.upto fnExactMarkCellsSpec)

/-- 'laws.FnExactEncodeBytes', WHERE WHAT IT READS IS OF BULK AT MOST 1048576: true; the input reads as it did. -/
def fnExactEncodeBytesUptoRow : OpenClaim := { program := "ytjifiibaodjflabdoor", sum := "f53bad7515b66dc5e72a54a6ece60b31d6610a37ba1d2ead32300eb958773d6d", func := "loop.example/g00899/laws.FnExactEncodeBytes", spec := "fnExactEncodeBytes", inPlace := ["internal/abi.NoEscape"], unfollowed := true, recurses := true, named := ["loop.example/g00899/impl.layouts", "loop.example/g00899/impl.groupCodes"], apart := false, laid := [("loop.example/g00899/impl.groupCodes", laid_loop_example_g00899_impl_groupCodes), ("loop.example/g00899/impl.layouts", laid_loop_example_g00899_impl_layouts)], narrowed := true }
def FnExactEncodeBytesUptoSaid : Prop := fnExactEncodeBytesUptoRow.holds Tryd.pinned (OpenSpec.upto fnExactEncodeBytesSpec)

/-- 'laws.FnExactIdField', WHERE WHAT IT READS IS OF BULK AT MOST 1048576: true; the input reads as it did. -/
def fnExactIdFieldUptoRow : OpenClaim := { program := "ytjifiibaodjflabdoor", sum := "f53bad7515b66dc5e72a54a6ece60b31d6610a37ba1d2ead32300eb958773d6d", func := "loop.example/g00899/laws.FnExactIdField", spec := "fnExactIdField", inPlace := ["sync/atomic.LoadUint32", "(*internal/sync.Mutex).Lock", "internal/race.Disable", "sync/atomic.CompareAndSwapInt32", "internal/race.Enable", "internal/race.Acquire", "(*internal/sync.Mutex).lockSlow", "internal/sync.runtime_canSpin", "internal/sync.runtime_doSpin", "internal/sync.throw", "internal/sync.runtime_nanotime", "internal/sync.runtime_SemacquireMutex", "sync/atomic.AddInt32", "(*internal/sync.Mutex).Unlock", "internal/race.ReleaseMerge", "(*internal/sync.Mutex).unlockSlow", "internal/sync.fatal", "internal/sync.runtime_Semrelease", "sync/atomic.StoreUint32"], unfollowed := true, recurses := true, named := ["loop.example/g00899/impl.layouts", "loop.example/g00899/impl.groupedBytes", "loop.example/g00899/impl.clockedBytes", "loop.example/g00899/impl.checkOnce", "loop.example/g00899/impl.checkTable"], apart := false, laid := [("loop.example/g00899/impl.clockedBytes", laid_loop_example_g00899_impl_clockedBytes), ("loop.example/g00899/impl.groupedBytes", laid_loop_example_g00899_impl_groupedBytes), ("loop.example/g00899/impl.layouts", laid_loop_example_g00899_impl_layouts)], narrowed := true }
def FnExactIdFieldUptoSaid : Prop := fnExactIdFieldUptoRow.holds Tryd.pinned (OpenSpec.upto fnExactIdFieldSpec)

/-- 'laws.FnExactDataField', WHERE WHAT IT READS IS OF BULK AT MOST 1048576: true; the input reads as it did. -/
def fnExactDataFieldUptoRow : OpenClaim := { program := "ytjifiibaodjflabdoor", sum := "f53bad7515b66dc5e72a54a6ece60b31d6610a37ba1d2ead32300eb958773d6d", func := "loop.example/g00899/laws.FnExactDataField", spec := "fnExactDataField", inPlace := ["sync/atomic.LoadUint32", "(*internal/sync.Mutex).Lock", "internal/race.Disable", "sync/atomic.CompareAndSwapInt32", "internal/race.Enable", "internal/race.Acquire", "(*internal/sync.Mutex).lockSlow", "internal/sync.runtime_canSpin", "internal/sync.runtime_doSpin", "internal/sync.throw", "internal/sync.runtime_nanotime", "internal/sync.runtime_SemacquireMutex", "sync/atomic.AddInt32", "(*internal/sync.Mutex).Unlock", "internal/race.ReleaseMerge", "(*internal/sync.Mutex).unlockSlow", "internal/sync.fatal", "internal/sync.runtime_Semrelease", "sync/atomic.StoreUint32"], unfollowed := true, recurses := true, named := ["loop.example/g00899/impl.layouts", "loop.example/g00899/impl.groupedBytes", "loop.example/g00899/impl.clockedBytes", "loop.example/g00899/impl.checkOnce", "loop.example/g00899/impl.checkTable"], apart := false, laid := [("loop.example/g00899/impl.clockedBytes", laid_loop_example_g00899_impl_clockedBytes), ("loop.example/g00899/impl.groupedBytes", laid_loop_example_g00899_impl_groupedBytes), ("loop.example/g00899/impl.layouts", laid_loop_example_g00899_impl_layouts)], narrowed := true }
def FnExactDataFieldUptoSaid : Prop := fnExactDataFieldUptoRow.holds Tryd.pinned (OpenSpec.upto fnExactDataFieldSpec)

/-- 'laws.FnExactSectorCells', WHERE WHAT IT READS IS OF BULK AT MOST 1048576: true; the input reads as it did. -/
def fnExactSectorCellsUptoRow : OpenClaim := { program := "ytjifiibaodjflabdoor", sum := "f53bad7515b66dc5e72a54a6ece60b31d6610a37ba1d2ead32300eb958773d6d", func := "loop.example/g00899/laws.FnExactSectorCells", spec := "fnExactSectorCells", inPlace := ["internal/abi.NoEscape", "internal/bytealg.MakeNoZero", "sync/atomic.LoadUint32", "(*internal/sync.Mutex).Lock", "internal/race.Disable", "sync/atomic.CompareAndSwapInt32", "internal/race.Enable", "internal/race.Acquire", "(*internal/sync.Mutex).lockSlow", "internal/sync.runtime_canSpin", "internal/sync.runtime_doSpin", "internal/sync.throw", "internal/sync.runtime_nanotime", "internal/sync.runtime_SemacquireMutex", "sync/atomic.AddInt32", "(*internal/sync.Mutex).Unlock", "internal/race.ReleaseMerge", "(*internal/sync.Mutex).unlockSlow", "internal/sync.fatal", "internal/sync.runtime_Semrelease", "sync/atomic.StoreUint32"], unfollowed := true, recurses := true, named := ["loop.example/g00899/impl.layouts", "loop.example/g00899/impl.groupedBytes", "loop.example/g00899/impl.clockedBytes", "loop.example/g00899/impl.checkOnce", "loop.example/g00899/impl.checkTable", "loop.example/g00899/impl.groupCodes"], apart := false, laid := [("loop.example/g00899/impl.groupCodes", laid_loop_example_g00899_impl_groupCodes), ("loop.example/g00899/impl.clockedBytes", laid_loop_example_g00899_impl_clockedBytes), ("loop.example/g00899/impl.groupedBytes", laid_loop_example_g00899_impl_groupedBytes), ("loop.example/g00899/impl.layouts", laid_loop_example_g00899_impl_layouts)], narrowed := true }
def FnExactSectorCellsUptoSaid : Prop := fnExactSectorCellsUptoRow.holds Tryd.pinned (OpenSpec.upto fnExactSectorCellsSpec)

/-- 'laws.FnExactNearestGcr', WHERE WHAT IT READS IS OF BULK AT MOST 1048576: true; the input reads as it did. -/
def fnExactNearestGcrUptoRow : OpenClaim := { program := "ytjifiibaodjflabdoor", sum := "f53bad7515b66dc5e72a54a6ece60b31d6610a37ba1d2ead32300eb958773d6d", func := "loop.example/g00899/laws.FnExactNearestGcr", spec := "fnExactNearestGcr", named := ["loop.example/g00899/impl.groupCodes"], apart := false, laid := [("loop.example/g00899/impl.groupCodes", laid_loop_example_g00899_impl_groupCodes)], narrowed := true }
def FnExactNearestGcrUptoSaid : Prop := fnExactNearestGcrUptoRow.holds Tryd.pinned (OpenSpec.upto fnExactNearestGcrSpec)

/-- 'laws.FnExactRepairGcr', WHERE WHAT IT READS IS OF BULK AT MOST 1048576: true; the input reads as it did. -/
def fnExactRepairGcrUptoRow : OpenClaim := { program := "ytjifiibaodjflabdoor", sum := "f53bad7515b66dc5e72a54a6ece60b31d6610a37ba1d2ead32300eb958773d6d", func := "loop.example/g00899/laws.FnExactRepairGcr", spec := "fnExactRepairGcr", inPlace := ["internal/abi.NoEscape"], unfollowed := true, recurses := true, named := ["loop.example/g00899/impl.groupCodes"], apart := false, laid := [("loop.example/g00899/impl.groupCodes", laid_loop_example_g00899_impl_groupCodes)], narrowed := true }
def FnExactRepairGcrUptoSaid : Prop := fnExactRepairGcrUptoRow.holds Tryd.pinned (OpenSpec.upto fnExactRepairGcrSpec)

/-- 'laws.FnGcrRepair', WHERE WHAT IT READS IS OF BULK AT MOST 1048576: true; the input reads as it did. -/
def fnGcrRepairUptoRow : OpenClaim := { program := "ytjifiibaodjflabdoor", sum := "f53bad7515b66dc5e72a54a6ece60b31d6610a37ba1d2ead32300eb958773d6d", func := "loop.example/g00899/laws.FnGcrRepair", spec := "fnGcrRepair", inPlace := ["internal/abi.NoEscape"], unfollowed := true, recurses := true, named := ["loop.example/g00899/impl.groupCodes"], apart := false, laid := [("loop.example/g00899/impl.groupCodes", laid_loop_example_g00899_impl_groupCodes)], narrowed := true }
def FnGcrRepairUptoSaid : Prop := fnGcrRepairUptoRow.holds Tryd.pinned (OpenSpec.upto fnGcrRepairSpec)

end Rows
end Go.Proofs.YtjifiibaodjflabDoor
