/-
  NARROWER THAN 'FOR EVERY INPUT', by the rows' own cells (each row's printed sentence says how): FnExactMarkCells: laid · FnExactIdField: laid · FnExactDataField: laid · FnExactDecodeGcr: laid · FnGcr: laid · FnExactSectorCells: laid · FnExactRawBytes: laid.
  DERIVED. THE GIVEN ROWS OF THIS SEAT. 7 by the template 'for every input the law returns true; each argument reads behind the call as it read before'; 0 by the template 'total and deterministic' (their statements: YtffefhgemmjkoaaDoorTotals.lean).
  GIVEN WITH THE SEED: the statements are not yours to turn. If you find one false, say at which input.
  Laid BY PROGRAM, IN A SANDBOX (cutbox-rows.mjs): the forced cells as the released guide's own fill.sh prints them over the translation 5bd136777b403d32… (all of the seat's roots in one cut). By AI agents, Wed Nov 11 2026. No macro, syntax, notation, axiom, sorry.
-/
import Derived.Test.YtffefhgemmjkoaaDoorChecked
import GoSem.Claim
import GoSem.ClaimJoined
import GoSem.ClaimMapViews
import Derived.JoinedTies
import Derived.KernelRfl
namespace Go.Proofs.YtffefhgemmjkoaaDoor
/- THE CELL 'sum', in the pinned program and in every row, IS THE sha256 OF THE DUMP (.gsa) THAT YtffefhgemmjkoaaDoorProg.lean LOADS. Nothing in Lean hashes anything: it is a label: what it is worth is what the hold of that sum in a sandbox is worth. -/
noncomputable def Tryd.pinned : Pinned := { name := "ytffefhgemmjkoaadoor", sum := "5bd136777b403d32ab81808f1b60b9edeae4d5732bf65b32cef00b03b02f5179", checked := Tryd.checked }
namespace Rows
def none {H : Type} : Left H := { results := [], args := [] }

/- WHAT THE LISTED PACKAGE-LEVEL VARIABLES READ AS WHEN THE CALL BEGINS. Each datum BY PROGRAM (the guide's laid-datum.mjs) off the statement by which the dump's own 'gosem.cut.vars' lays the variable. In a bare row this is a premise. The card (YtffefhgemmjkoaaDoorCards.lean) ties it to the program's text. -/
def laid_loop_example_g00899_impl_groupCodes {H : Type} : DataW H := .agg [.lit (.int .u8 10), .lit (.int .u8 11), .lit (.int .u8 18), .lit (.int .u8 19), .lit (.int .u8 14), .lit (.int .u8 15), .lit (.int .u8 22), .lit (.int .u8 23), .lit (.int .u8 9), .lit (.int .u8 25), .lit (.int .u8 26), .lit (.int .u8 27), .lit (.int .u8 13), .lit (.int .u8 29), .lit (.int .u8 30), .lit (.int .u8 21)]
def laid_loop_example_g00899_impl_clockedBytes {H : Type} : DataW H := .agg [.lit (.int .i64 0), .lit (.int .i64 254), .lit (.int .i64 251), .lit (.int .i64 248)]
def laid_loop_example_g00899_impl_groupedBytes {H : Type} : DataW H := .agg [.lit (.int .i64 0), .lit (.int .i64 8), .lit (.int .i64 7), .lit (.int .i64 6)]
def laid_loop_example_g00899_impl_layouts {H : Type} : DataW H := .agg [.agg [.lit (.int .i64 0), .lit (.string []), .lit (.string []), .lit (.string []), .lit (.string [])], .agg [.lit (.int .i64 16), .lit (.string [255]), .lit (.string [0, 0]), .lit (.string []), .lit (.string [])], .agg [.lit (.int .i64 16), .lit (.string [78]), .lit (.string [0, 0, 0]), .lit (.string []), .lit (.string [161, 161, 161])], .agg [.lit (.int .i64 10), .lit (.string [85]), .lit (.string []), .lit (.string [49, 49, 49, 49, 49, 49, 49, 49, 49, 49]), .lit (.string [])]]

/-- 'laws.FnExactMarkCells': WHATEVER THE INPUT: true; the input reads as it did. -/
def fnExactMarkCellsSpec : ChangeSpec := { name := "fnExactMarkCells", vars := ["loop.example/g00899/impl.groupedBytes", "loop.example/g00899/impl.clockedBytes", "loop.example/g00899/impl.groupCodes"], fn := fun _ => fun
  | [d1, d2, g1, g2, g3] => { results := [.lit (.bool true)], args := [d1, d2], vars := [g1, g2, g3] }
  | _ => none }
def fnExactMarkCellsRow : OpenClaim := { program := "ytffefhgemmjkoaadoor", sum := "5bd136777b403d32ab81808f1b60b9edeae4d5732bf65b32cef00b03b02f5179", func := "loop.example/g00899/laws.FnExactMarkCells", spec := "fnExactMarkCells", inPlace := ["internal/abi.NoEscape", "internal/bytealg.MakeNoZero"], unfollowed := true, recurses := true, named := ["loop.example/g00899/impl.groupedBytes", "loop.example/g00899/impl.clockedBytes", "loop.example/g00899/impl.groupCodes"], apart := false, laid := [("loop.example/g00899/impl.groupCodes", laid_loop_example_g00899_impl_groupCodes), ("loop.example/g00899/impl.clockedBytes", laid_loop_example_g00899_impl_clockedBytes), ("loop.example/g00899/impl.groupedBytes", laid_loop_example_g00899_impl_groupedBytes)] }
def FnExactMarkCellsSaid : Prop := fnExactMarkCellsRow.holds Tryd.pinned (OpenSpec.ofChange fnExactMarkCellsSpec)

/-- ITS FALSE NEIGHBOUR: 'it returns false'. Refute it at one input. -/
def fnExactMarkCellsWrong : ChangeSpec := { name := "fnExactMarkCells", vars := ["loop.example/g00899/impl.groupedBytes", "loop.example/g00899/impl.clockedBytes", "loop.example/g00899/impl.groupCodes"], fn := fun _ => fun
  | [d1, d2, g1, g2, g3] => { results := [.lit (.bool false)], args := [d1, d2], vars := [g1, g2, g3] }
  | _ => none }
def FnExactMarkCellsWrongFalsely : Prop := fnExactMarkCellsRow.holds Tryd.pinned (OpenSpec.ofChange fnExactMarkCellsWrong)

/-- 'laws.FnExactIdField': WHATEVER THE INPUT: true; the input reads as it did. -/
def fnExactIdFieldSpec : ChangeSpec := { name := "fnExactIdField", vars := ["loop.example/g00899/impl.layouts", "loop.example/g00899/impl.groupedBytes", "loop.example/g00899/impl.clockedBytes", "loop.example/g00899/impl.checkOnce", "loop.example/g00899/impl.checkTable"], fn := fun _ => fun
  | [d1, d2, g1, g2, g3, g4, g5] => { results := [.lit (.bool true)], args := [d1, d2], vars := [g1, g2, g3, g4, g5] }
  | _ => none }
def fnExactIdFieldRow : OpenClaim := { program := "ytffefhgemmjkoaadoor", sum := "5bd136777b403d32ab81808f1b60b9edeae4d5732bf65b32cef00b03b02f5179", func := "loop.example/g00899/laws.FnExactIdField", spec := "fnExactIdField", inPlace := ["sync/atomic.LoadUint32", "(*internal/sync.Mutex).Lock", "internal/race.Disable", "sync/atomic.CompareAndSwapInt32", "internal/race.Enable", "internal/race.Acquire", "(*internal/sync.Mutex).lockSlow", "internal/sync.runtime_canSpin", "internal/sync.runtime_doSpin", "internal/sync.throw", "internal/sync.runtime_nanotime", "internal/sync.runtime_SemacquireMutex", "sync/atomic.AddInt32", "(*internal/sync.Mutex).Unlock", "internal/race.ReleaseMerge", "(*internal/sync.Mutex).unlockSlow", "internal/sync.fatal", "internal/sync.runtime_Semrelease", "sync/atomic.StoreUint32"], unfollowed := true, recurses := true, named := ["loop.example/g00899/impl.layouts", "loop.example/g00899/impl.groupedBytes", "loop.example/g00899/impl.clockedBytes", "loop.example/g00899/impl.checkOnce", "loop.example/g00899/impl.checkTable"], apart := false, laid := [("loop.example/g00899/impl.clockedBytes", laid_loop_example_g00899_impl_clockedBytes), ("loop.example/g00899/impl.groupedBytes", laid_loop_example_g00899_impl_groupedBytes), ("loop.example/g00899/impl.layouts", laid_loop_example_g00899_impl_layouts)] }
def FnExactIdFieldSaid : Prop := fnExactIdFieldRow.holds Tryd.pinned (OpenSpec.ofChange fnExactIdFieldSpec)

/-- ITS FALSE NEIGHBOUR: 'it returns false'. Refute it at one input. -/
def fnExactIdFieldWrong : ChangeSpec := { name := "fnExactIdField", vars := ["loop.example/g00899/impl.layouts", "loop.example/g00899/impl.groupedBytes", "loop.example/g00899/impl.clockedBytes", "loop.example/g00899/impl.checkOnce", "loop.example/g00899/impl.checkTable"], fn := fun _ => fun
  | [d1, d2, g1, g2, g3, g4, g5] => { results := [.lit (.bool false)], args := [d1, d2], vars := [g1, g2, g3, g4, g5] }
  | _ => none }
def FnExactIdFieldWrongFalsely : Prop := fnExactIdFieldRow.holds Tryd.pinned (OpenSpec.ofChange fnExactIdFieldWrong)

/-- 'laws.FnExactDataField': WHATEVER THE INPUT: true; the input reads as it did. -/
def fnExactDataFieldSpec : ChangeSpec := { name := "fnExactDataField", vars := ["loop.example/g00899/impl.layouts", "loop.example/g00899/impl.groupedBytes", "loop.example/g00899/impl.clockedBytes", "loop.example/g00899/impl.checkOnce", "loop.example/g00899/impl.checkTable"], fn := fun _ => fun
  | [d1, d2, g1, g2, g3, g4, g5] => { results := [.lit (.bool true)], args := [d1, d2], vars := [g1, g2, g3, g4, g5] }
  | _ => none }
def fnExactDataFieldRow : OpenClaim := { program := "ytffefhgemmjkoaadoor", sum := "5bd136777b403d32ab81808f1b60b9edeae4d5732bf65b32cef00b03b02f5179", func := "loop.example/g00899/laws.FnExactDataField", spec := "fnExactDataField", inPlace := ["sync/atomic.LoadUint32", "(*internal/sync.Mutex).Lock", "internal/race.Disable", "sync/atomic.CompareAndSwapInt32", "internal/race.Enable", "internal/race.Acquire", "(*internal/sync.Mutex).lockSlow", "internal/sync.runtime_canSpin", "internal/sync.runtime_doSpin", "internal/sync.throw", "internal/sync.runtime_nanotime", "internal/sync.runtime_SemacquireMutex", "sync/atomic.AddInt32", "(*internal/sync.Mutex).Unlock", "internal/race.ReleaseMerge", "(*internal/sync.Mutex).unlockSlow", "internal/sync.fatal", "internal/sync.runtime_Semrelease", "sync/atomic.StoreUint32"], unfollowed := true, recurses := true, named := ["loop.example/g00899/impl.layouts", "loop.example/g00899/impl.groupedBytes", "loop.example/g00899/impl.clockedBytes", "loop.example/g00899/impl.checkOnce", "loop.example/g00899/impl.checkTable"], apart := false, laid := [("loop.example/g00899/impl.clockedBytes", laid_loop_example_g00899_impl_clockedBytes), ("loop.example/g00899/impl.groupedBytes", laid_loop_example_g00899_impl_groupedBytes), ("loop.example/g00899/impl.layouts", laid_loop_example_g00899_impl_layouts)] }
def FnExactDataFieldSaid : Prop := fnExactDataFieldRow.holds Tryd.pinned (OpenSpec.ofChange fnExactDataFieldSpec)

/-- ITS FALSE NEIGHBOUR: 'it returns false'. Refute it at one input. -/
def fnExactDataFieldWrong : ChangeSpec := { name := "fnExactDataField", vars := ["loop.example/g00899/impl.layouts", "loop.example/g00899/impl.groupedBytes", "loop.example/g00899/impl.clockedBytes", "loop.example/g00899/impl.checkOnce", "loop.example/g00899/impl.checkTable"], fn := fun _ => fun
  | [d1, d2, g1, g2, g3, g4, g5] => { results := [.lit (.bool false)], args := [d1, d2], vars := [g1, g2, g3, g4, g5] }
  | _ => none }
def FnExactDataFieldWrongFalsely : Prop := fnExactDataFieldRow.holds Tryd.pinned (OpenSpec.ofChange fnExactDataFieldWrong)

/-- 'laws.FnExactDecodeGcr': WHATEVER THE INPUT: true; the input reads as it did. -/
def fnExactDecodeGcrSpec : ChangeSpec := { name := "fnExactDecodeGcr", vars := ["loop.example/g00899/impl.groupCodes"], fn := fun _ => fun
  | [d, g1] => { results := [.lit (.bool true)], args := [d], vars := [g1] }
  | _ => none }
def fnExactDecodeGcrRow : OpenClaim := { program := "ytffefhgemmjkoaadoor", sum := "5bd136777b403d32ab81808f1b60b9edeae4d5732bf65b32cef00b03b02f5179", func := "loop.example/g00899/laws.FnExactDecodeGcr", spec := "fnExactDecodeGcr", inPlace := ["internal/abi.NoEscape", "internal/bytealg.IndexByteString", "internal/bytealg.IndexString"], unfollowed := true, recurses := true, named := ["loop.example/g00899/impl.groupCodes", "internal/bytealg.MaxLen"], apart := false, laid := [("loop.example/g00899/impl.groupCodes", laid_loop_example_g00899_impl_groupCodes)] }
def FnExactDecodeGcrSaid : Prop := fnExactDecodeGcrRow.holds Tryd.pinned (OpenSpec.ofChange fnExactDecodeGcrSpec)

/-- ITS FALSE NEIGHBOUR: 'it returns false'. Refute it at one input. -/
def fnExactDecodeGcrWrong : ChangeSpec := { name := "fnExactDecodeGcr", vars := ["loop.example/g00899/impl.groupCodes"], fn := fun _ => fun
  | [d, g1] => { results := [.lit (.bool false)], args := [d], vars := [g1] }
  | _ => none }
def FnExactDecodeGcrWrongFalsely : Prop := fnExactDecodeGcrRow.holds Tryd.pinned (OpenSpec.ofChange fnExactDecodeGcrWrong)

/-- 'laws.FnGcr': WHATEVER THE INPUT: true; the input reads as it did. -/
def fnGcrSpec : ChangeSpec := { name := "fnGcr", vars := ["loop.example/g00899/impl.groupCodes"], fn := fun _ => fun
  | [d, g1] => { results := [.lit (.bool true)], args := [d], vars := [g1] }
  | _ => none }
def fnGcrRow : OpenClaim := { program := "ytffefhgemmjkoaadoor", sum := "5bd136777b403d32ab81808f1b60b9edeae4d5732bf65b32cef00b03b02f5179", func := "loop.example/g00899/laws.FnGcr", spec := "fnGcr", inPlace := ["internal/abi.NoEscape", "internal/bytealg.IndexByteString", "internal/bytealg.IndexString"], unfollowed := true, recurses := true, named := ["loop.example/g00899/impl.groupCodes", "internal/bytealg.MaxLen"], apart := false, laid := [("loop.example/g00899/impl.groupCodes", laid_loop_example_g00899_impl_groupCodes)] }
def FnGcrSaid : Prop := fnGcrRow.holds Tryd.pinned (OpenSpec.ofChange fnGcrSpec)

/-- ITS FALSE NEIGHBOUR: 'it returns false'. Refute it at one input. -/
def fnGcrWrong : ChangeSpec := { name := "fnGcr", vars := ["loop.example/g00899/impl.groupCodes"], fn := fun _ => fun
  | [d, g1] => { results := [.lit (.bool false)], args := [d], vars := [g1] }
  | _ => none }
def FnGcrWrongFalsely : Prop := fnGcrRow.holds Tryd.pinned (OpenSpec.ofChange fnGcrWrong)

/-- 'laws.FnExactSectorCells': WHATEVER THE INPUT: true; the input reads as it did. -/
def fnExactSectorCellsSpec : ChangeSpec := { name := "fnExactSectorCells", vars := ["loop.example/g00899/impl.layouts", "loop.example/g00899/impl.groupedBytes", "loop.example/g00899/impl.clockedBytes", "loop.example/g00899/impl.checkOnce", "loop.example/g00899/impl.checkTable", "loop.example/g00899/impl.groupCodes"], fn := fun _ => fun
  | [d1, d2, g1, g2, g3, g4, g5, g6] => { results := [.lit (.bool true)], args := [d1, d2], vars := [g1, g2, g3, g4, g5, g6] }
  | _ => none }
def fnExactSectorCellsRow : OpenClaim := { program := "ytffefhgemmjkoaadoor", sum := "5bd136777b403d32ab81808f1b60b9edeae4d5732bf65b32cef00b03b02f5179", func := "loop.example/g00899/laws.FnExactSectorCells", spec := "fnExactSectorCells", inPlace := ["internal/abi.NoEscape", "internal/bytealg.MakeNoZero", "sync/atomic.LoadUint32", "(*internal/sync.Mutex).Lock", "internal/race.Disable", "sync/atomic.CompareAndSwapInt32", "internal/race.Enable", "internal/race.Acquire", "(*internal/sync.Mutex).lockSlow", "internal/sync.runtime_canSpin", "internal/sync.runtime_doSpin", "internal/sync.throw", "internal/sync.runtime_nanotime", "internal/sync.runtime_SemacquireMutex", "sync/atomic.AddInt32", "(*internal/sync.Mutex).Unlock", "internal/race.ReleaseMerge", "(*internal/sync.Mutex).unlockSlow", "internal/sync.fatal", "internal/sync.runtime_Semrelease", "sync/atomic.StoreUint32"], unfollowed := true, recurses := true, named := ["loop.example/g00899/impl.layouts", "loop.example/g00899/impl.groupedBytes", "loop.example/g00899/impl.clockedBytes", "loop.example/g00899/impl.checkOnce", "loop.example/g00899/impl.checkTable", "loop.example/g00899/impl.groupCodes"], apart := false, laid := [("loop.example/g00899/impl.groupCodes", laid_loop_example_g00899_impl_groupCodes), ("loop.example/g00899/impl.clockedBytes", laid_loop_example_g00899_impl_clockedBytes), ("loop.example/g00899/impl.groupedBytes", laid_loop_example_g00899_impl_groupedBytes), ("loop.example/g00899/impl.layouts", laid_loop_example_g00899_impl_layouts)] }
def FnExactSectorCellsSaid : Prop := fnExactSectorCellsRow.holds Tryd.pinned (OpenSpec.ofChange fnExactSectorCellsSpec)

/-- ITS FALSE NEIGHBOUR: 'it returns false'. Refute it at one input. -/
def fnExactSectorCellsWrong : ChangeSpec := { name := "fnExactSectorCells", vars := ["loop.example/g00899/impl.layouts", "loop.example/g00899/impl.groupedBytes", "loop.example/g00899/impl.clockedBytes", "loop.example/g00899/impl.checkOnce", "loop.example/g00899/impl.checkTable", "loop.example/g00899/impl.groupCodes"], fn := fun _ => fun
  | [d1, d2, g1, g2, g3, g4, g5, g6] => { results := [.lit (.bool false)], args := [d1, d2], vars := [g1, g2, g3, g4, g5, g6] }
  | _ => none }
def FnExactSectorCellsWrongFalsely : Prop := fnExactSectorCellsRow.holds Tryd.pinned (OpenSpec.ofChange fnExactSectorCellsWrong)

/-- 'laws.FnExactRawBytes': WHATEVER THE INPUT: true; the input reads as it did. -/
def fnExactRawBytesSpec : ChangeSpec := { name := "fnExactRawBytes", vars := ["loop.example/g00899/impl.groupCodes"], fn := fun _ => fun
  | [d1, d2, g1] => { results := [.lit (.bool true)], args := [d1, d2], vars := [g1] }
  | _ => none }
def fnExactRawBytesRow : OpenClaim := { program := "ytffefhgemmjkoaadoor", sum := "5bd136777b403d32ab81808f1b60b9edeae4d5732bf65b32cef00b03b02f5179", func := "loop.example/g00899/laws.FnExactRawBytes", spec := "fnExactRawBytes", inPlace := ["internal/abi.NoEscape", "internal/bytealg.IndexByteString", "internal/bytealg.IndexString"], unfollowed := true, recurses := true, named := ["loop.example/g00899/impl.groupCodes", "internal/bytealg.MaxLen"], apart := false, laid := [("loop.example/g00899/impl.groupCodes", laid_loop_example_g00899_impl_groupCodes)] }
def FnExactRawBytesSaid : Prop := fnExactRawBytesRow.holds Tryd.pinned (OpenSpec.ofChange fnExactRawBytesSpec)

/-- ITS FALSE NEIGHBOUR: 'it returns false'. Refute it at one input. -/
def fnExactRawBytesWrong : ChangeSpec := { name := "fnExactRawBytes", vars := ["loop.example/g00899/impl.groupCodes"], fn := fun _ => fun
  | [d1, d2, g1] => { results := [.lit (.bool false)], args := [d1, d2], vars := [g1] }
  | _ => none }
def FnExactRawBytesWrongFalsely : Prop := fnExactRawBytesRow.holds Tryd.pinned (OpenSpec.ofChange fnExactRawBytesWrong)

/- THE SECOND FORM. 'bulk': how many values and letters a reading holds, each counted each time it is reached (what is shared counts as often as it is met; a slice's spare places count too). A statement '..UptoSaid' is the law's where the arguments, and the package variables that the reading takes, are together of bulk at most 1048576: NARROWER than '..Said'. Prove '..Said' where nothing that the law and all that it calls make is longer than what came in: it says more and counts as full. Else prove '..UptoSaid'. A law counts once. -/
mutual
def uptoBulk {H : Type} : DataW H → Nat
  | .lit (.string bytes) => bytes.length + 1
  | .lit _ => 1
  | .nil => 1
  | .ptr d => uptoBulk d + 1
  | .slice elems spare => uptoBulkAll elems + uptoBulkAll spare + 1
  | .agg parts => uptoBulkAll parts + 1
  | .iface _ d => uptoBulk d + 1
  | .map entries => uptoBulkEntries entries + 1
  | .held _ => 1
def uptoBulkAll {H : Type} : List (DataW H) → Nat
  | [] => 0
  | d :: r => uptoBulk d + uptoBulkAll r
def uptoBulkEntries {H : Type} : List (Lit × DataW H) → Nat
  | [] => 0
  | x :: r => uptoBulkEntry x + uptoBulkEntries r
def uptoBulkEntry {H : Type} : Lit × DataW H → Nat
  | (.string bytes, d) => bytes.length + uptoBulk d + 1
  | (_, d) => uptoBulk d + 1
 end
def uptoSmall : (H : Type) → List (DataW H) → Bool := fun _ ds => decide (uptoBulkAll ds ≤ 1048576)
def OpenSpec.upto (s : _root_.Go.ChangeSpec) : _root_.Go.OpenSpec := { _root_.Go.OpenSpec.ofChange s with cond := some uptoSmall }

/-- 'laws.FnExactMarkCells', WHERE WHAT IT READS IS OF BULK AT MOST 1048576: true; the input reads as it did. -/
def fnExactMarkCellsUptoRow : OpenClaim := { program := "ytffefhgemmjkoaadoor", sum := "5bd136777b403d32ab81808f1b60b9edeae4d5732bf65b32cef00b03b02f5179", func := "loop.example/g00899/laws.FnExactMarkCells", spec := "fnExactMarkCells", inPlace := ["internal/abi.NoEscape", "internal/bytealg.MakeNoZero"], unfollowed := true, recurses := true, named := ["loop.example/g00899/impl.groupedBytes", "loop.example/g00899/impl.clockedBytes", "loop.example/g00899/impl.groupCodes"], apart := false, laid := [("loop.example/g00899/impl.groupCodes", laid_loop_example_g00899_impl_groupCodes), ("loop.example/g00899/impl.clockedBytes", laid_loop_example_g00899_impl_clockedBytes), ("loop.example/g00899/impl.groupedBytes", laid_loop_example_g00899_impl_groupedBytes)], narrowed := true }
def FnExactMarkCellsUptoSaid : Prop := fnExactMarkCellsUptoRow.holds Tryd.pinned (OpenSpec.upto fnExactMarkCellsSpec)

/-- 'laws.FnExactIdField', WHERE WHAT IT READS IS OF BULK AT MOST 1048576: true; the input reads as it did. -/
def fnExactIdFieldUptoRow : OpenClaim := { program := "ytffefhgemmjkoaadoor", sum := "5bd136777b403d32ab81808f1b60b9edeae4d5732bf65b32cef00b03b02f5179", func := "loop.example/g00899/laws.FnExactIdField", spec := "fnExactIdField", inPlace := ["sync/atomic.LoadUint32", "(*internal/sync.Mutex).Lock", "internal/race.Disable", "sync/atomic.CompareAndSwapInt32", "internal/race.Enable", "internal/race.Acquire", "(*internal/sync.Mutex).lockSlow", "internal/sync.runtime_canSpin", "internal/sync.runtime_doSpin", "internal/sync.throw", "internal/sync.runtime_nanotime", "internal/sync.runtime_SemacquireMutex", "sync/atomic.AddInt32", "(*internal/sync.Mutex).Unlock", "internal/race.ReleaseMerge", "(*internal/sync.Mutex).unlockSlow", "internal/sync.fatal", "internal/sync.runtime_Semrelease", "sync/atomic.StoreUint32"], unfollowed := true, recurses := true, named := ["loop.example/g00899/impl.layouts", "loop.example/g00899/impl.groupedBytes", "loop.example/g00899/impl.clockedBytes", "loop.example/g00899/impl.checkOnce", "loop.example/g00899/impl.checkTable"], apart := false, laid := [("loop.example/g00899/impl.clockedBytes", laid_loop_example_g00899_impl_clockedBytes), ("loop.example/g00899/impl.groupedBytes", laid_loop_example_g00899_impl_groupedBytes), ("loop.example/g00899/impl.layouts", laid_loop_example_g00899_impl_layouts)], narrowed := true }
def FnExactIdFieldUptoSaid : Prop := fnExactIdFieldUptoRow.holds Tryd.pinned (OpenSpec.upto fnExactIdFieldSpec)

/-- 'laws.FnExactDataField', WHERE WHAT IT READS IS OF BULK AT MOST 1048576: true; the input reads as it did. -/
def fnExactDataFieldUptoRow : OpenClaim := { program := "ytffefhgemmjkoaadoor", sum := "5bd136777b403d32ab81808f1b60b9edeae4d5732bf65b32cef00b03b02f5179", func := "loop.example/g00899/laws.FnExactDataField", spec := "fnExactDataField", inPlace := ["sync/atomic.LoadUint32", "(*internal/sync.Mutex).Lock", "internal/race.Disable", "sync/atomic.CompareAndSwapInt32", "internal/race.Enable", "internal/race.Acquire", "(*internal/sync.Mutex).lockSlow", "internal/sync.runtime_canSpin", "internal/sync.runtime_doSpin", "internal/sync.throw", "internal/sync.runtime_nanotime", "internal/sync.runtime_SemacquireMutex", "sync/atomic.AddInt32", "(*internal/sync.Mutex).Unlock", "internal/race.ReleaseMerge", "(*internal/sync.Mutex).unlockSlow", "internal/sync.fatal", "internal/sync.runtime_Semrelease", "sync/atomic.StoreUint32"], unfollowed := true, recurses := true, named := ["loop.example/g00899/impl.layouts", "loop.example/g00899/impl.groupedBytes", "loop.example/g00899/impl.clockedBytes", "loop.example/g00899/impl.checkOnce", "loop.example/g00899/impl.checkTable"], apart := false, laid := [("loop.example/g00899/impl.clockedBytes", laid_loop_example_g00899_impl_clockedBytes), ("loop.example/g00899/impl.groupedBytes", laid_loop_example_g00899_impl_groupedBytes), ("loop.example/g00899/impl.layouts", laid_loop_example_g00899_impl_layouts)], narrowed := true }
def FnExactDataFieldUptoSaid : Prop := fnExactDataFieldUptoRow.holds Tryd.pinned (OpenSpec.upto fnExactDataFieldSpec)

/-- 'laws.FnExactDecodeGcr', WHERE WHAT IT READS IS OF BULK AT MOST 1048576: true; the input reads as it did. -/
def fnExactDecodeGcrUptoRow : OpenClaim := { program := "ytffefhgemmjkoaadoor", sum := "5bd136777b403d32ab81808f1b60b9edeae4d5732bf65b32cef00b03b02f5179", func := "loop.example/g00899/laws.FnExactDecodeGcr", spec := "fnExactDecodeGcr", inPlace := ["internal/abi.NoEscape", "internal/bytealg.IndexByteString", "internal/bytealg.IndexString"], unfollowed := true, recurses := true, named := ["loop.example/g00899/impl.groupCodes", "internal/bytealg.MaxLen"], apart := false, laid := [("loop.example/g00899/impl.groupCodes", laid_loop_example_g00899_impl_groupCodes)], narrowed := true }
def FnExactDecodeGcrUptoSaid : Prop := fnExactDecodeGcrUptoRow.holds Tryd.pinned (OpenSpec.upto fnExactDecodeGcrSpec)

/-- 'laws.FnGcr', WHERE WHAT IT READS IS OF BULK AT MOST 1048576: true; the input reads as it did. -/
def fnGcrUptoRow : OpenClaim := { program := "ytffefhgemmjkoaadoor", sum := "5bd136777b403d32ab81808f1b60b9edeae4d5732bf65b32cef00b03b02f5179", func := "loop.example/g00899/laws.FnGcr", spec := "fnGcr", inPlace := ["internal/abi.NoEscape", "internal/bytealg.IndexByteString", "internal/bytealg.IndexString"], unfollowed := true, recurses := true, named := ["loop.example/g00899/impl.groupCodes", "internal/bytealg.MaxLen"], apart := false, laid := [("loop.example/g00899/impl.groupCodes", laid_loop_example_g00899_impl_groupCodes)], narrowed := true }
def FnGcrUptoSaid : Prop := fnGcrUptoRow.holds Tryd.pinned (OpenSpec.upto fnGcrSpec)

/-- 'laws.FnExactSectorCells', WHERE WHAT IT READS IS OF BULK AT MOST 1048576: true; the input reads as it did. -/
def fnExactSectorCellsUptoRow : OpenClaim := { program := "ytffefhgemmjkoaadoor", sum := "5bd136777b403d32ab81808f1b60b9edeae4d5732bf65b32cef00b03b02f5179", func := "loop.example/g00899/laws.FnExactSectorCells", spec := "fnExactSectorCells", inPlace := ["internal/abi.NoEscape", "internal/bytealg.MakeNoZero", "sync/atomic.LoadUint32", "(*internal/sync.Mutex).Lock", "internal/race.Disable", "sync/atomic.CompareAndSwapInt32", "internal/race.Enable", "internal/race.Acquire", "(*internal/sync.Mutex).lockSlow", "internal/sync.runtime_canSpin", "internal/sync.runtime_doSpin", "internal/sync.throw", "internal/sync.runtime_nanotime", "internal/sync.runtime_SemacquireMutex", "sync/atomic.AddInt32", "(*internal/sync.Mutex).Unlock", "internal/race.ReleaseMerge", "(*internal/sync.Mutex).unlockSlow", "internal/sync.fatal", "internal/sync.runtime_Semrelease", "sync/atomic.StoreUint32"], unfollowed := true, recurses := true, named := ["loop.example/g00899/impl.layouts", "loop.example/g00899/impl.groupedBytes", "loop.example/g00899/impl.clockedBytes", "loop.example/g00899/impl.checkOnce", "loop.example/g00899/impl.checkTable", "loop.example/g00899/impl.groupCodes"], apart := false, laid := [("loop.example/g00899/impl.groupCodes", laid_loop_example_g00899_impl_groupCodes), ("loop.example/g00899/impl.clockedBytes", laid_loop_example_g00899_impl_clockedBytes), ("loop.example/g00899/impl.groupedBytes", laid_loop_example_g00899_impl_groupedBytes), ("loop.example/g00899/impl.layouts", laid_loop_example_g00899_impl_layouts)], narrowed := true }
def FnExactSectorCellsUptoSaid : Prop := fnExactSectorCellsUptoRow.holds Tryd.pinned (OpenSpec.upto fnExactSectorCellsSpec)

/-- 'laws.FnExactRawBytes', WHERE WHAT IT READS IS OF BULK AT MOST 1048576: true; the input reads as it did. -/
def fnExactRawBytesUptoRow : OpenClaim := { program := "ytffefhgemmjkoaadoor", sum := "5bd136777b403d32ab81808f1b60b9edeae4d5732bf65b32cef00b03b02f5179", func := "loop.example/g00899/laws.FnExactRawBytes", spec := "fnExactRawBytes", inPlace := ["internal/abi.NoEscape", "internal/bytealg.IndexByteString", "internal/bytealg.IndexString"], unfollowed := true, recurses := true, named := ["loop.example/g00899/impl.groupCodes", "internal/bytealg.MaxLen"], apart := false, laid := [("loop.example/g00899/impl.groupCodes", laid_loop_example_g00899_impl_groupCodes)], narrowed := true }
def FnExactRawBytesUptoSaid : Prop := fnExactRawBytesUptoRow.holds Tryd.pinned (OpenSpec.upto fnExactRawBytesSpec)

end Rows
end Go.Proofs.YtffefhgemmjkoaaDoor
