/-
  NARROWER THAN 'FOR EVERY INPUT', by the rows' own cells (each row's printed sentence says how): FnExactGcrCode: laid · FnExactGcrValue: laid · FnExactEncodeGcr: laid · FnExactDecodeGcr: laid · FnExactGcrFaults: laid · FnExactNearestGcr: laid · FnExactRepairGcr: laid · FnGcr: laid · FnGcrRepair: laid.
  DERIVED. THE GIVEN ROWS OF THIS SEAT. 9 by the template 'for every input the law returns true; each argument reads behind the call as it read before'; 0 by the template 'total and deterministic' (their statements: YtkdhhkoablmbbabDoorTotals.lean).
  GIVEN WITH THE SEED: the statements are not yours to turn. If you find one false, say at which input.
  Laid BY PROGRAM, IN A SANDBOX (cutbox-rows.mjs): the forced cells as the released guide's own fill.sh prints them over the translation 202317010958f016… (all of the seat's roots in one cut). By AI agents, Wed Nov 11 2026. No macro, syntax, notation, axiom, sorry.
-/
import Derived.Test.YtkdhhkoablmbbabDoorChecked
import GoSem.Claim
import GoSem.ClaimJoined
import GoSem.ClaimMapViews
import Derived.JoinedTies
import Derived.KernelRfl
namespace Go.Proofs.YtkdhhkoablmbbabDoor
/- THE CELL 'sum', in the pinned program and in every row, IS THE sha256 OF THE DUMP (.gsa) THAT YtkdhhkoablmbbabDoorProg.lean LOADS. Nothing in Lean hashes anything: it is a label: what it is worth is what the hold of that sum in a sandbox is worth. -/
noncomputable def Tryd.pinned : Pinned := { name := "ytkdhhkoablmbbabdoor", sum := "202317010958f016b8832a8138424d9c10e1f3674e936508cdbb7d838a553d53", checked := Tryd.checked }
namespace Rows
def none {H : Type} : Left H := { results := [], args := [] }

/- WHAT THE LISTED PACKAGE-LEVEL VARIABLES READ AS WHEN THE CALL BEGINS. Each datum BY PROGRAM (the guide's laid-datum.mjs) off the statement by which the dump's own 'gosem.cut.vars' lays the variable. In a bare row this is a premise. The card (YtkdhhkoablmbbabDoorCards.lean) ties it to the program's text. -/
def laid_loop_example_g00899_impl_groupCodes {H : Type} : DataW H := .agg [.lit (.int .u8 10), .lit (.int .u8 11), .lit (.int .u8 18), .lit (.int .u8 19), .lit (.int .u8 14), .lit (.int .u8 15), .lit (.int .u8 22), .lit (.int .u8 23), .lit (.int .u8 9), .lit (.int .u8 25), .lit (.int .u8 26), .lit (.int .u8 27), .lit (.int .u8 13), .lit (.int .u8 29), .lit (.int .u8 30), .lit (.int .u8 21)]

/-- 'laws.FnExactGcrCode': WHATEVER THE INPUT: true; the input reads as it did. -/
def fnExactGcrCodeSpec : ChangeSpec := { name := "fnExactGcrCode", vars := ["loop.example/g00899/impl.groupCodes"], fn := fun _ => fun
  | [d, g1] => { results := [.lit (.bool true)], args := [d], vars := [g1] }
  | _ => none }
def fnExactGcrCodeRow : OpenClaim := { program := "ytkdhhkoablmbbabdoor", sum := "202317010958f016b8832a8138424d9c10e1f3674e936508cdbb7d838a553d53", func := "loop.example/g00899/laws.FnExactGcrCode", spec := "fnExactGcrCode", inPlace := ["internal/abi.NoEscape"], named := ["loop.example/g00899/impl.groupCodes"], apart := false, laid := [("loop.example/g00899/impl.groupCodes", laid_loop_example_g00899_impl_groupCodes)] }
def FnExactGcrCodeSaid : Prop := fnExactGcrCodeRow.holds Tryd.pinned (OpenSpec.ofChange fnExactGcrCodeSpec)

/-- ITS FALSE NEIGHBOUR: 'it returns false'. Refute it at one input. -/
def fnExactGcrCodeWrong : ChangeSpec := { name := "fnExactGcrCode", vars := ["loop.example/g00899/impl.groupCodes"], fn := fun _ => fun
  | [d, g1] => { results := [.lit (.bool false)], args := [d], vars := [g1] }
  | _ => none }
def FnExactGcrCodeWrongFalsely : Prop := fnExactGcrCodeRow.holds Tryd.pinned (OpenSpec.ofChange fnExactGcrCodeWrong)

/-- 'laws.FnExactGcrValue': WHATEVER THE INPUT: true; the input reads as it did. -/
def fnExactGcrValueSpec : ChangeSpec := { name := "fnExactGcrValue", vars := ["loop.example/g00899/impl.groupCodes"], fn := fun _ => fun
  | [d, g1] => { results := [.lit (.bool true)], args := [d], vars := [g1] }
  | _ => none }
def fnExactGcrValueRow : OpenClaim := { program := "ytkdhhkoablmbbabdoor", sum := "202317010958f016b8832a8138424d9c10e1f3674e936508cdbb7d838a553d53", func := "loop.example/g00899/laws.FnExactGcrValue", spec := "fnExactGcrValue", named := ["loop.example/g00899/impl.groupCodes"], apart := false, laid := [("loop.example/g00899/impl.groupCodes", laid_loop_example_g00899_impl_groupCodes)] }
def FnExactGcrValueSaid : Prop := fnExactGcrValueRow.holds Tryd.pinned (OpenSpec.ofChange fnExactGcrValueSpec)

/-- ITS FALSE NEIGHBOUR: 'it returns false'. Refute it at one input. -/
def fnExactGcrValueWrong : ChangeSpec := { name := "fnExactGcrValue", vars := ["loop.example/g00899/impl.groupCodes"], fn := fun _ => fun
  | [d, g1] => { results := [.lit (.bool false)], args := [d], vars := [g1] }
  | _ => none }
def FnExactGcrValueWrongFalsely : Prop := fnExactGcrValueRow.holds Tryd.pinned (OpenSpec.ofChange fnExactGcrValueWrong)

/-- 'laws.FnExactEncodeGcr': WHATEVER THE INPUT: true; the input reads as it did. -/
def fnExactEncodeGcrSpec : ChangeSpec := { name := "fnExactEncodeGcr", vars := ["loop.example/g00899/impl.groupCodes"], fn := fun _ => fun
  | [d, g1] => { results := [.lit (.bool true)], args := [d], vars := [g1] }
  | _ => none }
def fnExactEncodeGcrRow : OpenClaim := { program := "ytkdhhkoablmbbabdoor", sum := "202317010958f016b8832a8138424d9c10e1f3674e936508cdbb7d838a553d53", func := "loop.example/g00899/laws.FnExactEncodeGcr", spec := "fnExactEncodeGcr", inPlace := ["internal/abi.NoEscape"], named := ["loop.example/g00899/impl.groupCodes"], apart := false, laid := [("loop.example/g00899/impl.groupCodes", laid_loop_example_g00899_impl_groupCodes)] }
def FnExactEncodeGcrSaid : Prop := fnExactEncodeGcrRow.holds Tryd.pinned (OpenSpec.ofChange fnExactEncodeGcrSpec)

/-- ITS FALSE NEIGHBOUR: 'it returns false'. Refute it at one input. -/
def fnExactEncodeGcrWrong : ChangeSpec := { name := "fnExactEncodeGcr", vars := ["loop.example/g00899/impl.groupCodes"], fn := fun _ => fun
  | [d, g1] => { results := [.lit (.bool false)], args := [d], vars := [g1] }
  | _ => none }
def FnExactEncodeGcrWrongFalsely : Prop := fnExactEncodeGcrRow.holds Tryd.pinned (OpenSpec.ofChange fnExactEncodeGcrWrong)

/-- 'laws.FnExactDecodeGcr': WHATEVER THE INPUT: true; the input reads as it did. -/
def fnExactDecodeGcrSpec : ChangeSpec := { name := "fnExactDecodeGcr", vars := ["loop.example/g00899/impl.groupCodes"], fn := fun _ => fun
  | [d, g1] => { results := [.lit (.bool true)], args := [d], vars := [g1] }
  | _ => none }
def fnExactDecodeGcrRow : OpenClaim := { program := "ytkdhhkoablmbbabdoor", sum := "202317010958f016b8832a8138424d9c10e1f3674e936508cdbb7d838a553d53", func := "loop.example/g00899/laws.FnExactDecodeGcr", spec := "fnExactDecodeGcr", inPlace := ["internal/abi.NoEscape", "internal/bytealg.IndexByteString", "internal/bytealg.IndexString"], unfollowed := true, recurses := true, named := ["loop.example/g00899/impl.groupCodes", "internal/bytealg.MaxLen"], apart := false, laid := [("loop.example/g00899/impl.groupCodes", laid_loop_example_g00899_impl_groupCodes)] }
def FnExactDecodeGcrSaid : Prop := fnExactDecodeGcrRow.holds Tryd.pinned (OpenSpec.ofChange fnExactDecodeGcrSpec)

/-- ITS FALSE NEIGHBOUR: 'it returns false'. Refute it at one input. -/
def fnExactDecodeGcrWrong : ChangeSpec := { name := "fnExactDecodeGcr", vars := ["loop.example/g00899/impl.groupCodes"], fn := fun _ => fun
  | [d, g1] => { results := [.lit (.bool false)], args := [d], vars := [g1] }
  | _ => none }
def FnExactDecodeGcrWrongFalsely : Prop := fnExactDecodeGcrRow.holds Tryd.pinned (OpenSpec.ofChange fnExactDecodeGcrWrong)

/-- 'laws.FnExactGcrFaults': WHATEVER THE INPUT: true; the input reads as it did. -/
def fnExactGcrFaultsSpec : ChangeSpec := { name := "fnExactGcrFaults", vars := ["loop.example/g00899/impl.groupCodes"], fn := fun _ => fun
  | [d, g1] => { results := [.lit (.bool true)], args := [d], vars := [g1] }
  | _ => none }
def fnExactGcrFaultsRow : OpenClaim := { program := "ytkdhhkoablmbbabdoor", sum := "202317010958f016b8832a8138424d9c10e1f3674e936508cdbb7d838a553d53", func := "loop.example/g00899/laws.FnExactGcrFaults", spec := "fnExactGcrFaults", unfollowed := true, recurses := true, named := ["loop.example/g00899/impl.groupCodes"], apart := false, laid := [("loop.example/g00899/impl.groupCodes", laid_loop_example_g00899_impl_groupCodes)] }
def FnExactGcrFaultsSaid : Prop := fnExactGcrFaultsRow.holds Tryd.pinned (OpenSpec.ofChange fnExactGcrFaultsSpec)

/-- ITS FALSE NEIGHBOUR: 'it returns false'. Refute it at one input. -/
def fnExactGcrFaultsWrong : ChangeSpec := { name := "fnExactGcrFaults", vars := ["loop.example/g00899/impl.groupCodes"], fn := fun _ => fun
  | [d, g1] => { results := [.lit (.bool false)], args := [d], vars := [g1] }
  | _ => none }
def FnExactGcrFaultsWrongFalsely : Prop := fnExactGcrFaultsRow.holds Tryd.pinned (OpenSpec.ofChange fnExactGcrFaultsWrong)

/-- 'laws.FnExactNearestGcr': WHATEVER THE INPUT: true; the input reads as it did. -/
def fnExactNearestGcrSpec : ChangeSpec := { name := "fnExactNearestGcr", vars := ["loop.example/g00899/impl.groupCodes"], fn := fun _ => fun
  | [d, g1] => { results := [.lit (.bool true)], args := [d], vars := [g1] }
  | _ => none }
def fnExactNearestGcrRow : OpenClaim := { program := "ytkdhhkoablmbbabdoor", sum := "202317010958f016b8832a8138424d9c10e1f3674e936508cdbb7d838a553d53", func := "loop.example/g00899/laws.FnExactNearestGcr", spec := "fnExactNearestGcr", named := ["loop.example/g00899/impl.groupCodes"], apart := false, laid := [("loop.example/g00899/impl.groupCodes", laid_loop_example_g00899_impl_groupCodes)] }
def FnExactNearestGcrSaid : Prop := fnExactNearestGcrRow.holds Tryd.pinned (OpenSpec.ofChange fnExactNearestGcrSpec)

/-- ITS FALSE NEIGHBOUR: 'it returns false'. Refute it at one input. -/
def fnExactNearestGcrWrong : ChangeSpec := { name := "fnExactNearestGcr", vars := ["loop.example/g00899/impl.groupCodes"], fn := fun _ => fun
  | [d, g1] => { results := [.lit (.bool false)], args := [d], vars := [g1] }
  | _ => none }
def FnExactNearestGcrWrongFalsely : Prop := fnExactNearestGcrRow.holds Tryd.pinned (OpenSpec.ofChange fnExactNearestGcrWrong)

/-- 'laws.FnExactRepairGcr': WHATEVER THE INPUT: true; the input reads as it did. -/
def fnExactRepairGcrSpec : ChangeSpec := { name := "fnExactRepairGcr", vars := ["loop.example/g00899/impl.groupCodes"], fn := fun _ => fun
  | [d, g1] => { results := [.lit (.bool true)], args := [d], vars := [g1] }
  | _ => none }
def fnExactRepairGcrRow : OpenClaim := { program := "ytkdhhkoablmbbabdoor", sum := "202317010958f016b8832a8138424d9c10e1f3674e936508cdbb7d838a553d53", func := "loop.example/g00899/laws.FnExactRepairGcr", spec := "fnExactRepairGcr", inPlace := ["internal/abi.NoEscape"], unfollowed := true, recurses := true, named := ["loop.example/g00899/impl.groupCodes"], apart := false, laid := [("loop.example/g00899/impl.groupCodes", laid_loop_example_g00899_impl_groupCodes)] }
def FnExactRepairGcrSaid : Prop := fnExactRepairGcrRow.holds Tryd.pinned (OpenSpec.ofChange fnExactRepairGcrSpec)

/-- ITS FALSE NEIGHBOUR: 'it returns false'. Refute it at one input. -/
def fnExactRepairGcrWrong : ChangeSpec := { name := "fnExactRepairGcr", vars := ["loop.example/g00899/impl.groupCodes"], fn := fun _ => fun
  | [d, g1] => { results := [.lit (.bool false)], args := [d], vars := [g1] }
  | _ => none }
def FnExactRepairGcrWrongFalsely : Prop := fnExactRepairGcrRow.holds Tryd.pinned (OpenSpec.ofChange fnExactRepairGcrWrong)

/-- 'laws.FnGcr': WHATEVER THE INPUT: true; the input reads as it did. -/
def fnGcrSpec : ChangeSpec := { name := "fnGcr", vars := ["loop.example/g00899/impl.groupCodes"], fn := fun _ => fun
  | [d, g1] => { results := [.lit (.bool true)], args := [d], vars := [g1] }
  | _ => none }
def fnGcrRow : OpenClaim := { program := "ytkdhhkoablmbbabdoor", sum := "202317010958f016b8832a8138424d9c10e1f3674e936508cdbb7d838a553d53", func := "loop.example/g00899/laws.FnGcr", spec := "fnGcr", inPlace := ["internal/abi.NoEscape", "internal/bytealg.IndexByteString", "internal/bytealg.IndexString"], unfollowed := true, recurses := true, named := ["loop.example/g00899/impl.groupCodes", "internal/bytealg.MaxLen"], apart := false, laid := [("loop.example/g00899/impl.groupCodes", laid_loop_example_g00899_impl_groupCodes)] }
def FnGcrSaid : Prop := fnGcrRow.holds Tryd.pinned (OpenSpec.ofChange fnGcrSpec)

/-- ITS FALSE NEIGHBOUR: 'it returns false'. Refute it at one input. -/
def fnGcrWrong : ChangeSpec := { name := "fnGcr", vars := ["loop.example/g00899/impl.groupCodes"], fn := fun _ => fun
  | [d, g1] => { results := [.lit (.bool false)], args := [d], vars := [g1] }
  | _ => none }
def FnGcrWrongFalsely : Prop := fnGcrRow.holds Tryd.pinned (OpenSpec.ofChange fnGcrWrong)

/-- 'laws.FnGcrRepair': WHATEVER THE INPUT: true; the input reads as it did. -/
def fnGcrRepairSpec : ChangeSpec := { name := "fnGcrRepair", vars := ["loop.example/g00899/impl.groupCodes"], fn := fun _ => fun
  | [d1, d2, g1] => { results := [.lit (.bool true)], args := [d1, d2], vars := [g1] }
  | _ => none }
def fnGcrRepairRow : OpenClaim := { program := "ytkdhhkoablmbbabdoor", sum := "202317010958f016b8832a8138424d9c10e1f3674e936508cdbb7d838a553d53", func := "loop.example/g00899/laws.FnGcrRepair", spec := "fnGcrRepair", inPlace := ["internal/abi.NoEscape"], unfollowed := true, recurses := true, named := ["loop.example/g00899/impl.groupCodes"], apart := false, laid := [("loop.example/g00899/impl.groupCodes", laid_loop_example_g00899_impl_groupCodes)] }
def FnGcrRepairSaid : Prop := fnGcrRepairRow.holds Tryd.pinned (OpenSpec.ofChange fnGcrRepairSpec)

/-- ITS FALSE NEIGHBOUR: 'it returns false'. Refute it at one input. -/
def fnGcrRepairWrong : ChangeSpec := { name := "fnGcrRepair", vars := ["loop.example/g00899/impl.groupCodes"], fn := fun _ => fun
  | [d1, d2, g1] => { results := [.lit (.bool false)], args := [d1, d2], vars := [g1] }
  | _ => none }
def FnGcrRepairWrongFalsely : Prop := fnGcrRepairRow.holds Tryd.pinned (OpenSpec.ofChange fnGcrRepairWrong)

/- THE SECOND FORM. 'bulk': how many values and letters a reading holds, each counted each time it is reached (what is shared counts as often as it is met; a slice's spare places count too). A statement '..UptoSaid' is the law's where the arguments, and the package variables that the reading takes, are together of bulk at most 1048576: NARROWER than '..Said'. Prove '..Said' where nothing that the law and all that it calls make is longer than what came in: it says more and counts as full. Else prove '..UptoSaid'. A law counts once. -/
mutual
def uptoBulk {H : Type} : DataW H → Nat
  | .lit (.string bytes) => bytes.length + 1
  | .lit _ => 1
  | .nil => 1
  | .ptr d => uptoBulk d + 1
  | .slice elems spare => uptoBulkAll elems + uptoBulkAll spare + 1
  | .agg parts => uptoBulkAll parts + 1
  | .iface _ d => uptoBulk d + 1
  | .map entries => uptoBulkEntries entries + 1
  | .held _ => 1
def uptoBulkAll {H : Type} : List (DataW H) → Nat
  | [] => 0
  | d :: r => uptoBulk d + uptoBulkAll r
def uptoBulkEntries {H : Type} : List (Lit × DataW H) → Nat
  | [] => 0
  | x :: r => uptoBulkEntry x + uptoBulkEntries r
def uptoBulkEntry {H : Type} : Lit × DataW H → Nat
  | (.string bytes, d) => bytes.length + uptoBulk d + 1
  | (_, d) => uptoBulk d + 1
 end
def uptoSmall : (H : Type) → List (DataW H) → Bool := fun _ ds => decide (uptoBulkAll ds ≤ 1048576)
def OpenSpec.upto (s : _root_.Go.ChangeSpec) : _root_.Go.OpenSpec := { _root_.Go.OpenSpec.ofChange s with cond := some uptoSmall }

/-- 'laws.FnExactGcrCode', WHERE WHAT IT READS IS OF BULK AT MOST 1048576: true; the input reads as it did. -/
def fnExactGcrCodeUptoRow : OpenClaim := { program := "ytkdhhkoablmbbabdoor", sum := "202317010958f016b8832a8138424d9c10e1f3674e936508cdbb7d838a553d53", func := "loop.example/g00899/laws.FnExactGcrCode", spec := "fnExactGcrCode", inPlace := ["internal/abi.NoEscape"], named := ["loop.example/g00899/impl.groupCodes"], apart := false, laid := [("loop.example/g00899/impl.groupCodes", laid_loop_example_g00899_impl_groupCodes)], narrowed := true }
def FnExactGcrCodeUptoSaid : Prop := fnExactGcrCodeUptoRow.holds Tryd.pinned (OpenSpec.upto fnExactGcrCodeSpec)

/-- 'laws.FnExactGcrValue', WHERE WHAT IT READS IS OF BULK AT MOST 1048576: true; the input reads as it did. -/
def fnExactGcrValueUptoRow : OpenClaim := { program := "ytkdhhkoablmbbabdoor", sum := "202317010958f016b8832a8138424d9c10e1f3674e936508cdbb7d838a553d53", func := "loop.example/g00899/laws.FnExactGcrValue", spec := "fnExactGcrValue", named := ["loop.example/g00899/impl.groupCodes"], apart := false, laid := [("loop.example/g00899/impl.groupCodes", laid_loop_example_g00899_impl_groupCodes)], narrowed := true }
def FnExactGcrValueUptoSaid : Prop := fnExactGcrValueUptoRow.holds Tryd.pinned (OpenSpec.upto fnExactGcrValueSpec)

/-- 'laws.FnExactEncodeGcr', WHERE WHAT IT READS IS OF BULK AT MOST 1048576: true; the input reads as it did. -/
def fnExactEncodeGcrUptoRow : OpenClaim := { program := "ytkdhhkoablmbbabdoor", sum := "202317010958f016b8832a8138424d9c10e1f3674e936508cdbb7d838a553d53", func := "loop.example/g00899/laws.FnExactEncodeGcr", spec := "fnExactEncodeGcr", inPlace := ["internal/abi.NoEscape"], named := ["loop.example/g00899/impl.groupCodes"], apart := false, laid := [("loop.example/g00899/impl.groupCodes", laid_loop_example_g00899_impl_groupCodes)], narrowed := true }
def FnExactEncodeGcrUptoSaid : Prop := fnExactEncodeGcrUptoRow.holds Tryd.pinned (OpenSpec.upto fnExactEncodeGcrSpec)

/-- 'laws.FnExactDecodeGcr', WHERE WHAT IT READS IS OF BULK AT MOST 1048576: true; the input reads as it did. -/
def fnExactDecodeGcrUptoRow : OpenClaim := { program := "ytkdhhkoablmbbabdoor", sum := "202317010958f016b8832a8138424d9c10e1f3674e936508cdbb7d838a553d53", func := "loop.example/g00899/laws.FnExactDecodeGcr", spec := "fnExactDecodeGcr", inPlace := ["internal/abi.NoEscape", "internal/bytealg.IndexByteString", "internal/bytealg.IndexString"], unfollowed := true, recurses := true, named := ["loop.example/g00899/impl.groupCodes", "internal/bytealg.MaxLen"], apart := false, laid := [("loop.example/g00899/impl.groupCodes", laid_loop_example_g00899_impl_groupCodes)], narrowed := true }
def FnExactDecodeGcrUptoSaid : Prop := fnExactDecodeGcrUptoRow.holds Tryd.pinned (OpenSpec.upto fnExactDecodeGcrSpec)

/-- 'laws.FnExactGcrFaults', WHERE WHAT IT READS IS OF BULK AT MOST 1048576: true; the input reads as it did. -/
def fnExactGcrFaultsUptoRow : OpenClaim := { program := "ytkdhhkoablmbbabdoor", sum := "202317010958f016b8832a8138424d9c10e1f3674e936508cdbb7d838a553d53", func := "loop.example/g00899/laws.FnExactGcrFaults", spec := "fnExactGcrFaults", unfollowed := true, recurses := true, named := ["loop.example/g00899/impl.groupCodes"], apart := false, laid := [("loop.example/g00899/impl.groupCodes", laid_loop_example_g00899_impl_groupCodes)], narrowed := true }
def FnExactGcrFaultsUptoSaid : Prop := fnExactGcrFaultsUptoRow.holds Tryd.pinned (OpenSpec.upto fnExactGcrFaultsSpec)

/-- 'laws.FnExactNearestGcr', WHERE WHAT IT READS IS OF BULK AT MOST 1048576: true; the input reads as it did. -/
def fnExactNearestGcrUptoRow : OpenClaim := { program := "ytkdhhkoablmbbabdoor", sum := "202317010958f016b8832a8138424d9c10e1f3674e936508cdbb7d838a553d53", func := "loop.example/g00899/laws.FnExactNearestGcr", spec := "fnExactNearestGcr", named := ["loop.example/g00899/impl.groupCodes"], apart := false, laid := [("loop.example/g00899/impl.groupCodes", laid_loop_example_g00899_impl_groupCodes)], narrowed := true }
def FnExactNearestGcrUptoSaid : Prop := fnExactNearestGcrUptoRow.holds Tryd.pinned (OpenSpec.upto fnExactNearestGcrSpec)

/-- 'laws.FnExactRepairGcr', WHERE WHAT IT READS IS OF BULK AT MOST 1048576: true; the input reads as it did. -/
def fnExactRepairGcrUptoRow : OpenClaim := { program := "ytkdhhkoablmbbabdoor", sum := "202317010958f016b8832a8138424d9c10e1f3674e936508cdbb7d838a553d53", func := "loop.example/g00899/laws.FnExactRepairGcr", spec := "fnExactRepairGcr", inPlace := ["internal/abi.NoEscape"], unfollowed := true, recurses := true, named := ["loop.example/g00899/impl.groupCodes"], apart := false, laid := [("loop.example/g00899/impl.groupCodes", laid_loop_example_g00899_impl_groupCodes)], narrowed := true }
def FnExactRepairGcrUptoSaid : Prop := fnExactRepairGcrUptoRow.holds Tryd.pinned (OpenSpec.upto fnExactRepairGcrSpec)

/-- 'laws.FnGcr', WHERE WHAT IT READS IS OF BULK AT MOST 1048576: true; the input reads as it did. -/
def fnGcrUptoRow : OpenClaim := { program := "ytkdhhkoablmbbabdoor", sum := "202317010958f016b8832a8138424d9c10e1f3674e936508cdbb7d838a553d53", func := "loop.example/g00899/laws.FnGcr", spec := "fnGcr", inPlace := ["internal/abi.NoEscape", "internal/bytealg.IndexByteString", "internal/bytealg.IndexString"], unfollowed := true, recurses := true, named := ["loop.example/g00899/impl.groupCodes", "internal/bytealg.MaxLen"], apart := false, laid := [("loop.example/g00899/impl.groupCodes", laid_loop_example_g00899_impl_groupCodes)], narrowed := true }
def FnGcrUptoSaid : Prop := fnGcrUptoRow.holds Tryd.pinned (OpenSpec.upto fnGcrSpec)

/-- 'laws.FnGcrRepair', WHERE WHAT IT READS IS OF BULK AT MOST 1048576: true; the input reads as it did. -/
def fnGcrRepairUptoRow : OpenClaim := { program := "ytkdhhkoablmbbabdoor", sum := "202317010958f016b8832a8138424d9c10e1f3674e936508cdbb7d838a553d53", func := "loop.example/g00899/laws.FnGcrRepair", spec := "fnGcrRepair", inPlace := ["internal/abi.NoEscape"], unfollowed := true, recurses := true, named := ["loop.example/g00899/impl.groupCodes"], apart := false, laid := [("loop.example/g00899/impl.groupCodes", laid_loop_example_g00899_impl_groupCodes)], narrowed := true }
def FnGcrRepairUptoSaid : Prop := fnGcrRepairUptoRow.holds Tryd.pinned (OpenSpec.upto fnGcrRepairSpec)

end Rows
end Go.Proofs.YtkdhhkoablmbbabDoor
