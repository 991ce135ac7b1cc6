/-
  No cell of these rows narrows 'for every input' (looked for: loops, veiled, ifaces, maps, wideKeys, modest, calm, conditions, laid).
  DERIVED. THE GIVEN ROWS OF THIS SEAT. 12 by the template 'for every input the law returns true; each argument reads behind the call as it read before'; 0 by the template 'total and deterministic' (their statements: YtpcfhfnlpcpofaaTotals.lean).
  GIVEN WITH THE SEED: the statements are not yours to turn. If you find one false, say at which input.
  Laid BY PROGRAM, IN A SANDBOX (cutbox-rows.mjs): the forced cells as the released guide's own fill.sh prints them over the translation 20a50225965b36d3… (all of the seat's roots in one cut). By AI agents, Wed Nov 11 2026. No macro, syntax, notation, axiom, sorry.
-/
import Derived.Test.YtpcfhfnlpcpofaaChecked
import GoSem.Claim
import GoSem.ClaimJoined
import GoSem.ClaimMapViews
import Derived.JoinedTies
import Derived.KernelRfl
namespace Go.Proofs.Ytpcfhfnlpcpofaa
/- THE CELL 'sum', in the pinned program and in every row, IS THE sha256 OF THE DUMP (.gsa) THAT YtpcfhfnlpcpofaaProg.lean LOADS. Nothing in Lean hashes anything: it is a label: what it is worth is what the hold of that sum in a sandbox is worth. -/
noncomputable def Try.pinned : Pinned := { name := "ytpcfhfnlpcpofaa", sum := "20a50225965b36d3e10a5ba1c3cbae3ce98688335c9a001022e9994f21d838fc", checked := Try.checked }
namespace Rows
def none {H : Type} : Left H := { results := [], args := [] }

/-- 'laws.FnExactValidDisc': WHATEVER THE INPUT: true; the input reads as it did. -/
def fnExactValidDiscSpec : ChangeSpec := { name := "fnExactValidDisc", fn := fun _ => fun
  | [d] => { results := [.lit (.bool true)], args := [d] }
  | _ => none }
def fnExactValidDiscRow : OpenClaim := { program := "ytpcfhfnlpcpofaa", sum := "20a50225965b36d3e10a5ba1c3cbae3ce98688335c9a001022e9994f21d838fc", func := "loop.example/g00899/laws.FnExactValidDisc", spec := "fnExactValidDisc", inPlace := ["internal/abi.NoEscape", "internal/bytealg.MakeNoZero"], unfollowed := true, recurses := true, apart := false }
def FnExactValidDiscSaid : Prop := fnExactValidDiscRow.holds Try.pinned (OpenSpec.ofChange fnExactValidDiscSpec)

/-- ITS FALSE NEIGHBOUR: 'it returns false'. Refute it at one input. -/
def fnExactValidDiscWrong : ChangeSpec := { name := "fnExactValidDisc", fn := fun _ => fun
  | [d] => { results := [.lit (.bool false)], args := [d] }
  | _ => none }
def FnExactValidDiscWrongFalsely : Prop := fnExactValidDiscRow.holds Try.pinned (OpenSpec.ofChange fnExactValidDiscWrong)

/-- 'laws.FnExactSameDisc': WHATEVER THE INPUT: true; the input reads as it did. -/
def fnExactSameDiscSpec : ChangeSpec := { name := "fnExactSameDisc", fn := fun _ => fun
  | [d1, d2] => { results := [.lit (.bool true)], args := [d1, d2] }
  | _ => none }
def fnExactSameDiscRow : OpenClaim := { program := "ytpcfhfnlpcpofaa", sum := "20a50225965b36d3e10a5ba1c3cbae3ce98688335c9a001022e9994f21d838fc", func := "loop.example/g00899/laws.FnExactSameDisc", spec := "fnExactSameDisc", apart := false }
def FnExactSameDiscSaid : Prop := fnExactSameDiscRow.holds Try.pinned (OpenSpec.ofChange fnExactSameDiscSpec)

/-- ITS FALSE NEIGHBOUR: 'it returns false'. Refute it at one input. -/
def fnExactSameDiscWrong : ChangeSpec := { name := "fnExactSameDisc", fn := fun _ => fun
  | [d1, d2] => { results := [.lit (.bool false)], args := [d1, d2] }
  | _ => none }
def FnExactSameDiscWrongFalsely : Prop := fnExactSameDiscRow.holds Try.pinned (OpenSpec.ofChange fnExactSameDiscWrong)

/-- 'laws.FnExactNewDisc': WHATEVER THE INPUT: true; the input reads as it did. -/
def fnExactNewDiscSpec : ChangeSpec := { name := "fnExactNewDisc", fn := fun _ => fun
  | [d1, d2, d3, d4] => { results := [.lit (.bool true)], args := [d1, d2, d3, d4] }
  | _ => none }
def fnExactNewDiscRow : OpenClaim := { program := "ytpcfhfnlpcpofaa", sum := "20a50225965b36d3e10a5ba1c3cbae3ce98688335c9a001022e9994f21d838fc", func := "loop.example/g00899/laws.FnExactNewDisc", spec := "fnExactNewDisc", inPlace := ["internal/abi.NoEscape", "internal/bytealg.MakeNoZero"], apart := false }
def FnExactNewDiscSaid : Prop := fnExactNewDiscRow.holds Try.pinned (OpenSpec.ofChange fnExactNewDiscSpec)

/-- ITS FALSE NEIGHBOUR: 'it returns false'. Refute it at one input. -/
def fnExactNewDiscWrong : ChangeSpec := { name := "fnExactNewDisc", fn := fun _ => fun
  | [d1, d2, d3, d4] => { results := [.lit (.bool false)], args := [d1, d2, d3, d4] }
  | _ => none }
def FnExactNewDiscWrongFalsely : Prop := fnExactNewDiscRow.holds Try.pinned (OpenSpec.ofChange fnExactNewDiscWrong)

/-- 'laws.FnExactSectorBytes': WHATEVER THE INPUT: true; the input reads as it did. -/
def fnExactSectorBytesSpec : ChangeSpec := { name := "fnExactSectorBytes", fn := fun _ => fun
  | [d] => { results := [.lit (.bool true)], args := [d] }
  | _ => none }
def fnExactSectorBytesRow : OpenClaim := { program := "ytpcfhfnlpcpofaa", sum := "20a50225965b36d3e10a5ba1c3cbae3ce98688335c9a001022e9994f21d838fc", func := "loop.example/g00899/laws.FnExactSectorBytes", spec := "fnExactSectorBytes", apart := false }
def FnExactSectorBytesSaid : Prop := fnExactSectorBytesRow.holds Try.pinned (OpenSpec.ofChange fnExactSectorBytesSpec)

/-- ITS FALSE NEIGHBOUR: 'it returns false'. Refute it at one input. -/
def fnExactSectorBytesWrong : ChangeSpec := { name := "fnExactSectorBytes", fn := fun _ => fun
  | [d] => { results := [.lit (.bool false)], args := [d] }
  | _ => none }
def FnExactSectorBytesWrongFalsely : Prop := fnExactSectorBytesRow.holds Try.pinned (OpenSpec.ofChange fnExactSectorBytesWrong)

/-- 'laws.FnExactSectorAt': WHATEVER THE INPUT: true; the input reads as it did. -/
def fnExactSectorAtSpec : ChangeSpec := { name := "fnExactSectorAt", fn := fun _ => fun
  | [d1, d2, d3, d4] => { results := [.lit (.bool true)], args := [d1, d2, d3, d4] }
  | _ => none }
def fnExactSectorAtRow : OpenClaim := { program := "ytpcfhfnlpcpofaa", sum := "20a50225965b36d3e10a5ba1c3cbae3ce98688335c9a001022e9994f21d838fc", func := "loop.example/g00899/laws.FnExactSectorAt", spec := "fnExactSectorAt", inPlace := ["internal/abi.NoEscape", "internal/bytealg.MakeNoZero"], unfollowed := true, recurses := true, apart := false }
def FnExactSectorAtSaid : Prop := fnExactSectorAtRow.holds Try.pinned (OpenSpec.ofChange fnExactSectorAtSpec)

/-- ITS FALSE NEIGHBOUR: 'it returns false'. Refute it at one input. -/
def fnExactSectorAtWrong : ChangeSpec := { name := "fnExactSectorAt", fn := fun _ => fun
  | [d1, d2, d3, d4] => { results := [.lit (.bool false)], args := [d1, d2, d3, d4] }
  | _ => none }
def FnExactSectorAtWrongFalsely : Prop := fnExactSectorAtRow.holds Try.pinned (OpenSpec.ofChange fnExactSectorAtWrong)

/-- 'laws.FnExactPutSector': WHATEVER THE INPUT: true; the input reads as it did. -/
def fnExactPutSectorSpec : ChangeSpec := { name := "fnExactPutSector", fn := fun _ => fun
  | [d1, d2, d3] => { results := [.lit (.bool true)], args := [d1, d2, d3] }
  | _ => none }
def fnExactPutSectorRow : OpenClaim := { program := "ytpcfhfnlpcpofaa", sum := "20a50225965b36d3e10a5ba1c3cbae3ce98688335c9a001022e9994f21d838fc", func := "loop.example/g00899/laws.FnExactPutSector", spec := "fnExactPutSector", inPlace := ["internal/abi.NoEscape", "internal/bytealg.MakeNoZero"], unfollowed := true, recurses := true, apart := false }
def FnExactPutSectorSaid : Prop := fnExactPutSectorRow.holds Try.pinned (OpenSpec.ofChange fnExactPutSectorSpec)

/-- ITS FALSE NEIGHBOUR: 'it returns false'. Refute it at one input. -/
def fnExactPutSectorWrong : ChangeSpec := { name := "fnExactPutSector", fn := fun _ => fun
  | [d1, d2, d3] => { results := [.lit (.bool false)], args := [d1, d2, d3] }
  | _ => none }
def FnExactPutSectorWrongFalsely : Prop := fnExactPutSectorRow.holds Try.pinned (OpenSpec.ofChange fnExactPutSectorWrong)

/-- 'laws.FnExactStatesOf': WHATEVER THE INPUT: true; the input reads as it did. -/
def fnExactStatesOfSpec : ChangeSpec := { name := "fnExactStatesOf", fn := fun _ => fun
  | [d] => { results := [.lit (.bool true)], args := [d] }
  | _ => none }
def fnExactStatesOfRow : OpenClaim := { program := "ytpcfhfnlpcpofaa", sum := "20a50225965b36d3e10a5ba1c3cbae3ce98688335c9a001022e9994f21d838fc", func := "loop.example/g00899/laws.FnExactStatesOf", spec := "fnExactStatesOf", inPlace := ["internal/abi.NoEscape", "internal/bytealg.MakeNoZero"], unfollowed := true, recurses := true, apart := false }
def FnExactStatesOfSaid : Prop := fnExactStatesOfRow.holds Try.pinned (OpenSpec.ofChange fnExactStatesOfSpec)

/-- ITS FALSE NEIGHBOUR: 'it returns false'. Refute it at one input. -/
def fnExactStatesOfWrong : ChangeSpec := { name := "fnExactStatesOf", fn := fun _ => fun
  | [d] => { results := [.lit (.bool false)], args := [d] }
  | _ => none }
def FnExactStatesOfWrongFalsely : Prop := fnExactStatesOfRow.holds Try.pinned (OpenSpec.ofChange fnExactStatesOfWrong)

/-- 'laws.FnExactChangedSectors': WHATEVER THE INPUT: true; the input reads as it did. -/
def fnExactChangedSectorsSpec : ChangeSpec := { name := "fnExactChangedSectors", fn := fun _ => fun
  | [d1, d2] => { results := [.lit (.bool true)], args := [d1, d2] }
  | _ => none }
def fnExactChangedSectorsRow : OpenClaim := { program := "ytpcfhfnlpcpofaa", sum := "20a50225965b36d3e10a5ba1c3cbae3ce98688335c9a001022e9994f21d838fc", func := "loop.example/g00899/laws.FnExactChangedSectors", spec := "fnExactChangedSectors", inPlace := ["internal/abi.NoEscape", "internal/bytealg.MakeNoZero"], unfollowed := true, recurses := true, apart := false }
def FnExactChangedSectorsSaid : Prop := fnExactChangedSectorsRow.holds Try.pinned (OpenSpec.ofChange fnExactChangedSectorsSpec)

/-- ITS FALSE NEIGHBOUR: 'it returns false'. Refute it at one input. -/
def fnExactChangedSectorsWrong : ChangeSpec := { name := "fnExactChangedSectors", fn := fun _ => fun
  | [d1, d2] => { results := [.lit (.bool false)], args := [d1, d2] }
  | _ => none }
def FnExactChangedSectorsWrongFalsely : Prop := fnExactChangedSectorsRow.holds Try.pinned (OpenSpec.ofChange fnExactChangedSectorsWrong)

/-- 'laws.FnExactDataOf': WHATEVER THE INPUT: true; the input reads as it did. -/
def fnExactDataOfSpec : ChangeSpec := { name := "fnExactDataOf", fn := fun _ => fun
  | [d] => { results := [.lit (.bool true)], args := [d] }
  | _ => none }
def fnExactDataOfRow : OpenClaim := { program := "ytpcfhfnlpcpofaa", sum := "20a50225965b36d3e10a5ba1c3cbae3ce98688335c9a001022e9994f21d838fc", func := "loop.example/g00899/laws.FnExactDataOf", spec := "fnExactDataOf", inPlace := ["internal/abi.NoEscape", "internal/bytealg.MakeNoZero"], unfollowed := true, recurses := true, apart := false }
def FnExactDataOfSaid : Prop := fnExactDataOfRow.holds Try.pinned (OpenSpec.ofChange fnExactDataOfSpec)

/-- ITS FALSE NEIGHBOUR: 'it returns false'. Refute it at one input. -/
def fnExactDataOfWrong : ChangeSpec := { name := "fnExactDataOf", fn := fun _ => fun
  | [d] => { results := [.lit (.bool false)], args := [d] }
  | _ => none }
def FnExactDataOfWrongFalsely : Prop := fnExactDataOfRow.holds Try.pinned (OpenSpec.ofChange fnExactDataOfWrong)

/-- 'laws.FnExactDiscOfData': WHATEVER THE INPUT: true; the input reads as it did. -/
def fnExactDiscOfDataSpec : ChangeSpec := { name := "fnExactDiscOfData", fn := fun _ => fun
  | [d1, d2, d3, d4, d5] => { results := [.lit (.bool true)], args := [d1, d2, d3, d4, d5] }
  | _ => none }
def fnExactDiscOfDataRow : OpenClaim := { program := "ytpcfhfnlpcpofaa", sum := "20a50225965b36d3e10a5ba1c3cbae3ce98688335c9a001022e9994f21d838fc", func := "loop.example/g00899/laws.FnExactDiscOfData", spec := "fnExactDiscOfData", apart := false }
def FnExactDiscOfDataSaid : Prop := fnExactDiscOfDataRow.holds Try.pinned (OpenSpec.ofChange fnExactDiscOfDataSpec)

/-- ITS FALSE NEIGHBOUR: 'it returns false'. Refute it at one input. -/
def fnExactDiscOfDataWrong : ChangeSpec := { name := "fnExactDiscOfData", fn := fun _ => fun
  | [d1, d2, d3, d4, d5] => { results := [.lit (.bool false)], args := [d1, d2, d3, d4, d5] }
  | _ => none }
def FnExactDiscOfDataWrongFalsely : Prop := fnExactDiscOfDataRow.holds Try.pinned (OpenSpec.ofChange fnExactDiscOfDataWrong)

/-- 'laws.FnExactTrackOf': WHATEVER THE INPUT: true; the input reads as it did. -/
def fnExactTrackOfSpec : ChangeSpec := { name := "fnExactTrackOf", fn := fun _ => fun
  | [d1, d2] => { results := [.lit (.bool true)], args := [d1, d2] }
  | _ => none }
def fnExactTrackOfRow : OpenClaim := { program := "ytpcfhfnlpcpofaa", sum := "20a50225965b36d3e10a5ba1c3cbae3ce98688335c9a001022e9994f21d838fc", func := "loop.example/g00899/laws.FnExactTrackOf", spec := "fnExactTrackOf", inPlace := ["internal/abi.NoEscape", "internal/bytealg.MakeNoZero"], unfollowed := true, recurses := true, apart := false }
def FnExactTrackOfSaid : Prop := fnExactTrackOfRow.holds Try.pinned (OpenSpec.ofChange fnExactTrackOfSpec)

/-- ITS FALSE NEIGHBOUR: 'it returns false'. Refute it at one input. -/
def fnExactTrackOfWrong : ChangeSpec := { name := "fnExactTrackOf", fn := fun _ => fun
  | [d1, d2] => { results := [.lit (.bool false)], args := [d1, d2] }
  | _ => none }
def FnExactTrackOfWrongFalsely : Prop := fnExactTrackOfRow.holds Try.pinned (OpenSpec.ofChange fnExactTrackOfWrong)

/-- 'laws.FnExactFillTrack': WHATEVER THE INPUT: true; the input reads as it did. -/
def fnExactFillTrackSpec : ChangeSpec := { name := "fnExactFillTrack", fn := fun _ => fun
  | [d1, d2, d3] => { results := [.lit (.bool true)], args := [d1, d2, d3] }
  | _ => none }
def fnExactFillTrackRow : OpenClaim := { program := "ytpcfhfnlpcpofaa", sum := "20a50225965b36d3e10a5ba1c3cbae3ce98688335c9a001022e9994f21d838fc", func := "loop.example/g00899/laws.FnExactFillTrack", spec := "fnExactFillTrack", inPlace := ["internal/abi.NoEscape", "internal/bytealg.MakeNoZero"], unfollowed := true, recurses := true, apart := false }
def FnExactFillTrackSaid : Prop := fnExactFillTrackRow.holds Try.pinned (OpenSpec.ofChange fnExactFillTrackSpec)

/-- ITS FALSE NEIGHBOUR: 'it returns false'. Refute it at one input. -/
def fnExactFillTrackWrong : ChangeSpec := { name := "fnExactFillTrack", fn := fun _ => fun
  | [d1, d2, d3] => { results := [.lit (.bool false)], args := [d1, d2, d3] }
  | _ => none }
def FnExactFillTrackWrongFalsely : Prop := fnExactFillTrackRow.holds Try.pinned (OpenSpec.ofChange fnExactFillTrackWrong)

/- THE SECOND FORM. 'bulk': how many values and letters a reading holds, each counted each time it is reached (what is shared counts as often as it is met; a slice's spare places count too). A statement '..UptoSaid' is the law's where the arguments, and the package variables that the reading takes, are together of bulk at most 1048576: NARROWER than '..Said'. Prove '..Said' where nothing that the law and all that it calls make is longer than what came in: it says more and counts as full. Else prove '..UptoSaid'. A law counts once. -/
mutual
def uptoBulk {H : Type} : DataW H → Nat
  | .lit (.string bytes) => bytes.length + 1
  | .lit _ => 1
  | .nil => 1
  | .ptr d => uptoBulk d + 1
  | .slice elems spare => uptoBulkAll elems + uptoBulkAll spare + 1
  | .agg parts => uptoBulkAll parts + 1
  | .iface _ d => uptoBulk d + 1
  | .map entries => uptoBulkEntries entries + 1
  | .held _ => 1
def uptoBulkAll {H : Type} : List (DataW H) → Nat
  | [] => 0
  | d :: r => uptoBulk d + uptoBulkAll r
def uptoBulkEntries {H : Type} : List (Lit × DataW H) → Nat
  | [] => 0
  | x :: r => uptoBulkEntry x + uptoBulkEntries r
def uptoBulkEntry {H : Type} : Lit × DataW H → Nat
  | (.string bytes, d) => bytes.length + uptoBulk d + 1
  | (_, d) => uptoBulk d + 1
 end
def uptoSmall : (H : Type) → List (DataW H) → Bool := fun _ ds => decide (uptoBulkAll ds ≤ 1048576)
def OpenSpec.upto (s : _root_.Go.ChangeSpec) : _root_.Go.OpenSpec := { _root_.Go.OpenSpec.ofChange s with cond := some uptoSmall }

/-- 'laws.FnExactValidDisc', WHERE WHAT IT READS IS OF BULK AT MOST 1048576: true; the input reads as it did. -/
def fnExactValidDiscUptoRow : OpenClaim := { program := "ytpcfhfnlpcpofaa", sum := "20a50225965b36d3e10a5ba1c3cbae3ce98688335c9a001022e9994f21d838fc", func := "loop.example/g00899/laws.FnExactValidDisc", spec := "fnExactValidDisc", inPlace := ["internal/abi.NoEscape", "internal/bytealg.MakeNoZero"], unfollowed := true, recurses := true, apart := false, narrowed := true }
def FnExactValidDiscUptoSaid : Prop := fnExactValidDiscUptoRow.holds Try.pinned (OpenSpec.upto fnExactValidDiscSpec)

/-- 'laws.FnExactSameDisc', WHERE WHAT IT READS IS OF BULK AT MOST 1048576: true; the input reads as it did. -/
def fnExactSameDiscUptoRow : OpenClaim := { program := "ytpcfhfnlpcpofaa", sum := "20a50225965b36d3e10a5ba1c3cbae3ce98688335c9a001022e9994f21d838fc", func := "loop.example/g00899/laws.FnExactSameDisc", spec := "fnExactSameDisc", apart := false, narrowed := true }
def FnExactSameDiscUptoSaid : Prop := fnExactSameDiscUptoRow.holds Try.pinned (OpenSpec.upto fnExactSameDiscSpec)

/-- 'laws.FnExactNewDisc', WHERE WHAT IT READS IS OF BULK AT MOST 1048576: true; the input reads as it did. -/
def fnExactNewDiscUptoRow : OpenClaim := { program := "ytpcfhfnlpcpofaa", sum := "20a50225965b36d3e10a5ba1c3cbae3ce98688335c9a001022e9994f21d838fc", func := "loop.example/g00899/laws.FnExactNewDisc", spec := "fnExactNewDisc", inPlace := ["internal/abi.NoEscape", "internal/bytealg.MakeNoZero"], apart := false, narrowed := true }
def FnExactNewDiscUptoSaid : Prop := fnExactNewDiscUptoRow.holds Try.pinned (OpenSpec.upto fnExactNewDiscSpec)

/-- 'laws.FnExactSectorBytes', WHERE WHAT IT READS IS OF BULK AT MOST 1048576: true; the input reads as it did. -/
def fnExactSectorBytesUptoRow : OpenClaim := { program := "ytpcfhfnlpcpofaa", sum := "20a50225965b36d3e10a5ba1c3cbae3ce98688335c9a001022e9994f21d838fc", func := "loop.example/g00899/laws.FnExactSectorBytes", spec := "fnExactSectorBytes", apart := false, narrowed := true }
def FnExactSectorBytesUptoSaid : Prop := fnExactSectorBytesUptoRow.holds Try.pinned (OpenSpec.upto fnExactSectorBytesSpec)

/-- 'laws.FnExactSectorAt', WHERE WHAT IT READS IS OF BULK AT MOST 1048576: true; the input reads as it did. -/
def fnExactSectorAtUptoRow : OpenClaim := { program := "ytpcfhfnlpcpofaa", sum := "20a50225965b36d3e10a5ba1c3cbae3ce98688335c9a001022e9994f21d838fc", func := "loop.example/g00899/laws.FnExactSectorAt", spec := "fnExactSectorAt", inPlace := ["internal/abi.NoEscape", "internal/bytealg.MakeNoZero"], unfollowed := true, recurses := true, apart := false, narrowed := true }
def FnExactSectorAtUptoSaid : Prop := fnExactSectorAtUptoRow.holds Try.pinned (OpenSpec.upto fnExactSectorAtSpec)

/-- 'laws.FnExactPutSector', WHERE WHAT IT READS IS OF BULK AT MOST 1048576: true; the input reads as it did. -/
def fnExactPutSectorUptoRow : OpenClaim := { program := "ytpcfhfnlpcpofaa", sum := "20a50225965b36d3e10a5ba1c3cbae3ce98688335c9a001022e9994f21d838fc", func := "loop.example/g00899/laws.FnExactPutSector", spec := "fnExactPutSector", inPlace := ["internal/abi.NoEscape", "internal/bytealg.MakeNoZero"], unfollowed := true, recurses := true, apart := false, narrowed := true }
def FnExactPutSectorUptoSaid : Prop := fnExactPutSectorUptoRow.holds Try.pinned (OpenSpec.upto fnExactPutSectorSpec)

/-- 'laws.FnExactStatesOf', WHERE WHAT IT READS IS OF BULK AT MOST 1048576: true; the input reads as it did. -/
def fnExactStatesOfUptoRow : OpenClaim := { program := "ytpcfhfnlpcpofaa", sum := "20a50225965b36d3e10a5ba1c3cbae3ce98688335c9a001022e9994f21d838fc", func := "loop.example/g00899/laws.FnExactStatesOf", spec := "fnExactStatesOf", inPlace := ["internal/abi.NoEscape", "internal/bytealg.MakeNoZero"], unfollowed := true, recurses := true, apart := false, narrowed := true }
def FnExactStatesOfUptoSaid : Prop := fnExactStatesOfUptoRow.holds Try.pinned (OpenSpec.upto fnExactStatesOfSpec)

/-- 'laws.FnExactChangedSectors', WHERE WHAT IT READS IS OF BULK AT MOST 1048576: true; the input reads as it did. -/
def fnExactChangedSectorsUptoRow : OpenClaim := { program := "ytpcfhfnlpcpofaa", sum := "20a50225965b36d3e10a5ba1c3cbae3ce98688335c9a001022e9994f21d838fc", func := "loop.example/g00899/laws.FnExactChangedSectors", spec := "fnExactChangedSectors", inPlace := ["internal/abi.NoEscape", "internal/bytealg.MakeNoZero"], unfollowed := true, recurses := true, apart := false, narrowed := true }
def FnExactChangedSectorsUptoSaid : Prop := fnExactChangedSectorsUptoRow.holds Try.pinned (OpenSpec.upto fnExactChangedSectorsSpec)

/-- 'laws.FnExactDataOf', WHERE WHAT IT READS IS OF BULK AT MOST 1048576: true; the input reads as it did. -/
def fnExactDataOfUptoRow : OpenClaim := { program := "ytpcfhfnlpcpofaa", sum := "20a50225965b36d3e10a5ba1c3cbae3ce98688335c9a001022e9994f21d838fc", func := "loop.example/g00899/laws.FnExactDataOf", spec := "fnExactDataOf", inPlace := ["internal/abi.NoEscape", "internal/bytealg.MakeNoZero"], unfollowed := true, recurses := true, apart := false, narrowed := true }
def FnExactDataOfUptoSaid : Prop := fnExactDataOfUptoRow.holds Try.pinned (OpenSpec.upto fnExactDataOfSpec)

/-- 'laws.FnExactDiscOfData', WHERE WHAT IT READS IS OF BULK AT MOST 1048576: true; the input reads as it did. -/
def fnExactDiscOfDataUptoRow : OpenClaim := { program := "ytpcfhfnlpcpofaa", sum := "20a50225965b36d3e10a5ba1c3cbae3ce98688335c9a001022e9994f21d838fc", func := "loop.example/g00899/laws.FnExactDiscOfData", spec := "fnExactDiscOfData", apart := false, narrowed := true }
def FnExactDiscOfDataUptoSaid : Prop := fnExactDiscOfDataUptoRow.holds Try.pinned (OpenSpec.upto fnExactDiscOfDataSpec)

/-- 'laws.FnExactTrackOf', WHERE WHAT IT READS IS OF BULK AT MOST 1048576: true; the input reads as it did. -/
def fnExactTrackOfUptoRow : OpenClaim := { program := "ytpcfhfnlpcpofaa", sum := "20a50225965b36d3e10a5ba1c3cbae3ce98688335c9a001022e9994f21d838fc", func := "loop.example/g00899/laws.FnExactTrackOf", spec := "fnExactTrackOf", inPlace := ["internal/abi.NoEscape", "internal/bytealg.MakeNoZero"], unfollowed := true, recurses := true, apart := false, narrowed := true }
def FnExactTrackOfUptoSaid : Prop := fnExactTrackOfUptoRow.holds Try.pinned (OpenSpec.upto fnExactTrackOfSpec)

/-- 'laws.FnExactFillTrack', WHERE WHAT IT READS IS OF BULK AT MOST 1048576: true; the input reads as it did. -/
def fnExactFillTrackUptoRow : OpenClaim := { program := "ytpcfhfnlpcpofaa", sum := "20a50225965b36d3e10a5ba1c3cbae3ce98688335c9a001022e9994f21d838fc", func := "loop.example/g00899/laws.FnExactFillTrack", spec := "fnExactFillTrack", inPlace := ["internal/abi.NoEscape", "internal/bytealg.MakeNoZero"], unfollowed := true, recurses := true, apart := false, narrowed := true }
def FnExactFillTrackUptoSaid : Prop := fnExactFillTrackUptoRow.holds Try.pinned (OpenSpec.upto fnExactFillTrackSpec)

end Rows
end Go.Proofs.Ytpcfhfnlpcpofaa
