/-
  No cell of these rows narrows 'for every input' (looked for: loops, veiled, ifaces, maps, wideKeys, modest, calm, conditions, laid).
  DERIVED. THE GIVEN ROWS OF THIS SEAT. 11 by the template 'for every input the law returns true; each argument reads behind the call as it read before'; 0 by the template 'total and deterministic' (their statements: YtlaejcbcfcomaaaTotals.lean).
  GIVEN WITH THE SEED: the statements are not yours to turn. If you find one false, say at which input.
  Laid BY PROGRAM, IN A SANDBOX (cutbox-rows.mjs): the forced cells as the released guide's own fill.sh prints them over the translation 1aa5b49316e244c8… (all of the seat's roots in one cut). By AI agents, Wed Nov 11 2026. No macro, syntax, notation, axiom, sorry.
-/
import Derived.Test.YtlaejcbcfcomaaaChecked
import GoSem.Claim
import GoSem.ClaimJoined
import GoSem.ClaimMapViews
import Derived.JoinedTies
import Derived.KernelRfl
namespace Go.Proofs.Ytlaejcbcfcomaaa
/- THE CELL 'sum', in the pinned program and in every row, IS THE sha256 OF THE DUMP (.gsa) THAT YtlaejcbcfcomaaaProg.lean LOADS. Nothing in Lean hashes anything: it is a label: what it is worth is what the hold of that sum in a sandbox is worth. -/
noncomputable def Try.pinned : Pinned := { name := "ytlaejcbcfcomaaa", sum := "1aa5b49316e244c8c38c1e3c6fea2a550054f33b6bc10d281fba7ee02513d6bf", checked := Try.checked }
namespace Rows
def none {H : Type} : Left H := { results := [], args := [] }

/-- 'laws.FnExactMajorityCells': WHATEVER THE INPUT: true; the input reads as it did. -/
def fnExactMajorityCellsSpec : ChangeSpec := { name := "fnExactMajorityCells", fn := fun _ => fun
  | [d] => { results := [.lit (.bool true)], args := [d] }
  | _ => none }
def fnExactMajorityCellsRow : OpenClaim := { program := "ytlaejcbcfcomaaa", sum := "1aa5b49316e244c8c38c1e3c6fea2a550054f33b6bc10d281fba7ee02513d6bf", func := "loop.example/g00899/laws.FnExactMajorityCells", spec := "fnExactMajorityCells", unfollowed := true, recurses := true, apart := false }
def FnExactMajorityCellsSaid : Prop := fnExactMajorityCellsRow.holds Try.pinned (OpenSpec.ofChange fnExactMajorityCellsSpec)

/-- ITS FALSE NEIGHBOUR: 'it returns false'. Refute it at one input. -/
def fnExactMajorityCellsWrong : ChangeSpec := { name := "fnExactMajorityCells", fn := fun _ => fun
  | [d] => { results := [.lit (.bool false)], args := [d] }
  | _ => none }
def FnExactMajorityCellsWrongFalsely : Prop := fnExactMajorityCellsRow.holds Try.pinned (OpenSpec.ofChange fnExactMajorityCellsWrong)

/-- 'laws.FnExactWeakCells': WHATEVER THE INPUT: true; the input reads as it did. -/
def fnExactWeakCellsSpec : ChangeSpec := { name := "fnExactWeakCells", fn := fun _ => fun
  | [d] => { results := [.lit (.bool true)], args := [d] }
  | _ => none }
def fnExactWeakCellsRow : OpenClaim := { program := "ytlaejcbcfcomaaa", sum := "1aa5b49316e244c8c38c1e3c6fea2a550054f33b6bc10d281fba7ee02513d6bf", func := "loop.example/g00899/laws.FnExactWeakCells", spec := "fnExactWeakCells", unfollowed := true, recurses := true, apart := false }
def FnExactWeakCellsSaid : Prop := fnExactWeakCellsRow.holds Try.pinned (OpenSpec.ofChange fnExactWeakCellsSpec)

/-- ITS FALSE NEIGHBOUR: 'it returns false'. Refute it at one input. -/
def fnExactWeakCellsWrong : ChangeSpec := { name := "fnExactWeakCells", fn := fun _ => fun
  | [d] => { results := [.lit (.bool false)], args := [d] }
  | _ => none }
def FnExactWeakCellsWrongFalsely : Prop := fnExactWeakCellsRow.holds Try.pinned (OpenSpec.ofChange fnExactWeakCellsWrong)

/-- 'laws.FnExactAlignRevolutions': WHATEVER THE INPUT: true; the input reads as it did. -/
def fnExactAlignRevolutionsSpec : ChangeSpec := { name := "fnExactAlignRevolutions", fn := fun _ => fun
  | [d1, d2] => { results := [.lit (.bool true)], args := [d1, d2] }
  | _ => none }
def fnExactAlignRevolutionsRow : OpenClaim := { program := "ytlaejcbcfcomaaa", sum := "1aa5b49316e244c8c38c1e3c6fea2a550054f33b6bc10d281fba7ee02513d6bf", func := "loop.example/g00899/laws.FnExactAlignRevolutions", spec := "fnExactAlignRevolutions", unfollowed := true, recurses := true, apart := false }
def FnExactAlignRevolutionsSaid : Prop := fnExactAlignRevolutionsRow.holds Try.pinned (OpenSpec.ofChange fnExactAlignRevolutionsSpec)

/-- ITS FALSE NEIGHBOUR: 'it returns false'. Refute it at one input. -/
def fnExactAlignRevolutionsWrong : ChangeSpec := { name := "fnExactAlignRevolutions", fn := fun _ => fun
  | [d1, d2] => { results := [.lit (.bool false)], args := [d1, d2] }
  | _ => none }
def FnExactAlignRevolutionsWrongFalsely : Prop := fnExactAlignRevolutionsRow.holds Try.pinned (OpenSpec.ofChange fnExactAlignRevolutionsWrong)

/-- 'laws.FnExactVoteBytes': WHATEVER THE INPUT: true; the input reads as it did. -/
def fnExactVoteBytesSpec : ChangeSpec := { name := "fnExactVoteBytes", fn := fun _ => fun
  | [d] => { results := [.lit (.bool true)], args := [d] }
  | _ => none }
def fnExactVoteBytesRow : OpenClaim := { program := "ytlaejcbcfcomaaa", sum := "1aa5b49316e244c8c38c1e3c6fea2a550054f33b6bc10d281fba7ee02513d6bf", func := "loop.example/g00899/laws.FnExactVoteBytes", spec := "fnExactVoteBytes", unfollowed := true, recurses := true, apart := false }
def FnExactVoteBytesSaid : Prop := fnExactVoteBytesRow.holds Try.pinned (OpenSpec.ofChange fnExactVoteBytesSpec)

/-- ITS FALSE NEIGHBOUR: 'it returns false'. Refute it at one input. -/
def fnExactVoteBytesWrong : ChangeSpec := { name := "fnExactVoteBytes", fn := fun _ => fun
  | [d] => { results := [.lit (.bool false)], args := [d] }
  | _ => none }
def FnExactVoteBytesWrongFalsely : Prop := fnExactVoteBytesRow.holds Try.pinned (OpenSpec.ofChange fnExactVoteBytesWrong)

/-- 'laws.FnExactDataMarkOf': WHATEVER THE INPUT: true; the input reads as it did. -/
def fnExactDataMarkOfSpec : ChangeSpec := { name := "fnExactDataMarkOf", fn := fun _ => fun
  | [d1, d2, d3, d4] => { results := [.lit (.bool true)], args := [d1, d2, d3, d4] }
  | _ => none }
def fnExactDataMarkOfRow : OpenClaim := { program := "ytlaejcbcfcomaaa", sum := "1aa5b49316e244c8c38c1e3c6fea2a550054f33b6bc10d281fba7ee02513d6bf", func := "loop.example/g00899/laws.FnExactDataMarkOf", spec := "fnExactDataMarkOf", apart := false }
def FnExactDataMarkOfSaid : Prop := fnExactDataMarkOfRow.holds Try.pinned (OpenSpec.ofChange fnExactDataMarkOfSpec)

/-- ITS FALSE NEIGHBOUR: 'it returns false'. Refute it at one input. -/
def fnExactDataMarkOfWrong : ChangeSpec := { name := "fnExactDataMarkOf", fn := fun _ => fun
  | [d1, d2, d3, d4] => { results := [.lit (.bool false)], args := [d1, d2, d3, d4] }
  | _ => none }
def FnExactDataMarkOfWrongFalsely : Prop := fnExactDataMarkOfRow.holds Try.pinned (OpenSpec.ofChange fnExactDataMarkOfWrong)

/-- 'laws.FnExactRotateFlux': WHATEVER THE INPUT: true; the input reads as it did. -/
def fnExactRotateFluxSpec : ChangeSpec := { name := "fnExactRotateFlux", fn := fun _ => fun
  | [d1, d2] => { results := [.lit (.bool true)], args := [d1, d2] }
  | _ => none }
def fnExactRotateFluxRow : OpenClaim := { program := "ytlaejcbcfcomaaa", sum := "1aa5b49316e244c8c38c1e3c6fea2a550054f33b6bc10d281fba7ee02513d6bf", func := "loop.example/g00899/laws.FnExactRotateFlux", spec := "fnExactRotateFlux", unfollowed := true, recurses := true, apart := false }
def FnExactRotateFluxSaid : Prop := fnExactRotateFluxRow.holds Try.pinned (OpenSpec.ofChange fnExactRotateFluxSpec)

/-- ITS FALSE NEIGHBOUR: 'it returns false'. Refute it at one input. -/
def fnExactRotateFluxWrong : ChangeSpec := { name := "fnExactRotateFlux", fn := fun _ => fun
  | [d1, d2] => { results := [.lit (.bool false)], args := [d1, d2] }
  | _ => none }
def FnExactRotateFluxWrongFalsely : Prop := fnExactRotateFluxRow.holds Try.pinned (OpenSpec.ofChange fnExactRotateFluxWrong)

/-- 'laws.FnExactStepClock': WHATEVER THE INPUT: true; the input reads as it did. -/
def fnExactStepClockSpec : ChangeSpec := { name := "fnExactStepClock", fn := fun _ => fun
  | [d1, d2, d3] => { results := [.lit (.bool true)], args := [d1, d2, d3] }
  | _ => none }
def fnExactStepClockRow : OpenClaim := { program := "ytlaejcbcfcomaaa", sum := "1aa5b49316e244c8c38c1e3c6fea2a550054f33b6bc10d281fba7ee02513d6bf", func := "loop.example/g00899/laws.FnExactStepClock", spec := "fnExactStepClock", unfollowed := true, recurses := true, apart := false }
def FnExactStepClockSaid : Prop := fnExactStepClockRow.holds Try.pinned (OpenSpec.ofChange fnExactStepClockSpec)

/-- ITS FALSE NEIGHBOUR: 'it returns false'. Refute it at one input. -/
def fnExactStepClockWrong : ChangeSpec := { name := "fnExactStepClock", fn := fun _ => fun
  | [d1, d2, d3] => { results := [.lit (.bool false)], args := [d1, d2, d3] }
  | _ => none }
def FnExactStepClockWrongFalsely : Prop := fnExactStepClockRow.holds Try.pinned (OpenSpec.ofChange fnExactStepClockWrong)

/-- 'laws.FnExactClockErrors': WHATEVER THE INPUT: true; the input reads as it did. -/
def fnExactClockErrorsSpec : ChangeSpec := { name := "fnExactClockErrors", fn := fun _ => fun
  | [d1, d2] => { results := [.lit (.bool true)], args := [d1, d2] }
  | _ => none }
def fnExactClockErrorsRow : OpenClaim := { program := "ytlaejcbcfcomaaa", sum := "1aa5b49316e244c8c38c1e3c6fea2a550054f33b6bc10d281fba7ee02513d6bf", func := "loop.example/g00899/laws.FnExactClockErrors", spec := "fnExactClockErrors", unfollowed := true, recurses := true, apart := false }
def FnExactClockErrorsSaid : Prop := fnExactClockErrorsRow.holds Try.pinned (OpenSpec.ofChange fnExactClockErrorsSpec)

/-- ITS FALSE NEIGHBOUR: 'it returns false'. Refute it at one input. -/
def fnExactClockErrorsWrong : ChangeSpec := { name := "fnExactClockErrors", fn := fun _ => fun
  | [d1, d2] => { results := [.lit (.bool false)], args := [d1, d2] }
  | _ => none }
def FnExactClockErrorsWrongFalsely : Prop := fnExactClockErrorsRow.holds Try.pinned (OpenSpec.ofChange fnExactClockErrorsWrong)

/-- 'laws.FnExactGapCounts': WHATEVER THE INPUT: true; the input reads as it did. -/
def fnExactGapCountsSpec : ChangeSpec := { name := "fnExactGapCounts", fn := fun _ => fun
  | [d1, d2] => { results := [.lit (.bool true)], args := [d1, d2] }
  | _ => none }
def fnExactGapCountsRow : OpenClaim := { program := "ytlaejcbcfcomaaa", sum := "1aa5b49316e244c8c38c1e3c6fea2a550054f33b6bc10d281fba7ee02513d6bf", func := "loop.example/g00899/laws.FnExactGapCounts", spec := "fnExactGapCounts", unfollowed := true, recurses := true, apart := false }
def FnExactGapCountsSaid : Prop := fnExactGapCountsRow.holds Try.pinned (OpenSpec.ofChange fnExactGapCountsSpec)

/-- ITS FALSE NEIGHBOUR: 'it returns false'. Refute it at one input. -/
def fnExactGapCountsWrong : ChangeSpec := { name := "fnExactGapCounts", fn := fun _ => fun
  | [d1, d2] => { results := [.lit (.bool false)], args := [d1, d2] }
  | _ => none }
def FnExactGapCountsWrongFalsely : Prop := fnExactGapCountsRow.holds Try.pinned (OpenSpec.ofChange fnExactGapCountsWrong)

/-- 'laws.FnExactRecoverCells': WHATEVER THE INPUT: true; the input reads as it did. -/
def fnExactRecoverCellsSpec : ChangeSpec := { name := "fnExactRecoverCells", fn := fun _ => fun
  | [d1, d2] => { results := [.lit (.bool true)], args := [d1, d2] }
  | _ => none }
def fnExactRecoverCellsRow : OpenClaim := { program := "ytlaejcbcfcomaaa", sum := "1aa5b49316e244c8c38c1e3c6fea2a550054f33b6bc10d281fba7ee02513d6bf", func := "loop.example/g00899/laws.FnExactRecoverCells", spec := "fnExactRecoverCells", inPlace := ["internal/abi.NoEscape", "internal/bytealg.MakeNoZero"], unfollowed := true, recurses := true, apart := false }
def FnExactRecoverCellsSaid : Prop := fnExactRecoverCellsRow.holds Try.pinned (OpenSpec.ofChange fnExactRecoverCellsSpec)

/-- ITS FALSE NEIGHBOUR: 'it returns false'. Refute it at one input. -/
def fnExactRecoverCellsWrong : ChangeSpec := { name := "fnExactRecoverCells", fn := fun _ => fun
  | [d1, d2] => { results := [.lit (.bool false)], args := [d1, d2] }
  | _ => none }
def FnExactRecoverCellsWrongFalsely : Prop := fnExactRecoverCellsRow.holds Try.pinned (OpenSpec.ofChange fnExactRecoverCellsWrong)

/-- 'laws.FnExactWeakenFlux': WHATEVER THE INPUT: true; the input reads as it did. -/
def fnExactWeakenFluxSpec : ChangeSpec := { name := "fnExactWeakenFlux", fn := fun _ => fun
  | [d1, d2] => { results := [.lit (.bool true)], args := [d1, d2] }
  | _ => none }
def fnExactWeakenFluxRow : OpenClaim := { program := "ytlaejcbcfcomaaa", sum := "1aa5b49316e244c8c38c1e3c6fea2a550054f33b6bc10d281fba7ee02513d6bf", func := "loop.example/g00899/laws.FnExactWeakenFlux", spec := "fnExactWeakenFlux", inPlace := ["slices.overlaps[int64]"], unfollowed := true, recurses := true, apart := false }
def FnExactWeakenFluxSaid : Prop := fnExactWeakenFluxRow.holds Try.pinned (OpenSpec.ofChange fnExactWeakenFluxSpec)

/-- ITS FALSE NEIGHBOUR: 'it returns false'. Refute it at one input. -/
def fnExactWeakenFluxWrong : ChangeSpec := { name := "fnExactWeakenFlux", fn := fun _ => fun
  | [d1, d2] => { results := [.lit (.bool false)], args := [d1, d2] }
  | _ => none }
def FnExactWeakenFluxWrongFalsely : Prop := fnExactWeakenFluxRow.holds Try.pinned (OpenSpec.ofChange fnExactWeakenFluxWrong)

/- THE SECOND FORM. 'bulk': how many values and letters a reading holds, each counted each time it is reached (what is shared counts as often as it is met; a slice's spare places count too). A statement '..UptoSaid' is the law's where the arguments, and the package variables that the reading takes, are together of bulk at most 1048576: NARROWER than '..Said'. Prove '..Said' where nothing that the law and all that it calls make is longer than what came in: it says more and counts as full. Else prove '..UptoSaid'. A law counts once. -/
mutual
def uptoBulk {H : Type} : DataW H → Nat
  | .lit (.string bytes) => bytes.length + 1
  | .lit _ => 1
  | .nil => 1
  | .ptr d => uptoBulk d + 1
  | .slice elems spare => uptoBulkAll elems + uptoBulkAll spare + 1
  | .agg parts => uptoBulkAll parts + 1
  | .iface _ d => uptoBulk d + 1
  | .map entries => uptoBulkEntries entries + 1
  | .held _ => 1
def uptoBulkAll {H : Type} : List (DataW H) → Nat
  | [] => 0
  | d :: r => uptoBulk d + uptoBulkAll r
def uptoBulkEntries {H : Type} : List (Lit × DataW H) → Nat
  | [] => 0
  | x :: r => uptoBulkEntry x + uptoBulkEntries r
def uptoBulkEntry {H : Type} : Lit × DataW H → Nat
  | (.string bytes, d) => bytes.length + uptoBulk d + 1
  | (_, d) => uptoBulk d + 1
 end
def uptoSmall : (H : Type) → List (DataW H) → Bool := fun _ ds => decide (uptoBulkAll ds ≤ 1048576)
def OpenSpec.upto (s : _root_.Go.ChangeSpec) : _root_.Go.OpenSpec := { _root_.Go.OpenSpec.ofChange s with cond := some uptoSmall }

/-- 'laws.FnExactMajorityCells', WHERE WHAT IT READS IS OF BULK AT MOST 1048576: true; the input reads as it did. -/
def fnExactMajorityCellsUptoRow : OpenClaim := { program := "ytlaejcbcfcomaaa", sum := "1aa5b49316e244c8c38c1e3c6fea2a550054f33b6bc10d281fba7ee02513d6bf", func := "loop.example/g00899/laws.FnExactMajorityCells", spec := "fnExactMajorityCells", unfollowed := true, recurses := true, apart := false, narrowed := true }
def FnExactMajorityCellsUptoSaid : Prop := fnExactMajorityCellsUptoRow.holds Try.pinned (OpenSpec.upto fnExactMajorityCellsSpec)

/-- 'laws.FnExactWeakCells', WHERE WHAT IT READS IS OF BULK AT MOST 1048576: true; the input reads as it did. -/
def fnExactWeakCellsUptoRow : OpenClaim := { program := "ytlaejcbcfcomaaa", sum := "1aa5b49316e244c8c38c1e3c6fea2a550054f33b6bc10d281fba7ee02513d6bf", func := "loop.example/g00899/laws.FnExactWeakCells", spec := "fnExactWeakCells", unfollowed := true, recurses := true, apart := false, narrowed := true }
def FnExactWeakCellsUptoSaid : Prop := fnExactWeakCellsUptoRow.holds Try.pinned (OpenSpec.upto fnExactWeakCellsSpec)

/-- 'laws.FnExactAlignRevolutions', WHERE WHAT IT READS IS OF BULK AT MOST 1048576: true; the input reads as it did. -/
def fnExactAlignRevolutionsUptoRow : OpenClaim := { program := "ytlaejcbcfcomaaa", sum := "1aa5b49316e244c8c38c1e3c6fea2a550054f33b6bc10d281fba7ee02513d6bf", func := "loop.example/g00899/laws.FnExactAlignRevolutions", spec := "fnExactAlignRevolutions", unfollowed := true, recurses := true, apart := false, narrowed := true }
def FnExactAlignRevolutionsUptoSaid : Prop := fnExactAlignRevolutionsUptoRow.holds Try.pinned (OpenSpec.upto fnExactAlignRevolutionsSpec)

/-- 'laws.FnExactVoteBytes', WHERE WHAT IT READS IS OF BULK AT MOST 1048576: true; the input reads as it did. -/
def fnExactVoteBytesUptoRow : OpenClaim := { program := "ytlaejcbcfcomaaa", sum := "1aa5b49316e244c8c38c1e3c6fea2a550054f33b6bc10d281fba7ee02513d6bf", func := "loop.example/g00899/laws.FnExactVoteBytes", spec := "fnExactVoteBytes", unfollowed := true, recurses := true, apart := false, narrowed := true }
def FnExactVoteBytesUptoSaid : Prop := fnExactVoteBytesUptoRow.holds Try.pinned (OpenSpec.upto fnExactVoteBytesSpec)

/-- 'laws.FnExactDataMarkOf', WHERE WHAT IT READS IS OF BULK AT MOST 1048576: true; the input reads as it did. -/
def fnExactDataMarkOfUptoRow : OpenClaim := { program := "ytlaejcbcfcomaaa", sum := "1aa5b49316e244c8c38c1e3c6fea2a550054f33b6bc10d281fba7ee02513d6bf", func := "loop.example/g00899/laws.FnExactDataMarkOf", spec := "fnExactDataMarkOf", apart := false, narrowed := true }
def FnExactDataMarkOfUptoSaid : Prop := fnExactDataMarkOfUptoRow.holds Try.pinned (OpenSpec.upto fnExactDataMarkOfSpec)

/-- 'laws.FnExactRotateFlux', WHERE WHAT IT READS IS OF BULK AT MOST 1048576: true; the input reads as it did. -/
def fnExactRotateFluxUptoRow : OpenClaim := { program := "ytlaejcbcfcomaaa", sum := "1aa5b49316e244c8c38c1e3c6fea2a550054f33b6bc10d281fba7ee02513d6bf", func := "loop.example/g00899/laws.FnExactRotateFlux", spec := "fnExactRotateFlux", unfollowed := true, recurses := true, apart := false, narrowed := true }
def FnExactRotateFluxUptoSaid : Prop := fnExactRotateFluxUptoRow.holds Try.pinned (OpenSpec.upto fnExactRotateFluxSpec)

/-- 'laws.FnExactStepClock', WHERE WHAT IT READS IS OF BULK AT MOST 1048576: true; the input reads as it did. -/
def fnExactStepClockUptoRow : OpenClaim := { program := "ytlaejcbcfcomaaa", sum := "1aa5b49316e244c8c38c1e3c6fea2a550054f33b6bc10d281fba7ee02513d6bf", func := "loop.example/g00899/laws.FnExactStepClock", spec := "fnExactStepClock", unfollowed := true, recurses := true, apart := false, narrowed := true }
def FnExactStepClockUptoSaid : Prop := fnExactStepClockUptoRow.holds Try.pinned (OpenSpec.upto fnExactStepClockSpec)

/-- 'laws.FnExactClockErrors', WHERE WHAT IT READS IS OF BULK AT MOST 1048576: true; the input reads as it did. -/
def fnExactClockErrorsUptoRow : OpenClaim := { program := "ytlaejcbcfcomaaa", sum := "1aa5b49316e244c8c38c1e3c6fea2a550054f33b6bc10d281fba7ee02513d6bf", func := "loop.example/g00899/laws.FnExactClockErrors", spec := "fnExactClockErrors", unfollowed := true, recurses := true, apart := false, narrowed := true }
def FnExactClockErrorsUptoSaid : Prop := fnExactClockErrorsUptoRow.holds Try.pinned (OpenSpec.upto fnExactClockErrorsSpec)

/-- 'laws.FnExactGapCounts', WHERE WHAT IT READS IS OF BULK AT MOST 1048576: true; the input reads as it did. -/
def fnExactGapCountsUptoRow : OpenClaim := { program := "ytlaejcbcfcomaaa", sum := "1aa5b49316e244c8c38c1e3c6fea2a550054f33b6bc10d281fba7ee02513d6bf", func := "loop.example/g00899/laws.FnExactGapCounts", spec := "fnExactGapCounts", unfollowed := true, recurses := true, apart := false, narrowed := true }
def FnExactGapCountsUptoSaid : Prop := fnExactGapCountsUptoRow.holds Try.pinned (OpenSpec.upto fnExactGapCountsSpec)

/-- 'laws.FnExactRecoverCells', WHERE WHAT IT READS IS OF BULK AT MOST 1048576: true; the input reads as it did. -/
def fnExactRecoverCellsUptoRow : OpenClaim := { program := "ytlaejcbcfcomaaa", sum := "1aa5b49316e244c8c38c1e3c6fea2a550054f33b6bc10d281fba7ee02513d6bf", func := "loop.example/g00899/laws.FnExactRecoverCells", spec := "fnExactRecoverCells", inPlace := ["internal/abi.NoEscape", "internal/bytealg.MakeNoZero"], unfollowed := true, recurses := true, apart := false, narrowed := true }
def FnExactRecoverCellsUptoSaid : Prop := fnExactRecoverCellsUptoRow.holds Try.pinned (OpenSpec.upto fnExactRecoverCellsSpec)

/-- 'laws.FnExactWeakenFlux', WHERE WHAT IT READS IS OF BULK AT MOST 1048576: true; the input reads as it did. -/
def fnExactWeakenFluxUptoRow : OpenClaim := { program := "ytlaejcbcfcomaaa", sum := "1aa5b49316e244c8c38c1e3c6fea2a550054f33b6bc10d281fba7ee02513d6bf", func := "loop.example/g00899/laws.FnExactWeakenFlux", spec := "fnExactWeakenFlux", inPlace := ["slices.overlaps[int64]"], unfollowed := true, recurses := true, apart := false, narrowed := true }
def FnExactWeakenFluxUptoSaid : Prop := fnExactWeakenFluxUptoRow.holds Try.pinned (OpenSpec.upto fnExactWeakenFluxSpec)

end Rows
end Go.Proofs.Ytlaejcbcfcomaaa
