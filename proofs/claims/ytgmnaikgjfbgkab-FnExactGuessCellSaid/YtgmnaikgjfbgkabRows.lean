/-
  No cell of these rows narrows 'for every input' (looked for: loops, veiled, ifaces, maps, wideKeys, modest, calm, conditions, laid).
  DERIVED. THE GIVEN ROWS OF THIS SEAT. 11 by the template 'for every input the law returns true; each argument reads behind the call as it read before'; 0 by the template 'total and deterministic' (their statements: YtgmnaikgjfbgkabTotals.lean).
  GIVEN WITH THE SEED: the statements are not yours to turn. If you find one false, say at which input.
  Laid BY PROGRAM, IN A SANDBOX (cutbox-rows.mjs): the forced cells as the released guide's own fill.sh prints them over the translation 9376fbe7bce39da0… (all of the seat's roots in one cut). By AI agents, Wed Nov 11 2026. No macro, syntax, notation, axiom, sorry.
-/
import Derived.Test.YtgmnaikgjfbgkabChecked
import GoSem.Claim
import GoSem.ClaimJoined
import GoSem.ClaimMapViews
import Derived.JoinedTies
import Derived.KernelRfl
namespace Go.Proofs.Ytgmnaikgjfbgkab
/- THE CELL 'sum', in the pinned program and in every row, IS THE sha256 OF THE DUMP (.gsa) THAT YtgmnaikgjfbgkabProg.lean LOADS. Nothing in Lean hashes anything: it is a label: what it is worth is what the hold of that sum in a sandbox is worth. -/
noncomputable def Try.pinned : Pinned := { name := "ytgmnaikgjfbgkab", sum := "9376fbe7bce39da01dee3fd4035843e402da810b1824b7d2ecc3cfe62ac5b1a0", checked := Try.checked }
namespace Rows
def none {H : Type} : Left H := { results := [], args := [] }

/-- 'laws.FnExactValidClock': WHATEVER THE INPUT: true; the input reads as it did. -/
def fnExactValidClockSpec : ChangeSpec := { name := "fnExactValidClock", fn := fun _ => fun
  | [d] => { results := [.lit (.bool true)], args := [d] }
  | _ => none }
def fnExactValidClockRow : OpenClaim := { program := "ytgmnaikgjfbgkab", sum := "9376fbe7bce39da01dee3fd4035843e402da810b1824b7d2ecc3cfe62ac5b1a0", func := "loop.example/g00899/laws.FnExactValidClock", spec := "fnExactValidClock", apart := false }
def FnExactValidClockSaid : Prop := fnExactValidClockRow.holds Try.pinned (OpenSpec.ofChange fnExactValidClockSpec)

/-- ITS FALSE NEIGHBOUR: 'it returns false'. Refute it at one input. -/
def fnExactValidClockWrong : ChangeSpec := { name := "fnExactValidClock", fn := fun _ => fun
  | [d] => { results := [.lit (.bool false)], args := [d] }
  | _ => none }
def FnExactValidClockWrongFalsely : Prop := fnExactValidClockRow.holds Try.pinned (OpenSpec.ofChange fnExactValidClockWrong)

/-- 'laws.FnExactPlainClock': WHATEVER THE INPUT: true; the input reads as it did. -/
def fnExactPlainClockSpec : ChangeSpec := { name := "fnExactPlainClock", fn := fun _ => fun
  | [d] => { results := [.lit (.bool true)], args := [d] }
  | _ => none }
def fnExactPlainClockRow : OpenClaim := { program := "ytgmnaikgjfbgkab", sum := "9376fbe7bce39da01dee3fd4035843e402da810b1824b7d2ecc3cfe62ac5b1a0", func := "loop.example/g00899/laws.FnExactPlainClock", spec := "fnExactPlainClock", apart := false }
def FnExactPlainClockSaid : Prop := fnExactPlainClockRow.holds Try.pinned (OpenSpec.ofChange fnExactPlainClockSpec)

/-- ITS FALSE NEIGHBOUR: 'it returns false'. Refute it at one input. -/
def fnExactPlainClockWrong : ChangeSpec := { name := "fnExactPlainClock", fn := fun _ => fun
  | [d] => { results := [.lit (.bool false)], args := [d] }
  | _ => none }
def FnExactPlainClockWrongFalsely : Prop := fnExactPlainClockRow.holds Try.pinned (OpenSpec.ofChange fnExactPlainClockWrong)

/-- 'laws.FnExactStartClock': WHATEVER THE INPUT: true; the input reads as it did. -/
def fnExactStartClockSpec : ChangeSpec := { name := "fnExactStartClock", fn := fun _ => fun
  | [d] => { results := [.lit (.bool true)], args := [d] }
  | _ => none }
def fnExactStartClockRow : OpenClaim := { program := "ytgmnaikgjfbgkab", sum := "9376fbe7bce39da01dee3fd4035843e402da810b1824b7d2ecc3cfe62ac5b1a0", func := "loop.example/g00899/laws.FnExactStartClock", spec := "fnExactStartClock", apart := false }
def FnExactStartClockSaid : Prop := fnExactStartClockRow.holds Try.pinned (OpenSpec.ofChange fnExactStartClockSpec)

/-- ITS FALSE NEIGHBOUR: 'it returns false'. Refute it at one input. -/
def fnExactStartClockWrong : ChangeSpec := { name := "fnExactStartClock", fn := fun _ => fun
  | [d] => { results := [.lit (.bool false)], args := [d] }
  | _ => none }
def FnExactStartClockWrongFalsely : Prop := fnExactStartClockRow.holds Try.pinned (OpenSpec.ofChange fnExactStartClockWrong)

/-- 'laws.FnExactStepClock': WHATEVER THE INPUT: true; the input reads as it did. -/
def fnExactStepClockSpec : ChangeSpec := { name := "fnExactStepClock", fn := fun _ => fun
  | [d1, d2, d3] => { results := [.lit (.bool true)], args := [d1, d2, d3] }
  | _ => none }
def fnExactStepClockRow : OpenClaim := { program := "ytgmnaikgjfbgkab", sum := "9376fbe7bce39da01dee3fd4035843e402da810b1824b7d2ecc3cfe62ac5b1a0", func := "loop.example/g00899/laws.FnExactStepClock", spec := "fnExactStepClock", unfollowed := true, recurses := true, apart := false }
def FnExactStepClockSaid : Prop := fnExactStepClockRow.holds Try.pinned (OpenSpec.ofChange fnExactStepClockSpec)

/-- ITS FALSE NEIGHBOUR: 'it returns false'. Refute it at one input. -/
def fnExactStepClockWrong : ChangeSpec := { name := "fnExactStepClock", fn := fun _ => fun
  | [d1, d2, d3] => { results := [.lit (.bool false)], args := [d1, d2, d3] }
  | _ => none }
def FnExactStepClockWrongFalsely : Prop := fnExactStepClockRow.holds Try.pinned (OpenSpec.ofChange fnExactStepClockWrong)

/-- 'laws.FnExactClockErrors': WHATEVER THE INPUT: true; the input reads as it did. -/
def fnExactClockErrorsSpec : ChangeSpec := { name := "fnExactClockErrors", fn := fun _ => fun
  | [d1, d2] => { results := [.lit (.bool true)], args := [d1, d2] }
  | _ => none }
def fnExactClockErrorsRow : OpenClaim := { program := "ytgmnaikgjfbgkab", sum := "9376fbe7bce39da01dee3fd4035843e402da810b1824b7d2ecc3cfe62ac5b1a0", func := "loop.example/g00899/laws.FnExactClockErrors", spec := "fnExactClockErrors", unfollowed := true, recurses := true, apart := false }
def FnExactClockErrorsSaid : Prop := fnExactClockErrorsRow.holds Try.pinned (OpenSpec.ofChange fnExactClockErrorsSpec)

/-- ITS FALSE NEIGHBOUR: 'it returns false'. Refute it at one input. -/
def fnExactClockErrorsWrong : ChangeSpec := { name := "fnExactClockErrors", fn := fun _ => fun
  | [d1, d2] => { results := [.lit (.bool false)], args := [d1, d2] }
  | _ => none }
def FnExactClockErrorsWrongFalsely : Prop := fnExactClockErrorsRow.holds Try.pinned (OpenSpec.ofChange fnExactClockErrorsWrong)

/-- 'laws.FnExactGapCounts': WHATEVER THE INPUT: true; the input reads as it did. -/
def fnExactGapCountsSpec : ChangeSpec := { name := "fnExactGapCounts", fn := fun _ => fun
  | [d1, d2] => { results := [.lit (.bool true)], args := [d1, d2] }
  | _ => none }
def fnExactGapCountsRow : OpenClaim := { program := "ytgmnaikgjfbgkab", sum := "9376fbe7bce39da01dee3fd4035843e402da810b1824b7d2ecc3cfe62ac5b1a0", func := "loop.example/g00899/laws.FnExactGapCounts", spec := "fnExactGapCounts", unfollowed := true, recurses := true, apart := false }
def FnExactGapCountsSaid : Prop := fnExactGapCountsRow.holds Try.pinned (OpenSpec.ofChange fnExactGapCountsSpec)

/-- ITS FALSE NEIGHBOUR: 'it returns false'. Refute it at one input. -/
def fnExactGapCountsWrong : ChangeSpec := { name := "fnExactGapCounts", fn := fun _ => fun
  | [d1, d2] => { results := [.lit (.bool false)], args := [d1, d2] }
  | _ => none }
def FnExactGapCountsWrongFalsely : Prop := fnExactGapCountsRow.holds Try.pinned (OpenSpec.ofChange fnExactGapCountsWrong)

/-- 'laws.FnExactRecoverCells': WHATEVER THE INPUT: true; the input reads as it did. -/
def fnExactRecoverCellsSpec : ChangeSpec := { name := "fnExactRecoverCells", fn := fun _ => fun
  | [d1, d2] => { results := [.lit (.bool true)], args := [d1, d2] }
  | _ => none }
def fnExactRecoverCellsRow : OpenClaim := { program := "ytgmnaikgjfbgkab", sum := "9376fbe7bce39da01dee3fd4035843e402da810b1824b7d2ecc3cfe62ac5b1a0", func := "loop.example/g00899/laws.FnExactRecoverCells", spec := "fnExactRecoverCells", inPlace := ["internal/abi.NoEscape", "internal/bytealg.MakeNoZero"], unfollowed := true, recurses := true, apart := false }
def FnExactRecoverCellsSaid : Prop := fnExactRecoverCellsRow.holds Try.pinned (OpenSpec.ofChange fnExactRecoverCellsSpec)

/-- ITS FALSE NEIGHBOUR: 'it returns false'. Refute it at one input. -/
def fnExactRecoverCellsWrong : ChangeSpec := { name := "fnExactRecoverCells", fn := fun _ => fun
  | [d1, d2] => { results := [.lit (.bool false)], args := [d1, d2] }
  | _ => none }
def FnExactRecoverCellsWrongFalsely : Prop := fnExactRecoverCellsRow.holds Try.pinned (OpenSpec.ofChange fnExactRecoverCellsWrong)

/-- 'laws.FnExactGuessCell': WHATEVER THE INPUT: true; the input reads as it did. -/
def fnExactGuessCellSpec : ChangeSpec := { name := "fnExactGuessCell", fn := fun _ => fun
  | [d] => { results := [.lit (.bool true)], args := [d] }
  | _ => none }
def fnExactGuessCellRow : OpenClaim := { program := "ytgmnaikgjfbgkab", sum := "9376fbe7bce39da01dee3fd4035843e402da810b1824b7d2ecc3cfe62ac5b1a0", func := "loop.example/g00899/laws.FnExactGuessCell", spec := "fnExactGuessCell", apart := false }
def FnExactGuessCellSaid : Prop := fnExactGuessCellRow.holds Try.pinned (OpenSpec.ofChange fnExactGuessCellSpec)

/-- ITS FALSE NEIGHBOUR: 'it returns false'. Refute it at one input. -/
def fnExactGuessCellWrong : ChangeSpec := { name := "fnExactGuessCell", fn := fun _ => fun
  | [d] => { results := [.lit (.bool false)], args := [d] }
  | _ => none }
def FnExactGuessCellWrongFalsely : Prop := fnExactGuessCellRow.holds Try.pinned (OpenSpec.ofChange fnExactGuessCellWrong)

/-- 'laws.FnRecover': WHATEVER THE INPUT: true; the input reads as it did. -/
def fnRecoverSpec : ChangeSpec := { name := "fnRecover", fn := fun _ => fun
  | [d1, d2] => { results := [.lit (.bool true)], args := [d1, d2] }
  | _ => none }
def fnRecoverRow : OpenClaim := { program := "ytgmnaikgjfbgkab", sum := "9376fbe7bce39da01dee3fd4035843e402da810b1824b7d2ecc3cfe62ac5b1a0", func := "loop.example/g00899/laws.FnRecover", spec := "fnRecover", inPlace := ["internal/abi.NoEscape", "internal/bytealg.MakeNoZero"], unfollowed := true, recurses := true, apart := false }
def FnRecoverSaid : Prop := fnRecoverRow.holds Try.pinned (OpenSpec.ofChange fnRecoverSpec)

/-- ITS FALSE NEIGHBOUR: 'it returns false'. Refute it at one input. -/
def fnRecoverWrong : ChangeSpec := { name := "fnRecover", fn := fun _ => fun
  | [d1, d2] => { results := [.lit (.bool false)], args := [d1, d2] }
  | _ => none }
def FnRecoverWrongFalsely : Prop := fnRecoverRow.holds Try.pinned (OpenSpec.ofChange fnRecoverWrong)

/-- 'laws.FnClockSteps': WHATEVER THE INPUT: true; the input reads as it did. -/
def fnClockStepsSpec : ChangeSpec := { name := "fnClockSteps", fn := fun _ => fun
  | [d] => { results := [.lit (.bool true)], args := [d] }
  | _ => none }
def fnClockStepsRow : OpenClaim := { program := "ytgmnaikgjfbgkab", sum := "9376fbe7bce39da01dee3fd4035843e402da810b1824b7d2ecc3cfe62ac5b1a0", func := "loop.example/g00899/laws.FnClockSteps", spec := "fnClockSteps", unfollowed := true, recurses := true, apart := false }
def FnClockStepsSaid : Prop := fnClockStepsRow.holds Try.pinned (OpenSpec.ofChange fnClockStepsSpec)

/-- ITS FALSE NEIGHBOUR: 'it returns false'. Refute it at one input. -/
def fnClockStepsWrong : ChangeSpec := { name := "fnClockSteps", fn := fun _ => fun
  | [d] => { results := [.lit (.bool false)], args := [d] }
  | _ => none }
def FnClockStepsWrongFalsely : Prop := fnClockStepsRow.holds Try.pinned (OpenSpec.ofChange fnClockStepsWrong)

/-- 'laws.FnExactRotateFlux': WHATEVER THE INPUT: true; the input reads as it did. -/
def fnExactRotateFluxSpec : ChangeSpec := { name := "fnExactRotateFlux", fn := fun _ => fun
  | [d1, d2] => { results := [.lit (.bool true)], args := [d1, d2] }
  | _ => none }
def fnExactRotateFluxRow : OpenClaim := { program := "ytgmnaikgjfbgkab", sum := "9376fbe7bce39da01dee3fd4035843e402da810b1824b7d2ecc3cfe62ac5b1a0", func := "loop.example/g00899/laws.FnExactRotateFlux", spec := "fnExactRotateFlux", unfollowed := true, recurses := true, apart := false }
def FnExactRotateFluxSaid : Prop := fnExactRotateFluxRow.holds Try.pinned (OpenSpec.ofChange fnExactRotateFluxSpec)

/-- ITS FALSE NEIGHBOUR: 'it returns false'. Refute it at one input. -/
def fnExactRotateFluxWrong : ChangeSpec := { name := "fnExactRotateFlux", fn := fun _ => fun
  | [d1, d2] => { results := [.lit (.bool false)], args := [d1, d2] }
  | _ => none }
def FnExactRotateFluxWrongFalsely : Prop := fnExactRotateFluxRow.holds Try.pinned (OpenSpec.ofChange fnExactRotateFluxWrong)

/- THE SECOND FORM. 'bulk': how many values and letters a reading holds, each counted each time it is reached (what is shared counts as often as it is met; a slice's spare places count too). A statement '..UptoSaid' is the law's where the arguments, and the package variables that the reading takes, are together of bulk at most 1048576: NARROWER than '..Said'. Prove '..Said' where nothing that the law and all that it calls make is longer than what came in: it says more and counts as full. Else prove '..UptoSaid'. A law counts once. -/
mutual
def uptoBulk {H : Type} : DataW H → Nat
  | .lit (.string bytes) => bytes.length + 1
  | .lit _ => 1
  | .nil => 1
  | .ptr d => uptoBulk d + 1
  | .slice elems spare => uptoBulkAll elems + uptoBulkAll spare + 1
  | .agg parts => uptoBulkAll parts + 1
  | .iface _ d => uptoBulk d + 1
  | .map entries => uptoBulkEntries entries + 1
  | .held _ => 1
def uptoBulkAll {H : Type} : List (DataW H) → Nat
  | [] => 0
  | d :: r => uptoBulk d + uptoBulkAll r
def uptoBulkEntries {H : Type} : List (Lit × DataW H) → Nat
  | [] => 0
  | x :: r => uptoBulkEntry x + uptoBulkEntries r
def uptoBulkEntry {H : Type} : Lit × DataW H → Nat
  | (.string bytes, d) => bytes.length + uptoBulk d + 1
  | (_, d) => uptoBulk d + 1
 end
def uptoSmall : (H : Type) → List (DataW H) → Bool := fun _ ds => decide (uptoBulkAll ds ≤ 1048576)
def OpenSpec.upto (s : _root_.Go.ChangeSpec) : _root_.Go.OpenSpec := { _root_.Go.OpenSpec.ofChange s with cond := some uptoSmall }

/-- 'laws.FnExactValidClock', WHERE WHAT IT READS IS OF BULK AT MOST 1048576: true; the input reads as it did. -/
def fnExactValidClockUptoRow : OpenClaim := { program := "ytgmnaikgjfbgkab", sum := "9376fbe7bce39da01dee3fd4035843e402da810b1824b7d2ecc3cfe62ac5b1a0", func := "loop.example/g00899/laws.FnExactValidClock", spec := "fnExactValidClock", apart := false, narrowed := true }
def FnExactValidClockUptoSaid : Prop := fnExactValidClockUptoRow.holds Try.pinned (OpenSpec.upto fnExactValidClockSpec)

/-- 'laws.FnExactPlainClock', WHERE WHAT IT READS IS OF BULK AT MOST 1048576: true; the input reads as it did. -/
def fnExactPlainClockUptoRow : OpenClaim := { program := "ytgmnaikgjfbgkab", sum := "9376fbe7bce39da01dee3fd4035843e402da810b1824b7d2ecc3cfe62ac5b1a0", func := "loop.example/g00899/laws.FnExactPlainClock", spec := "fnExactPlainClock", apart := false, narrowed := true }
def FnExactPlainClockUptoSaid : Prop := fnExactPlainClockUptoRow.holds Try.pinned (OpenSpec.upto fnExactPlainClockSpec)

/-- 'laws.FnExactStartClock', WHERE WHAT IT READS IS OF BULK AT MOST 1048576: true; the input reads as it did. -/
def fnExactStartClockUptoRow : OpenClaim := { program := "ytgmnaikgjfbgkab", sum := "9376fbe7bce39da01dee3fd4035843e402da810b1824b7d2ecc3cfe62ac5b1a0", func := "loop.example/g00899/laws.FnExactStartClock", spec := "fnExactStartClock", apart := false, narrowed := true }
def FnExactStartClockUptoSaid : Prop := fnExactStartClockUptoRow.holds Try.pinned (OpenSpec.upto fnExactStartClockSpec)

/-- 'laws.FnExactStepClock', WHERE WHAT IT READS IS OF BULK AT MOST 1048576: true; the input reads as it did. -/
def fnExactStepClockUptoRow : OpenClaim := { program := "ytgmnaikgjfbgkab", sum := "9376fbe7bce39da01dee3fd4035843e402da810b1824b7d2ecc3cfe62ac5b1a0", func := "loop.example/g00899/laws.FnExactStepClock", spec := "fnExactStepClock", unfollowed := true, recurses := true, apart := false, narrowed := true }
def FnExactStepClockUptoSaid : Prop := fnExactStepClockUptoRow.holds Try.pinned (OpenSpec.upto fnExactStepClockSpec)

/-- 'laws.FnExactClockErrors', WHERE WHAT IT READS IS OF BULK AT MOST 1048576: true; the input reads as it did. -/
def fnExactClockErrorsUptoRow : OpenClaim := { program := "ytgmnaikgjfbgkab", sum := "9376fbe7bce39da01dee3fd4035843e402da810b1824b7d2ecc3cfe62ac5b1a0", func := "loop.example/g00899/laws.FnExactClockErrors", spec := "fnExactClockErrors", unfollowed := true, recurses := true, apart := false, narrowed := true }
def FnExactClockErrorsUptoSaid : Prop := fnExactClockErrorsUptoRow.holds Try.pinned (OpenSpec.upto fnExactClockErrorsSpec)

/-- 'laws.FnExactGapCounts', WHERE WHAT IT READS IS OF BULK AT MOST 1048576: true; the input reads as it did. -/
def fnExactGapCountsUptoRow : OpenClaim := { program := "ytgmnaikgjfbgkab", sum := "9376fbe7bce39da01dee3fd4035843e402da810b1824b7d2ecc3cfe62ac5b1a0", func := "loop.example/g00899/laws.FnExactGapCounts", spec := "fnExactGapCounts", unfollowed := true, recurses := true, apart := false, narrowed := true }
def FnExactGapCountsUptoSaid : Prop := fnExactGapCountsUptoRow.holds Try.pinned (OpenSpec.upto fnExactGapCountsSpec)

/-- 'laws.FnExactRecoverCells', WHERE WHAT IT READS IS OF BULK AT MOST 1048576: true; the input reads as it did. -/
def fnExactRecoverCellsUptoRow : OpenClaim := { program := "ytgmnaikgjfbgkab", sum := "9376fbe7bce39da01dee3fd4035843e402da810b1824b7d2ecc3cfe62ac5b1a0", func := "loop.example/g00899/laws.FnExactRecoverCells", spec := "fnExactRecoverCells", inPlace := ["internal/abi.NoEscape", "internal/bytealg.MakeNoZero"], unfollowed := true, recurses := true, apart := false, narrowed := true }
def FnExactRecoverCellsUptoSaid : Prop := fnExactRecoverCellsUptoRow.holds Try.pinned (OpenSpec.upto fnExactRecoverCellsSpec)

/-- 'laws.FnExactGuessCell', WHERE WHAT IT READS IS OF BULK AT MOST 1048576: true; the input reads as it did. -/
def fnExactGuessCellUptoRow : OpenClaim := { program := "ytgmnaikgjfbgkab", sum := "9376fbe7bce39da01dee3fd4035843e402da810b1824b7d2ecc3cfe62ac5b1a0", func := "loop.example/g00899/laws.FnExactGuessCell", spec := "fnExactGuessCell", apart := false, narrowed := true }
def FnExactGuessCellUptoSaid : Prop := fnExactGuessCellUptoRow.holds Try.pinned (OpenSpec.upto fnExactGuessCellSpec)

/-- 'laws.FnRecover', WHERE WHAT IT READS IS OF BULK AT MOST 1048576: true; the input reads as it did. -/
def fnRecoverUptoRow : OpenClaim := { program := "ytgmnaikgjfbgkab", sum := "9376fbe7bce39da01dee3fd4035843e402da810b1824b7d2ecc3cfe62ac5b1a0", func := "loop.example/g00899/laws.FnRecover", spec := "fnRecover", inPlace := ["internal/abi.NoEscape", "internal/bytealg.MakeNoZero"], unfollowed := true, recurses := true, apart := false, narrowed := true }
def FnRecoverUptoSaid : Prop := fnRecoverUptoRow.holds Try.pinned (OpenSpec.upto fnRecoverSpec)

/-- 'laws.FnClockSteps', WHERE WHAT IT READS IS OF BULK AT MOST 1048576: true; the input reads as it did. -/
def fnClockStepsUptoRow : OpenClaim := { program := "ytgmnaikgjfbgkab", sum := "9376fbe7bce39da01dee3fd4035843e402da810b1824b7d2ecc3cfe62ac5b1a0", func := "loop.example/g00899/laws.FnClockSteps", spec := "fnClockSteps", unfollowed := true, recurses := true, apart := false, narrowed := true }
def FnClockStepsUptoSaid : Prop := fnClockStepsUptoRow.holds Try.pinned (OpenSpec.upto fnClockStepsSpec)

/-- 'laws.FnExactRotateFlux', WHERE WHAT IT READS IS OF BULK AT MOST 1048576: true; the input reads as it did. -/
def fnExactRotateFluxUptoRow : OpenClaim := { program := "ytgmnaikgjfbgkab", sum := "9376fbe7bce39da01dee3fd4035843e402da810b1824b7d2ecc3cfe62ac5b1a0", func := "loop.example/g00899/laws.FnExactRotateFlux", spec := "fnExactRotateFlux", unfollowed := true, recurses := true, apart := false, narrowed := true }
def FnExactRotateFluxUptoSaid : Prop := fnExactRotateFluxUptoRow.holds Try.pinned (OpenSpec.upto fnExactRotateFluxSpec)

end Rows
end Go.Proofs.Ytgmnaikgjfbgkab
