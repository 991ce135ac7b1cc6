/-
  No cell of these rows narrows 'for every input' (looked for: loops, veiled, ifaces, maps, wideKeys, modest, calm, conditions, laid).
  DERIVED. THE GIVEN ROWS OF THIS SEAT. 12 by the template 'for every input the law returns true; each argument reads behind the call as it read before'; 0 by the template 'total and deterministic' (their statements: YteldnfamfjldpabTotals.lean).
  GIVEN WITH THE SEED: the statements are not yours to turn. If you find one false, say at which input.
  Laid BY PROGRAM, IN A SANDBOX (cutbox-rows.mjs): the forced cells as the released guide's own fill.sh prints them over the translation 5912dc41fb0909ef… (all of the seat's roots in one cut). By AI agents, Wed Nov 11 2026. No macro, syntax, notation, axiom, sorry.
-/
import Derived.Test.YteldnfamfjldpabChecked
import GoSem.Claim
import GoSem.ClaimJoined
import GoSem.ClaimMapViews
import Derived.JoinedTies
import Derived.KernelRfl
namespace Go.Proofs.Yteldnfamfjldpab
/- THE CELL 'sum', in the pinned program and in every row, IS THE sha256 OF THE DUMP (.gsa) THAT YteldnfamfjldpabProg.lean LOADS. Nothing in Lean hashes anything: it is a label: what it is worth is what the hold of that sum in a sandbox is worth. -/
noncomputable def Try.pinned : Pinned := { name := "yteldnfamfjldpab", sum := "5912dc41fb0909efd48ac12da70524fd96f5e080f7ebb7f207681e619cbdd6c7", checked := Try.checked }
namespace Rows
def none {H : Type} : Left H := { results := [], args := [] }

/-- 'laws.FnExactSum16': WHATEVER THE INPUT: true; the input reads as it did. -/
def fnExactSum16Spec : ChangeSpec := { name := "fnExactSum16", fn := fun _ => fun
  | [d] => { results := [.lit (.bool true)], args := [d] }
  | _ => none }
def fnExactSum16Row : OpenClaim := { program := "yteldnfamfjldpab", sum := "5912dc41fb0909efd48ac12da70524fd96f5e080f7ebb7f207681e619cbdd6c7", func := "loop.example/g00899/laws.FnExactSum16", spec := "fnExactSum16", apart := false }
def FnExactSum16Said : Prop := fnExactSum16Row.holds Try.pinned (OpenSpec.ofChange fnExactSum16Spec)

/-- ITS FALSE NEIGHBOUR: 'it returns false'. Refute it at one input. -/
def fnExactSum16Wrong : ChangeSpec := { name := "fnExactSum16", fn := fun _ => fun
  | [d] => { results := [.lit (.bool false)], args := [d] }
  | _ => none }
def FnExactSum16WrongFalsely : Prop := fnExactSum16Row.holds Try.pinned (OpenSpec.ofChange fnExactSum16Wrong)

/-- 'laws.FnExactXorBytes': WHATEVER THE INPUT: true; the input reads as it did. -/
def fnExactXorBytesSpec : ChangeSpec := { name := "fnExactXorBytes", fn := fun _ => fun
  | [d1, d2] => { results := [.lit (.bool true)], args := [d1, d2] }
  | _ => none }
def fnExactXorBytesRow : OpenClaim := { program := "yteldnfamfjldpab", sum := "5912dc41fb0909efd48ac12da70524fd96f5e080f7ebb7f207681e619cbdd6c7", func := "loop.example/g00899/laws.FnExactXorBytes", spec := "fnExactXorBytes", apart := false }
def FnExactXorBytesSaid : Prop := fnExactXorBytesRow.holds Try.pinned (OpenSpec.ofChange fnExactXorBytesSpec)

/-- ITS FALSE NEIGHBOUR: 'it returns false'. Refute it at one input. -/
def fnExactXorBytesWrong : ChangeSpec := { name := "fnExactXorBytes", fn := fun _ => fun
  | [d1, d2] => { results := [.lit (.bool false)], args := [d1, d2] }
  | _ => none }
def FnExactXorBytesWrongFalsely : Prop := fnExactXorBytesRow.holds Try.pinned (OpenSpec.ofChange fnExactXorBytesWrong)

/-- 'laws.FnExactPutWord': WHATEVER THE INPUT: true; the input reads as it did. -/
def fnExactPutWordSpec : ChangeSpec := { name := "fnExactPutWord", fn := fun _ => fun
  | [d] => { results := [.lit (.bool true)], args := [d] }
  | _ => none }
def fnExactPutWordRow : OpenClaim := { program := "yteldnfamfjldpab", sum := "5912dc41fb0909efd48ac12da70524fd96f5e080f7ebb7f207681e619cbdd6c7", func := "loop.example/g00899/laws.FnExactPutWord", spec := "fnExactPutWord", apart := false }
def FnExactPutWordSaid : Prop := fnExactPutWordRow.holds Try.pinned (OpenSpec.ofChange fnExactPutWordSpec)

/-- ITS FALSE NEIGHBOUR: 'it returns false'. Refute it at one input. -/
def fnExactPutWordWrong : ChangeSpec := { name := "fnExactPutWord", fn := fun _ => fun
  | [d] => { results := [.lit (.bool false)], args := [d] }
  | _ => none }
def FnExactPutWordWrongFalsely : Prop := fnExactPutWordRow.holds Try.pinned (OpenSpec.ofChange fnExactPutWordWrong)

/-- 'laws.FnExactGetWord': WHATEVER THE INPUT: true; the input reads as it did. -/
def fnExactGetWordSpec : ChangeSpec := { name := "fnExactGetWord", fn := fun _ => fun
  | [d1, d2] => { results := [.lit (.bool true)], args := [d1, d2] }
  | _ => none }
def fnExactGetWordRow : OpenClaim := { program := "yteldnfamfjldpab", sum := "5912dc41fb0909efd48ac12da70524fd96f5e080f7ebb7f207681e619cbdd6c7", func := "loop.example/g00899/laws.FnExactGetWord", spec := "fnExactGetWord", apart := false }
def FnExactGetWordSaid : Prop := fnExactGetWordRow.holds Try.pinned (OpenSpec.ofChange fnExactGetWordSpec)

/-- ITS FALSE NEIGHBOUR: 'it returns false'. Refute it at one input. -/
def fnExactGetWordWrong : ChangeSpec := { name := "fnExactGetWord", fn := fun _ => fun
  | [d1, d2] => { results := [.lit (.bool false)], args := [d1, d2] }
  | _ => none }
def FnExactGetWordWrongFalsely : Prop := fnExactGetWordRow.holds Try.pinned (OpenSpec.ofChange fnExactGetWordWrong)

/-- 'laws.FnExactValidCells': WHATEVER THE INPUT: true; the input reads as it did. -/
def fnExactValidCellsSpec : ChangeSpec := { name := "fnExactValidCells", fn := fun _ => fun
  | [d] => { results := [.lit (.bool true)], args := [d] }
  | _ => none }
def fnExactValidCellsRow : OpenClaim := { program := "yteldnfamfjldpab", sum := "5912dc41fb0909efd48ac12da70524fd96f5e080f7ebb7f207681e619cbdd6c7", func := "loop.example/g00899/laws.FnExactValidCells", spec := "fnExactValidCells", apart := false }
def FnExactValidCellsSaid : Prop := fnExactValidCellsRow.holds Try.pinned (OpenSpec.ofChange fnExactValidCellsSpec)

/-- ITS FALSE NEIGHBOUR: 'it returns false'. Refute it at one input. -/
def fnExactValidCellsWrong : ChangeSpec := { name := "fnExactValidCells", fn := fun _ => fun
  | [d] => { results := [.lit (.bool false)], args := [d] }
  | _ => none }
def FnExactValidCellsWrongFalsely : Prop := fnExactValidCellsRow.holds Try.pinned (OpenSpec.ofChange fnExactValidCellsWrong)

/-- 'laws.FnExactValidFlux': WHATEVER THE INPUT: true; the input reads as it did. -/
def fnExactValidFluxSpec : ChangeSpec := { name := "fnExactValidFlux", fn := fun _ => fun
  | [d] => { results := [.lit (.bool true)], args := [d] }
  | _ => none }
def fnExactValidFluxRow : OpenClaim := { program := "yteldnfamfjldpab", sum := "5912dc41fb0909efd48ac12da70524fd96f5e080f7ebb7f207681e619cbdd6c7", func := "loop.example/g00899/laws.FnExactValidFlux", spec := "fnExactValidFlux", apart := false }
def FnExactValidFluxSaid : Prop := fnExactValidFluxRow.holds Try.pinned (OpenSpec.ofChange fnExactValidFluxSpec)

/-- ITS FALSE NEIGHBOUR: 'it returns false'. Refute it at one input. -/
def fnExactValidFluxWrong : ChangeSpec := { name := "fnExactValidFlux", fn := fun _ => fun
  | [d] => { results := [.lit (.bool false)], args := [d] }
  | _ => none }
def FnExactValidFluxWrongFalsely : Prop := fnExactValidFluxRow.holds Try.pinned (OpenSpec.ofChange fnExactValidFluxWrong)

/-- 'laws.FnExactSameFlux': WHATEVER THE INPUT: true; the input reads as it did. -/
def fnExactSameFluxSpec : ChangeSpec := { name := "fnExactSameFlux", fn := fun _ => fun
  | [d1, d2] => { results := [.lit (.bool true)], args := [d1, d2] }
  | _ => none }
def fnExactSameFluxRow : OpenClaim := { program := "yteldnfamfjldpab", sum := "5912dc41fb0909efd48ac12da70524fd96f5e080f7ebb7f207681e619cbdd6c7", func := "loop.example/g00899/laws.FnExactSameFlux", spec := "fnExactSameFlux", apart := false }
def FnExactSameFluxSaid : Prop := fnExactSameFluxRow.holds Try.pinned (OpenSpec.ofChange fnExactSameFluxSpec)

/-- ITS FALSE NEIGHBOUR: 'it returns false'. Refute it at one input. -/
def fnExactSameFluxWrong : ChangeSpec := { name := "fnExactSameFlux", fn := fun _ => fun
  | [d1, d2] => { results := [.lit (.bool false)], args := [d1, d2] }
  | _ => none }
def FnExactSameFluxWrongFalsely : Prop := fnExactSameFluxRow.holds Try.pinned (OpenSpec.ofChange fnExactSameFluxWrong)

/-- 'laws.FnExactFluxOf': WHATEVER THE INPUT: true; the input reads as it did. -/
def fnExactFluxOfSpec : ChangeSpec := { name := "fnExactFluxOf", fn := fun _ => fun
  | [d1, d2] => { results := [.lit (.bool true)], args := [d1, d2] }
  | _ => none }
def fnExactFluxOfRow : OpenClaim := { program := "yteldnfamfjldpab", sum := "5912dc41fb0909efd48ac12da70524fd96f5e080f7ebb7f207681e619cbdd6c7", func := "loop.example/g00899/laws.FnExactFluxOf", spec := "fnExactFluxOf", apart := false }
def FnExactFluxOfSaid : Prop := fnExactFluxOfRow.holds Try.pinned (OpenSpec.ofChange fnExactFluxOfSpec)

/-- ITS FALSE NEIGHBOUR: 'it returns false'. Refute it at one input. -/
def fnExactFluxOfWrong : ChangeSpec := { name := "fnExactFluxOf", fn := fun _ => fun
  | [d1, d2] => { results := [.lit (.bool false)], args := [d1, d2] }
  | _ => none }
def FnExactFluxOfWrongFalsely : Prop := fnExactFluxOfRow.holds Try.pinned (OpenSpec.ofChange fnExactFluxOfWrong)

/-- 'laws.FnExactRevolutionOf': WHATEVER THE INPUT: true; the input reads as it did. -/
def fnExactRevolutionOfSpec : ChangeSpec := { name := "fnExactRevolutionOf", fn := fun _ => fun
  | [d] => { results := [.lit (.bool true)], args := [d] }
  | _ => none }
def fnExactRevolutionOfRow : OpenClaim := { program := "yteldnfamfjldpab", sum := "5912dc41fb0909efd48ac12da70524fd96f5e080f7ebb7f207681e619cbdd6c7", func := "loop.example/g00899/laws.FnExactRevolutionOf", spec := "fnExactRevolutionOf", apart := false }
def FnExactRevolutionOfSaid : Prop := fnExactRevolutionOfRow.holds Try.pinned (OpenSpec.ofChange fnExactRevolutionOfSpec)

/-- ITS FALSE NEIGHBOUR: 'it returns false'. Refute it at one input. -/
def fnExactRevolutionOfWrong : ChangeSpec := { name := "fnExactRevolutionOf", fn := fun _ => fun
  | [d] => { results := [.lit (.bool false)], args := [d] }
  | _ => none }
def FnExactRevolutionOfWrongFalsely : Prop := fnExactRevolutionOfRow.holds Try.pinned (OpenSpec.ofChange fnExactRevolutionOfWrong)

/-- 'laws.FnExactChangesOf': WHATEVER THE INPUT: true; the input reads as it did. -/
def fnExactChangesOfSpec : ChangeSpec := { name := "fnExactChangesOf", fn := fun _ => fun
  | [d] => { results := [.lit (.bool true)], args := [d] }
  | _ => none }
def fnExactChangesOfRow : OpenClaim := { program := "yteldnfamfjldpab", sum := "5912dc41fb0909efd48ac12da70524fd96f5e080f7ebb7f207681e619cbdd6c7", func := "loop.example/g00899/laws.FnExactChangesOf", spec := "fnExactChangesOf", unfollowed := true, recurses := true, apart := false }
def FnExactChangesOfSaid : Prop := fnExactChangesOfRow.holds Try.pinned (OpenSpec.ofChange fnExactChangesOfSpec)

/-- ITS FALSE NEIGHBOUR: 'it returns false'. Refute it at one input. -/
def fnExactChangesOfWrong : ChangeSpec := { name := "fnExactChangesOf", fn := fun _ => fun
  | [d] => { results := [.lit (.bool false)], args := [d] }
  | _ => none }
def FnExactChangesOfWrongFalsely : Prop := fnExactChangesOfRow.holds Try.pinned (OpenSpec.ofChange fnExactChangesOfWrong)

/-- 'laws.FnExactRotateCells': WHATEVER THE INPUT: true; the input reads as it did. -/
def fnExactRotateCellsSpec : ChangeSpec := { name := "fnExactRotateCells", fn := fun _ => fun
  | [d1, d2] => { results := [.lit (.bool true)], args := [d1, d2] }
  | _ => none }
def fnExactRotateCellsRow : OpenClaim := { program := "yteldnfamfjldpab", sum := "5912dc41fb0909efd48ac12da70524fd96f5e080f7ebb7f207681e619cbdd6c7", func := "loop.example/g00899/laws.FnExactRotateCells", spec := "fnExactRotateCells", apart := false }
def FnExactRotateCellsSaid : Prop := fnExactRotateCellsRow.holds Try.pinned (OpenSpec.ofChange fnExactRotateCellsSpec)

/-- ITS FALSE NEIGHBOUR: 'it returns false'. Refute it at one input. -/
def fnExactRotateCellsWrong : ChangeSpec := { name := "fnExactRotateCells", fn := fun _ => fun
  | [d1, d2] => { results := [.lit (.bool false)], args := [d1, d2] }
  | _ => none }
def FnExactRotateCellsWrongFalsely : Prop := fnExactRotateCellsRow.holds Try.pinned (OpenSpec.ofChange fnExactRotateCellsWrong)

/-- 'laws.FnExactRotateFlux': WHATEVER THE INPUT: true; the input reads as it did. -/
def fnExactRotateFluxSpec : ChangeSpec := { name := "fnExactRotateFlux", fn := fun _ => fun
  | [d1, d2] => { results := [.lit (.bool true)], args := [d1, d2] }
  | _ => none }
def fnExactRotateFluxRow : OpenClaim := { program := "yteldnfamfjldpab", sum := "5912dc41fb0909efd48ac12da70524fd96f5e080f7ebb7f207681e619cbdd6c7", func := "loop.example/g00899/laws.FnExactRotateFlux", spec := "fnExactRotateFlux", unfollowed := true, recurses := true, apart := false }
def FnExactRotateFluxSaid : Prop := fnExactRotateFluxRow.holds Try.pinned (OpenSpec.ofChange fnExactRotateFluxSpec)

/-- ITS FALSE NEIGHBOUR: 'it returns false'. Refute it at one input. -/
def fnExactRotateFluxWrong : ChangeSpec := { name := "fnExactRotateFlux", fn := fun _ => fun
  | [d1, d2] => { results := [.lit (.bool false)], args := [d1, d2] }
  | _ => none }
def FnExactRotateFluxWrongFalsely : Prop := fnExactRotateFluxRow.holds Try.pinned (OpenSpec.ofChange fnExactRotateFluxWrong)

/- THE SECOND FORM. 'bulk': how many values and letters a reading holds, each counted each time it is reached (what is shared counts as often as it is met; a slice's spare places count too). A statement '..UptoSaid' is the law's where the arguments, and the package variables that the reading takes, are together of bulk at most 1048576: NARROWER than '..Said'. Prove '..Said' where nothing that the law and all that it calls make is longer than what came in: it says more and counts as full. Else prove '..UptoSaid'. A law counts once. -/
mutual
def uptoBulk {H : Type} : DataW H → Nat
  | .lit (.string bytes) => bytes.length + 1
  | .lit _ => 1
  | .nil => 1
  | .ptr d => uptoBulk d + 1
  | .slice elems spare => uptoBulkAll elems + uptoBulkAll spare + 1
  | .agg parts => uptoBulkAll parts + 1
  | .iface _ d => uptoBulk d + 1
  | .map entries => uptoBulkEntries entries + 1
  | .held _ => 1
def uptoBulkAll {H : Type} : List (DataW H) → Nat
  | [] => 0
  | d :: r => uptoBulk d + uptoBulkAll r
def uptoBulkEntries {H : Type} : List (Lit × DataW H) → Nat
  | [] => 0
  | x :: r => uptoBulkEntry x + uptoBulkEntries r
def uptoBulkEntry {H : Type} : Lit × DataW H → Nat
  | (.string bytes, d) => bytes.length + uptoBulk d + 1
  | (_, d) => uptoBulk d + 1
 end
def uptoSmall : (H : Type) → List (DataW H) → Bool := fun _ ds => decide (uptoBulkAll ds ≤ 1048576)
def OpenSpec.upto (s : _root_.Go.ChangeSpec) : _root_.Go.OpenSpec := { _root_.Go.OpenSpec.ofChange s with cond := some uptoSmall }

/-- 'laws.FnExactSum16', WHERE WHAT IT READS IS OF BULK AT MOST 1048576: true; the input reads as it did. -/
def fnExactSum16UptoRow : OpenClaim := { program := "yteldnfamfjldpab", sum := "5912dc41fb0909efd48ac12da70524fd96f5e080f7ebb7f207681e619cbdd6c7", func := "loop.example/g00899/laws.FnExactSum16", spec := "fnExactSum16", apart := false, narrowed := true }
def FnExactSum16UptoSaid : Prop := fnExactSum16UptoRow.holds Try.pinned (OpenSpec.upto fnExactSum16Spec)

/-- 'laws.FnExactXorBytes', WHERE WHAT IT READS IS OF BULK AT MOST 1048576: true; the input reads as it did. -/
def fnExactXorBytesUptoRow : OpenClaim := { program := "yteldnfamfjldpab", sum := "5912dc41fb0909efd48ac12da70524fd96f5e080f7ebb7f207681e619cbdd6c7", func := "loop.example/g00899/laws.FnExactXorBytes", spec := "fnExactXorBytes", apart := false, narrowed := true }
def FnExactXorBytesUptoSaid : Prop := fnExactXorBytesUptoRow.holds Try.pinned (OpenSpec.upto fnExactXorBytesSpec)

/-- 'laws.FnExactPutWord', WHERE WHAT IT READS IS OF BULK AT MOST 1048576: true; the input reads as it did. -/
def fnExactPutWordUptoRow : OpenClaim := { program := "yteldnfamfjldpab", sum := "5912dc41fb0909efd48ac12da70524fd96f5e080f7ebb7f207681e619cbdd6c7", func := "loop.example/g00899/laws.FnExactPutWord", spec := "fnExactPutWord", apart := false, narrowed := true }
def FnExactPutWordUptoSaid : Prop := fnExactPutWordUptoRow.holds Try.pinned (OpenSpec.upto fnExactPutWordSpec)

/-- 'laws.FnExactGetWord', WHERE WHAT IT READS IS OF BULK AT MOST 1048576: true; the input reads as it did. -/
def fnExactGetWordUptoRow : OpenClaim := { program := "yteldnfamfjldpab", sum := "5912dc41fb0909efd48ac12da70524fd96f5e080f7ebb7f207681e619cbdd6c7", func := "loop.example/g00899/laws.FnExactGetWord", spec := "fnExactGetWord", apart := false, narrowed := true }
def FnExactGetWordUptoSaid : Prop := fnExactGetWordUptoRow.holds Try.pinned (OpenSpec.upto fnExactGetWordSpec)

/-- 'laws.FnExactValidCells', WHERE WHAT IT READS IS OF BULK AT MOST 1048576: true; the input reads as it did. -/
def fnExactValidCellsUptoRow : OpenClaim := { program := "yteldnfamfjldpab", sum := "5912dc41fb0909efd48ac12da70524fd96f5e080f7ebb7f207681e619cbdd6c7", func := "loop.example/g00899/laws.FnExactValidCells", spec := "fnExactValidCells", apart := false, narrowed := true }
def FnExactValidCellsUptoSaid : Prop := fnExactValidCellsUptoRow.holds Try.pinned (OpenSpec.upto fnExactValidCellsSpec)

/-- 'laws.FnExactValidFlux', WHERE WHAT IT READS IS OF BULK AT MOST 1048576: true; the input reads as it did. -/
def fnExactValidFluxUptoRow : OpenClaim := { program := "yteldnfamfjldpab", sum := "5912dc41fb0909efd48ac12da70524fd96f5e080f7ebb7f207681e619cbdd6c7", func := "loop.example/g00899/laws.FnExactValidFlux", spec := "fnExactValidFlux", apart := false, narrowed := true }
def FnExactValidFluxUptoSaid : Prop := fnExactValidFluxUptoRow.holds Try.pinned (OpenSpec.upto fnExactValidFluxSpec)

/-- 'laws.FnExactSameFlux', WHERE WHAT IT READS IS OF BULK AT MOST 1048576: true; the input reads as it did. -/
def fnExactSameFluxUptoRow : OpenClaim := { program := "yteldnfamfjldpab", sum := "5912dc41fb0909efd48ac12da70524fd96f5e080f7ebb7f207681e619cbdd6c7", func := "loop.example/g00899/laws.FnExactSameFlux", spec := "fnExactSameFlux", apart := false, narrowed := true }
def FnExactSameFluxUptoSaid : Prop := fnExactSameFluxUptoRow.holds Try.pinned (OpenSpec.upto fnExactSameFluxSpec)

/-- 'laws.FnExactFluxOf', WHERE WHAT IT READS IS OF BULK AT MOST 1048576: true; the input reads as it did. -/
def fnExactFluxOfUptoRow : OpenClaim := { program := "yteldnfamfjldpab", sum := "5912dc41fb0909efd48ac12da70524fd96f5e080f7ebb7f207681e619cbdd6c7", func := "loop.example/g00899/laws.FnExactFluxOf", spec := "fnExactFluxOf", apart := false, narrowed := true }
def FnExactFluxOfUptoSaid : Prop := fnExactFluxOfUptoRow.holds Try.pinned (OpenSpec.upto fnExactFluxOfSpec)

/-- 'laws.FnExactRevolutionOf', WHERE WHAT IT READS IS OF BULK AT MOST 1048576: true; the input reads as it did. -/
def fnExactRevolutionOfUptoRow : OpenClaim := { program := "yteldnfamfjldpab", sum := "5912dc41fb0909efd48ac12da70524fd96f5e080f7ebb7f207681e619cbdd6c7", func := "loop.example/g00899/laws.FnExactRevolutionOf", spec := "fnExactRevolutionOf", apart := false, narrowed := true }
def FnExactRevolutionOfUptoSaid : Prop := fnExactRevolutionOfUptoRow.holds Try.pinned (OpenSpec.upto fnExactRevolutionOfSpec)

/-- 'laws.FnExactChangesOf', WHERE WHAT IT READS IS OF BULK AT MOST 1048576: true; the input reads as it did. -/
def fnExactChangesOfUptoRow : OpenClaim := { program := "yteldnfamfjldpab", sum := "5912dc41fb0909efd48ac12da70524fd96f5e080f7ebb7f207681e619cbdd6c7", func := "loop.example/g00899/laws.FnExactChangesOf", spec := "fnExactChangesOf", unfollowed := true, recurses := true, apart := false, narrowed := true }
def FnExactChangesOfUptoSaid : Prop := fnExactChangesOfUptoRow.holds Try.pinned (OpenSpec.upto fnExactChangesOfSpec)

/-- 'laws.FnExactRotateCells', WHERE WHAT IT READS IS OF BULK AT MOST 1048576: true; the input reads as it did. -/
def fnExactRotateCellsUptoRow : OpenClaim := { program := "yteldnfamfjldpab", sum := "5912dc41fb0909efd48ac12da70524fd96f5e080f7ebb7f207681e619cbdd6c7", func := "loop.example/g00899/laws.FnExactRotateCells", spec := "fnExactRotateCells", apart := false, narrowed := true }
def FnExactRotateCellsUptoSaid : Prop := fnExactRotateCellsUptoRow.holds Try.pinned (OpenSpec.upto fnExactRotateCellsSpec)

/-- 'laws.FnExactRotateFlux', WHERE WHAT IT READS IS OF BULK AT MOST 1048576: true; the input reads as it did. -/
def fnExactRotateFluxUptoRow : OpenClaim := { program := "yteldnfamfjldpab", sum := "5912dc41fb0909efd48ac12da70524fd96f5e080f7ebb7f207681e619cbdd6c7", func := "loop.example/g00899/laws.FnExactRotateFlux", spec := "fnExactRotateFlux", unfollowed := true, recurses := true, apart := false, narrowed := true }
def FnExactRotateFluxUptoSaid : Prop := fnExactRotateFluxUptoRow.holds Try.pinned (OpenSpec.upto fnExactRotateFluxSpec)

end Rows
end Go.Proofs.Yteldnfamfjldpab
