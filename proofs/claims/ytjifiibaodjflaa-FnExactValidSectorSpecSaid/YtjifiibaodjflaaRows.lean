/-
  No cell of these rows narrows 'for every input' (looked for: loops, veiled, ifaces, maps, wideKeys, modest, calm, conditions, laid).
  DERIVED. THE GIVEN ROWS OF THIS SEAT. 11 by the template 'for every input the law returns true; each argument reads behind the call as it read before'; 0 by the template 'total and deterministic' (their statements: YtjifiibaodjflaaTotals.lean).
  GIVEN WITH THE SEED: the statements are not yours to turn. If you find one false, say at which input.
  Laid BY PROGRAM, IN A SANDBOX (cutbox-rows.mjs): the forced cells as the released guide's own fill.sh prints them over the translation 7c04cad26476dc21… (all of the seat's roots in one cut). By AI agents, Wed Nov 11 2026. No macro, syntax, notation, axiom, sorry.
-/
import Derived.Test.YtjifiibaodjflaaChecked
import GoSem.Claim
import GoSem.ClaimJoined
import GoSem.ClaimMapViews
import Derived.JoinedTies
import Derived.KernelRfl
namespace Go.Proofs.Ytjifiibaodjflaa
/- THE CELL 'sum', in the pinned program and in every row, IS THE sha256 OF THE DUMP (.gsa) THAT YtjifiibaodjflaaProg.lean LOADS. Nothing in Lean hashes anything: it is a label: what it is worth is what the hold of that sum in a sandbox is worth. -/
noncomputable def Try.pinned : Pinned := { name := "ytjifiibaodjflaa", sum := "7c04cad26476dc2168a3787207918ffd4f8c542053bda7b8be4c766336bf92c1", checked := Try.checked }
namespace Rows
def none {H : Type} : Left H := { results := [], args := [] }

/-- 'laws.FnExactSliceCells': WHATEVER THE INPUT: true; the input reads as it did. -/
def fnExactSliceCellsSpec : ChangeSpec := { name := "fnExactSliceCells", fn := fun _ => fun
  | [d1, d2, d3] => { results := [.lit (.bool true)], args := [d1, d2, d3] }
  | _ => none }
def fnExactSliceCellsRow : OpenClaim := { program := "ytjifiibaodjflaa", sum := "7c04cad26476dc2168a3787207918ffd4f8c542053bda7b8be4c766336bf92c1", func := "loop.example/g00899/laws.FnExactSliceCells", spec := "fnExactSliceCells", apart := false }
def FnExactSliceCellsSaid : Prop := fnExactSliceCellsRow.holds Try.pinned (OpenSpec.ofChange fnExactSliceCellsSpec)

/-- ITS FALSE NEIGHBOUR: 'it returns false'. Refute it at one input. -/
def fnExactSliceCellsWrong : ChangeSpec := { name := "fnExactSliceCells", fn := fun _ => fun
  | [d1, d2, d3] => { results := [.lit (.bool false)], args := [d1, d2, d3] }
  | _ => none }
def FnExactSliceCellsWrongFalsely : Prop := fnExactSliceCellsRow.holds Try.pinned (OpenSpec.ofChange fnExactSliceCellsWrong)

/-- 'laws.FnExactCellsBetween': WHATEVER THE INPUT: true; the input reads as it did. -/
def fnExactCellsBetweenSpec : ChangeSpec := { name := "fnExactCellsBetween", fn := fun _ => fun
  | [d1, d2, d3] => { results := [.lit (.bool true)], args := [d1, d2, d3] }
  | _ => none }
def fnExactCellsBetweenRow : OpenClaim := { program := "ytjifiibaodjflaa", sum := "7c04cad26476dc2168a3787207918ffd4f8c542053bda7b8be4c766336bf92c1", func := "loop.example/g00899/laws.FnExactCellsBetween", spec := "fnExactCellsBetween", apart := false }
def FnExactCellsBetweenSaid : Prop := fnExactCellsBetweenRow.holds Try.pinned (OpenSpec.ofChange fnExactCellsBetweenSpec)

/-- ITS FALSE NEIGHBOUR: 'it returns false'. Refute it at one input. -/
def fnExactCellsBetweenWrong : ChangeSpec := { name := "fnExactCellsBetween", fn := fun _ => fun
  | [d1, d2, d3] => { results := [.lit (.bool false)], args := [d1, d2, d3] }
  | _ => none }
def FnExactCellsBetweenWrongFalsely : Prop := fnExactCellsBetweenRow.holds Try.pinned (OpenSpec.ofChange fnExactCellsBetweenWrong)

/-- 'laws.FnExactInterleave': WHATEVER THE INPUT: true; the input reads as it did. -/
def fnExactInterleaveSpec : ChangeSpec := { name := "fnExactInterleave", fn := fun _ => fun
  | [d1, d2] => { results := [.lit (.bool true)], args := [d1, d2] }
  | _ => none }
def fnExactInterleaveRow : OpenClaim := { program := "ytjifiibaodjflaa", sum := "7c04cad26476dc2168a3787207918ffd4f8c542053bda7b8be4c766336bf92c1", func := "loop.example/g00899/laws.FnExactInterleave", spec := "fnExactInterleave", apart := false }
def FnExactInterleaveSaid : Prop := fnExactInterleaveRow.holds Try.pinned (OpenSpec.ofChange fnExactInterleaveSpec)

/-- ITS FALSE NEIGHBOUR: 'it returns false'. Refute it at one input. -/
def fnExactInterleaveWrong : ChangeSpec := { name := "fnExactInterleave", fn := fun _ => fun
  | [d1, d2] => { results := [.lit (.bool false)], args := [d1, d2] }
  | _ => none }
def FnExactInterleaveWrongFalsely : Prop := fnExactInterleaveRow.holds Try.pinned (OpenSpec.ofChange fnExactInterleaveWrong)

/-- 'laws.FnExactValidSectorSpec': WHATEVER THE INPUT: true; the input reads as it did. -/
def fnExactValidSectorSpecSpec : ChangeSpec := { name := "fnExactValidSectorSpec", fn := fun _ => fun
  | [d] => { results := [.lit (.bool true)], args := [d] }
  | _ => none }
def fnExactValidSectorSpecRow : OpenClaim := { program := "ytjifiibaodjflaa", sum := "7c04cad26476dc2168a3787207918ffd4f8c542053bda7b8be4c766336bf92c1", func := "loop.example/g00899/laws.FnExactValidSectorSpec", spec := "fnExactValidSectorSpec", apart := false }
def FnExactValidSectorSpecSaid : Prop := fnExactValidSectorSpecRow.holds Try.pinned (OpenSpec.ofChange fnExactValidSectorSpecSpec)

/-- ITS FALSE NEIGHBOUR: 'it returns false'. Refute it at one input. -/
def fnExactValidSectorSpecWrong : ChangeSpec := { name := "fnExactValidSectorSpec", fn := fun _ => fun
  | [d] => { results := [.lit (.bool false)], args := [d] }
  | _ => none }
def FnExactValidSectorSpecWrongFalsely : Prop := fnExactValidSectorSpecRow.holds Try.pinned (OpenSpec.ofChange fnExactValidSectorSpecWrong)

/-- 'laws.FnExactFindPattern': WHATEVER THE INPUT: true; the input reads as it did. -/
def fnExactFindPatternSpec : ChangeSpec := { name := "fnExactFindPattern", fn := fun _ => fun
  | [d1, d2] => { results := [.lit (.bool true)], args := [d1, d2] }
  | _ => none }
def fnExactFindPatternRow : OpenClaim := { program := "ytjifiibaodjflaa", sum := "7c04cad26476dc2168a3787207918ffd4f8c542053bda7b8be4c766336bf92c1", func := "loop.example/g00899/laws.FnExactFindPattern", spec := "fnExactFindPattern", inPlace := ["internal/bytealg.IndexByteString", "internal/bytealg.IndexString"], named := ["internal/bytealg.MaxLen"], apart := false }
def FnExactFindPatternSaid : Prop := fnExactFindPatternRow.holds Try.pinned (OpenSpec.ofChange fnExactFindPatternSpec)

/-- ITS FALSE NEIGHBOUR: 'it returns false'. Refute it at one input. -/
def fnExactFindPatternWrong : ChangeSpec := { name := "fnExactFindPattern", fn := fun _ => fun
  | [d1, d2] => { results := [.lit (.bool false)], args := [d1, d2] }
  | _ => none }
def FnExactFindPatternWrongFalsely : Prop := fnExactFindPatternRow.holds Try.pinned (OpenSpec.ofChange fnExactFindPatternWrong)

/-- 'laws.FnExactSyncRuns': WHATEVER THE INPUT: true; the input reads as it did. -/
def fnExactSyncRunsSpec : ChangeSpec := { name := "fnExactSyncRuns", fn := fun _ => fun
  | [d] => { results := [.lit (.bool true)], args := [d] }
  | _ => none }
def fnExactSyncRunsRow : OpenClaim := { program := "ytjifiibaodjflaa", sum := "7c04cad26476dc2168a3787207918ffd4f8c542053bda7b8be4c766336bf92c1", func := "loop.example/g00899/laws.FnExactSyncRuns", spec := "fnExactSyncRuns", inPlace := ["internal/bytealg.IndexByteString", "internal/bytealg.IndexString"], named := ["internal/bytealg.MaxLen"], apart := false }
def FnExactSyncRunsSaid : Prop := fnExactSyncRunsRow.holds Try.pinned (OpenSpec.ofChange fnExactSyncRunsSpec)

/-- ITS FALSE NEIGHBOUR: 'it returns false'. Refute it at one input. -/
def fnExactSyncRunsWrong : ChangeSpec := { name := "fnExactSyncRuns", fn := fun _ => fun
  | [d] => { results := [.lit (.bool false)], args := [d] }
  | _ => none }
def FnExactSyncRunsWrongFalsely : Prop := fnExactSyncRunsRow.holds Try.pinned (OpenSpec.ofChange fnExactSyncRunsWrong)

/-- 'laws.FnSyncs': WHATEVER THE INPUT: true; the input reads as it did. -/
def fnSyncsSpec : ChangeSpec := { name := "fnSyncs", fn := fun _ => fun
  | [d1, d2] => { results := [.lit (.bool true)], args := [d1, d2] }
  | _ => none }
def fnSyncsRow : OpenClaim := { program := "ytjifiibaodjflaa", sum := "7c04cad26476dc2168a3787207918ffd4f8c542053bda7b8be4c766336bf92c1", func := "loop.example/g00899/laws.FnSyncs", spec := "fnSyncs", inPlace := ["internal/bytealg.IndexByteString", "internal/bytealg.IndexString"], named := ["internal/bytealg.MaxLen"], apart := false }
def FnSyncsSaid : Prop := fnSyncsRow.holds Try.pinned (OpenSpec.ofChange fnSyncsSpec)

/-- ITS FALSE NEIGHBOUR: 'it returns false'. Refute it at one input. -/
def fnSyncsWrong : ChangeSpec := { name := "fnSyncs", fn := fun _ => fun
  | [d1, d2] => { results := [.lit (.bool false)], args := [d1, d2] }
  | _ => none }
def FnSyncsWrongFalsely : Prop := fnSyncsRow.holds Try.pinned (OpenSpec.ofChange fnSyncsWrong)

/-- 'laws.FnExactValidMarks': WHATEVER THE INPUT: true; the input reads as it did. -/
def fnExactValidMarksSpec : ChangeSpec := { name := "fnExactValidMarks", fn := fun _ => fun
  | [d1, d2] => { results := [.lit (.bool true)], args := [d1, d2] }
  | _ => none }
def fnExactValidMarksRow : OpenClaim := { program := "ytjifiibaodjflaa", sum := "7c04cad26476dc2168a3787207918ffd4f8c542053bda7b8be4c766336bf92c1", func := "loop.example/g00899/laws.FnExactValidMarks", spec := "fnExactValidMarks", apart := false }
def FnExactValidMarksSaid : Prop := fnExactValidMarksRow.holds Try.pinned (OpenSpec.ofChange fnExactValidMarksSpec)

/-- ITS FALSE NEIGHBOUR: 'it returns false'. Refute it at one input. -/
def fnExactValidMarksWrong : ChangeSpec := { name := "fnExactValidMarks", fn := fun _ => fun
  | [d1, d2] => { results := [.lit (.bool false)], args := [d1, d2] }
  | _ => none }
def FnExactValidMarksWrongFalsely : Prop := fnExactValidMarksRow.holds Try.pinned (OpenSpec.ofChange fnExactValidMarksWrong)

/-- 'laws.FnExactNextMark': WHATEVER THE INPUT: true; the input reads as it did. -/
def fnExactNextMarkSpec : ChangeSpec := { name := "fnExactNextMark", fn := fun _ => fun
  | [d1, d2] => { results := [.lit (.bool true)], args := [d1, d2] }
  | _ => none }
def fnExactNextMarkRow : OpenClaim := { program := "ytjifiibaodjflaa", sum := "7c04cad26476dc2168a3787207918ffd4f8c542053bda7b8be4c766336bf92c1", func := "loop.example/g00899/laws.FnExactNextMark", spec := "fnExactNextMark", unfollowed := true, recurses := true, apart := false }
def FnExactNextMarkSaid : Prop := fnExactNextMarkRow.holds Try.pinned (OpenSpec.ofChange fnExactNextMarkSpec)

/-- ITS FALSE NEIGHBOUR: 'it returns false'. Refute it at one input. -/
def fnExactNextMarkWrong : ChangeSpec := { name := "fnExactNextMark", fn := fun _ => fun
  | [d1, d2] => { results := [.lit (.bool false)], args := [d1, d2] }
  | _ => none }
def FnExactNextMarkWrongFalsely : Prop := fnExactNextMarkRow.holds Try.pinned (OpenSpec.ofChange fnExactNextMarkWrong)

/-- 'laws.FnExactValidTrackSpec': WHATEVER THE INPUT: true; the input reads as it did. -/
def fnExactValidTrackSpecSpec : ChangeSpec := { name := "fnExactValidTrackSpec", fn := fun _ => fun
  | [d] => { results := [.lit (.bool true)], args := [d] }
  | _ => none }
def fnExactValidTrackSpecRow : OpenClaim := { program := "ytjifiibaodjflaa", sum := "7c04cad26476dc2168a3787207918ffd4f8c542053bda7b8be4c766336bf92c1", func := "loop.example/g00899/laws.FnExactValidTrackSpec", spec := "fnExactValidTrackSpec", unfollowed := true, recurses := true, apart := false }
def FnExactValidTrackSpecSaid : Prop := fnExactValidTrackSpecRow.holds Try.pinned (OpenSpec.ofChange fnExactValidTrackSpecSpec)

/-- ITS FALSE NEIGHBOUR: 'it returns false'. Refute it at one input. -/
def fnExactValidTrackSpecWrong : ChangeSpec := { name := "fnExactValidTrackSpec", fn := fun _ => fun
  | [d] => { results := [.lit (.bool false)], args := [d] }
  | _ => none }
def FnExactValidTrackSpecWrongFalsely : Prop := fnExactValidTrackSpecRow.holds Try.pinned (OpenSpec.ofChange fnExactValidTrackSpecWrong)

/-- 'laws.FnExactSameTrackSpec': WHATEVER THE INPUT: true; the input reads as it did. -/
def fnExactSameTrackSpecSpec : ChangeSpec := { name := "fnExactSameTrackSpec", fn := fun _ => fun
  | [d1, d2] => { results := [.lit (.bool true)], args := [d1, d2] }
  | _ => none }
def fnExactSameTrackSpecRow : OpenClaim := { program := "ytjifiibaodjflaa", sum := "7c04cad26476dc2168a3787207918ffd4f8c542053bda7b8be4c766336bf92c1", func := "loop.example/g00899/laws.FnExactSameTrackSpec", spec := "fnExactSameTrackSpec", apart := false }
def FnExactSameTrackSpecSaid : Prop := fnExactSameTrackSpecRow.holds Try.pinned (OpenSpec.ofChange fnExactSameTrackSpecSpec)

/-- ITS FALSE NEIGHBOUR: 'it returns false'. Refute it at one input. -/
def fnExactSameTrackSpecWrong : ChangeSpec := { name := "fnExactSameTrackSpec", fn := fun _ => fun
  | [d1, d2] => { results := [.lit (.bool false)], args := [d1, d2] }
  | _ => none }
def FnExactSameTrackSpecWrongFalsely : Prop := fnExactSameTrackSpecRow.holds Try.pinned (OpenSpec.ofChange fnExactSameTrackSpecWrong)

/- THE SECOND FORM. 'bulk': how many values and letters a reading holds, each counted each time it is reached (what is shared counts as often as it is met; a slice's spare places count too). A statement '..UptoSaid' is the law's where the arguments, and the package variables that the reading takes, are together of bulk at most 1048576: NARROWER than '..Said'. Prove '..Said' where nothing that the law and all that it calls make is longer than what came in: it says more and counts as full. Else prove '..UptoSaid'. A law counts once. -/
mutual
def uptoBulk {H : Type} : DataW H → Nat
  | .lit (.string bytes) => bytes.length + 1
  | .lit _ => 1
  | .nil => 1
  | .ptr d => uptoBulk d + 1
  | .slice elems spare => uptoBulkAll elems + uptoBulkAll spare + 1
  | .agg parts => uptoBulkAll parts + 1
  | .iface _ d => uptoBulk d + 1
  | .map entries => uptoBulkEntries entries + 1
  | .held _ => 1
def uptoBulkAll {H : Type} : List (DataW H) → Nat
  | [] => 0
  | d :: r => uptoBulk d + uptoBulkAll r
def uptoBulkEntries {H : Type} : List (Lit × DataW H) → Nat
  | [] => 0
  | x :: r => uptoBulkEntry x + uptoBulkEntries r
def uptoBulkEntry {H : Type} : Lit × DataW H → Nat
  | (.string bytes, d) => bytes.length + uptoBulk d + 1
  | (_, d) => uptoBulk d + 1
 end
def uptoSmall : (H : Type) → List (DataW H) → Bool := fun _ ds => decide (uptoBulkAll ds ≤ 1048576)
def OpenSpec.upto (s : _root_.Go.ChangeSpec) : _root_.Go.OpenSpec := { _root_.Go.OpenSpec.ofChange s with cond := some uptoSmall }

/-- 'laws.FnExactSliceCells', WHERE WHAT IT READS IS OF BULK AT MOST 1048576: true; the input reads as it did. -/
def fnExactSliceCellsUptoRow : OpenClaim := { program := "ytjifiibaodjflaa", sum := "7c04cad26476dc2168a3787207918ffd4f8c542053bda7b8be4c766336bf92c1", func := "loop.example/g00899/laws.FnExactSliceCells", spec := "fnExactSliceCells", apart := false, narrowed := true }
def FnExactSliceCellsUptoSaid : Prop := fnExactSliceCellsUptoRow.holds Try.pinned (OpenSpec.upto fnExactSliceCellsSpec)

/-- 'laws.FnExactCellsBetween', WHERE WHAT IT READS IS OF BULK AT MOST 1048576: true; the input reads as it did. -/
def fnExactCellsBetweenUptoRow : OpenClaim := { program := "ytjifiibaodjflaa", sum := "7c04cad26476dc2168a3787207918ffd4f8c542053bda7b8be4c766336bf92c1", func := "loop.example/g00899/laws.FnExactCellsBetween", spec := "fnExactCellsBetween", apart := false, narrowed := true }
def FnExactCellsBetweenUptoSaid : Prop := fnExactCellsBetweenUptoRow.holds Try.pinned (OpenSpec.upto fnExactCellsBetweenSpec)

/-- 'laws.FnExactInterleave', WHERE WHAT IT READS IS OF BULK AT MOST 1048576: true; the input reads as it did. -/
def fnExactInterleaveUptoRow : OpenClaim := { program := "ytjifiibaodjflaa", sum := "7c04cad26476dc2168a3787207918ffd4f8c542053bda7b8be4c766336bf92c1", func := "loop.example/g00899/laws.FnExactInterleave", spec := "fnExactInterleave", apart := false, narrowed := true }
def FnExactInterleaveUptoSaid : Prop := fnExactInterleaveUptoRow.holds Try.pinned (OpenSpec.upto fnExactInterleaveSpec)

/-- 'laws.FnExactValidSectorSpec', WHERE WHAT IT READS IS OF BULK AT MOST 1048576: true; the input reads as it did. -/
def fnExactValidSectorSpecUptoRow : OpenClaim := { program := "ytjifiibaodjflaa", sum := "7c04cad26476dc2168a3787207918ffd4f8c542053bda7b8be4c766336bf92c1", func := "loop.example/g00899/laws.FnExactValidSectorSpec", spec := "fnExactValidSectorSpec", apart := false, narrowed := true }
def FnExactValidSectorSpecUptoSaid : Prop := fnExactValidSectorSpecUptoRow.holds Try.pinned (OpenSpec.upto fnExactValidSectorSpecSpec)

/-- 'laws.FnExactFindPattern', WHERE WHAT IT READS IS OF BULK AT MOST 1048576: true; the input reads as it did. -/
def fnExactFindPatternUptoRow : OpenClaim := { program := "ytjifiibaodjflaa", sum := "7c04cad26476dc2168a3787207918ffd4f8c542053bda7b8be4c766336bf92c1", func := "loop.example/g00899/laws.FnExactFindPattern", spec := "fnExactFindPattern", inPlace := ["internal/bytealg.IndexByteString", "internal/bytealg.IndexString"], named := ["internal/bytealg.MaxLen"], apart := false, narrowed := true }
def FnExactFindPatternUptoSaid : Prop := fnExactFindPatternUptoRow.holds Try.pinned (OpenSpec.upto fnExactFindPatternSpec)

/-- 'laws.FnExactSyncRuns', WHERE WHAT IT READS IS OF BULK AT MOST 1048576: true; the input reads as it did. -/
def fnExactSyncRunsUptoRow : OpenClaim := { program := "ytjifiibaodjflaa", sum := "7c04cad26476dc2168a3787207918ffd4f8c542053bda7b8be4c766336bf92c1", func := "loop.example/g00899/laws.FnExactSyncRuns", spec := "fnExactSyncRuns", inPlace := ["internal/bytealg.IndexByteString", "internal/bytealg.IndexString"], named := ["internal/bytealg.MaxLen"], apart := false, narrowed := true }
def FnExactSyncRunsUptoSaid : Prop := fnExactSyncRunsUptoRow.holds Try.pinned (OpenSpec.upto fnExactSyncRunsSpec)

/-- 'laws.FnSyncs', WHERE WHAT IT READS IS OF BULK AT MOST 1048576: true; the input reads as it did. -/
def fnSyncsUptoRow : OpenClaim := { program := "ytjifiibaodjflaa", sum := "7c04cad26476dc2168a3787207918ffd4f8c542053bda7b8be4c766336bf92c1", func := "loop.example/g00899/laws.FnSyncs", spec := "fnSyncs", inPlace := ["internal/bytealg.IndexByteString", "internal/bytealg.IndexString"], named := ["internal/bytealg.MaxLen"], apart := false, narrowed := true }
def FnSyncsUptoSaid : Prop := fnSyncsUptoRow.holds Try.pinned (OpenSpec.upto fnSyncsSpec)

/-- 'laws.FnExactValidMarks', WHERE WHAT IT READS IS OF BULK AT MOST 1048576: true; the input reads as it did. -/
def fnExactValidMarksUptoRow : OpenClaim := { program := "ytjifiibaodjflaa", sum := "7c04cad26476dc2168a3787207918ffd4f8c542053bda7b8be4c766336bf92c1", func := "loop.example/g00899/laws.FnExactValidMarks", spec := "fnExactValidMarks", apart := false, narrowed := true }
def FnExactValidMarksUptoSaid : Prop := fnExactValidMarksUptoRow.holds Try.pinned (OpenSpec.upto fnExactValidMarksSpec)

/-- 'laws.FnExactNextMark', WHERE WHAT IT READS IS OF BULK AT MOST 1048576: true; the input reads as it did. -/
def fnExactNextMarkUptoRow : OpenClaim := { program := "ytjifiibaodjflaa", sum := "7c04cad26476dc2168a3787207918ffd4f8c542053bda7b8be4c766336bf92c1", func := "loop.example/g00899/laws.FnExactNextMark", spec := "fnExactNextMark", unfollowed := true, recurses := true, apart := false, narrowed := true }
def FnExactNextMarkUptoSaid : Prop := fnExactNextMarkUptoRow.holds Try.pinned (OpenSpec.upto fnExactNextMarkSpec)

/-- 'laws.FnExactValidTrackSpec', WHERE WHAT IT READS IS OF BULK AT MOST 1048576: true; the input reads as it did. -/
def fnExactValidTrackSpecUptoRow : OpenClaim := { program := "ytjifiibaodjflaa", sum := "7c04cad26476dc2168a3787207918ffd4f8c542053bda7b8be4c766336bf92c1", func := "loop.example/g00899/laws.FnExactValidTrackSpec", spec := "fnExactValidTrackSpec", unfollowed := true, recurses := true, apart := false, narrowed := true }
def FnExactValidTrackSpecUptoSaid : Prop := fnExactValidTrackSpecUptoRow.holds Try.pinned (OpenSpec.upto fnExactValidTrackSpecSpec)

/-- 'laws.FnExactSameTrackSpec', WHERE WHAT IT READS IS OF BULK AT MOST 1048576: true; the input reads as it did. -/
def fnExactSameTrackSpecUptoRow : OpenClaim := { program := "ytjifiibaodjflaa", sum := "7c04cad26476dc2168a3787207918ffd4f8c542053bda7b8be4c766336bf92c1", func := "loop.example/g00899/laws.FnExactSameTrackSpec", spec := "fnExactSameTrackSpec", apart := false, narrowed := true }
def FnExactSameTrackSpecUptoSaid : Prop := fnExactSameTrackSpecUptoRow.holds Try.pinned (OpenSpec.upto fnExactSameTrackSpecSpec)

end Rows
end Go.Proofs.Ytjifiibaodjflaa
