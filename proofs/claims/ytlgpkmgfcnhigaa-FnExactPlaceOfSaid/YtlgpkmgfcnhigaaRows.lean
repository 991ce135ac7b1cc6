/-
  No cell of these rows narrows 'for every input' (looked for: loops, veiled, ifaces, maps, wideKeys, modest, calm, conditions, laid).
  DERIVED. THE GIVEN ROWS OF THIS SEAT. 6 by the template 'for every input the law returns true; each argument reads behind the call as it read before'; 0 by the template 'total and deterministic' (their statements: YtlgpkmgfcnhigaaTotals.lean).
  GIVEN WITH THE SEED: the statements are not yours to turn. If you find one false, say at which input.
  Laid BY PROGRAM, IN A SANDBOX (cutbox-rows.mjs): the forced cells as the released guide's own fill.sh prints them over the translation cd5b75f944f93352… (all of the seat's roots in one cut). By AI agents, Wed Nov 11 2026. No macro, syntax, notation, axiom, sorry.
-/
import Derived.Test.YtlgpkmgfcnhigaaChecked
import GoSem.Claim
import GoSem.ClaimJoined
import GoSem.ClaimMapViews
import Derived.JoinedTies
import Derived.KernelRfl
namespace Go.Proofs.Ytlgpkmgfcnhigaa
/- THE CELL 'sum', in the pinned program and in every row, IS THE sha256 OF THE DUMP (.gsa) THAT YtlgpkmgfcnhigaaProg.lean LOADS. Nothing in Lean hashes anything: it is a label: what it is worth is what the hold of that sum in a sandbox is worth. -/
noncomputable def Try.pinned : Pinned := { name := "ytlgpkmgfcnhigaa", sum := "cd5b75f944f9335241ea6c7c16f7e199284d018a5d378afa7faed1ac4afd0b73", checked := Try.checked }
namespace Rows
def none {H : Type} : Left H := { results := [], args := [] }

/-- 'laws.FnExactSameFiles': WHATEVER THE INPUT: true; the input reads as it did. -/
def fnExactSameFilesSpec : ChangeSpec := { name := "fnExactSameFiles", fn := fun _ => fun
  | [d1, d2] => { results := [.lit (.bool true)], args := [d1, d2] }
  | _ => none }
def fnExactSameFilesRow : OpenClaim := { program := "ytlgpkmgfcnhigaa", sum := "cd5b75f944f9335241ea6c7c16f7e199284d018a5d378afa7faed1ac4afd0b73", func := "loop.example/g00899/laws.FnExactSameFiles", spec := "fnExactSameFiles", apart := false }
def FnExactSameFilesSaid : Prop := fnExactSameFilesRow.holds Try.pinned (OpenSpec.ofChange fnExactSameFilesSpec)

/-- ITS FALSE NEIGHBOUR: 'it returns false'. Refute it at one input. -/
def fnExactSameFilesWrong : ChangeSpec := { name := "fnExactSameFiles", fn := fun _ => fun
  | [d1, d2] => { results := [.lit (.bool false)], args := [d1, d2] }
  | _ => none }
def FnExactSameFilesWrongFalsely : Prop := fnExactSameFilesRow.holds Try.pinned (OpenSpec.ofChange fnExactSameFilesWrong)

/-- 'laws.FnExactFilesText': WHATEVER THE INPUT: true; the input reads as it did. -/
def fnExactFilesTextSpec : ChangeSpec := { name := "fnExactFilesText", fn := fun _ => fun
  | [d] => { results := [.lit (.bool true)], args := [d] }
  | _ => none }
def fnExactFilesTextRow : OpenClaim := { program := "ytlgpkmgfcnhigaa", sum := "cd5b75f944f9335241ea6c7c16f7e199284d018a5d378afa7faed1ac4afd0b73", func := "loop.example/g00899/laws.FnExactFilesText", spec := "fnExactFilesText", inPlace := ["internal/abi.NoEscape"], unfollowed := true, recurses := true, apart := false }
def FnExactFilesTextSaid : Prop := fnExactFilesTextRow.holds Try.pinned (OpenSpec.ofChange fnExactFilesTextSpec)

/-- ITS FALSE NEIGHBOUR: 'it returns false'. Refute it at one input. -/
def fnExactFilesTextWrong : ChangeSpec := { name := "fnExactFilesText", fn := fun _ => fun
  | [d] => { results := [.lit (.bool false)], args := [d] }
  | _ => none }
def FnExactFilesTextWrongFalsely : Prop := fnExactFilesTextRow.holds Try.pinned (OpenSpec.ofChange fnExactFilesTextWrong)

/-- 'laws.FnExactPlaceOf': WHATEVER THE INPUT: true; the input reads as it did. -/
def fnExactPlaceOfSpec : ChangeSpec := { name := "fnExactPlaceOf", fn := fun _ => fun
  | [d1, d2, d3] => { results := [.lit (.bool true)], args := [d1, d2, d3] }
  | _ => none }
def fnExactPlaceOfRow : OpenClaim := { program := "ytlgpkmgfcnhigaa", sum := "cd5b75f944f9335241ea6c7c16f7e199284d018a5d378afa7faed1ac4afd0b73", func := "loop.example/g00899/laws.FnExactPlaceOf", spec := "fnExactPlaceOf", inPlace := ["internal/bytealg.IndexByteString", "internal/bytealg.IndexString"], named := ["internal/bytealg.MaxLen"], apart := false }
def FnExactPlaceOfSaid : Prop := fnExactPlaceOfRow.holds Try.pinned (OpenSpec.ofChange fnExactPlaceOfSpec)

/-- ITS FALSE NEIGHBOUR: 'it returns false'. Refute it at one input. -/
def fnExactPlaceOfWrong : ChangeSpec := { name := "fnExactPlaceOf", fn := fun _ => fun
  | [d1, d2, d3] => { results := [.lit (.bool false)], args := [d1, d2, d3] }
  | _ => none }
def FnExactPlaceOfWrongFalsely : Prop := fnExactPlaceOfRow.holds Try.pinned (OpenSpec.ofChange fnExactPlaceOfWrong)

/-- 'laws.FnExactJoinFiles': WHATEVER THE INPUT: true; the input reads as it did. -/
def fnExactJoinFilesSpec : ChangeSpec := { name := "fnExactJoinFiles", fn := fun _ => fun
  | [d1, d2] => { results := [.lit (.bool true)], args := [d1, d2] }
  | _ => none }
def fnExactJoinFilesRow : OpenClaim := { program := "ytlgpkmgfcnhigaa", sum := "cd5b75f944f9335241ea6c7c16f7e199284d018a5d378afa7faed1ac4afd0b73", func := "loop.example/g00899/laws.FnExactJoinFiles", spec := "fnExactJoinFiles", inPlace := ["internal/bytealg.abigen_runtime_cmpstring"], unfollowed := true, recurses := true, apart := false }
def FnExactJoinFilesSaid : Prop := fnExactJoinFilesRow.holds Try.pinned (OpenSpec.ofChange fnExactJoinFilesSpec)

/-- ITS FALSE NEIGHBOUR: 'it returns false'. Refute it at one input. -/
def fnExactJoinFilesWrong : ChangeSpec := { name := "fnExactJoinFiles", fn := fun _ => fun
  | [d1, d2] => { results := [.lit (.bool false)], args := [d1, d2] }
  | _ => none }
def FnExactJoinFilesWrongFalsely : Prop := fnExactJoinFilesRow.holds Try.pinned (OpenSpec.ofChange fnExactJoinFilesWrong)

/-- 'laws.FnExactChangedFiles': WHATEVER THE INPUT: true; the input reads as it did. -/
def fnExactChangedFilesSpec : ChangeSpec := { name := "fnExactChangedFiles", fn := fun _ => fun
  | [d1, d2] => { results := [.lit (.bool true)], args := [d1, d2] }
  | _ => none }
def fnExactChangedFilesRow : OpenClaim := { program := "ytlgpkmgfcnhigaa", sum := "cd5b75f944f9335241ea6c7c16f7e199284d018a5d378afa7faed1ac4afd0b73", func := "loop.example/g00899/laws.FnExactChangedFiles", spec := "fnExactChangedFiles", inPlace := ["internal/bytealg.abigen_runtime_cmpstring"], unfollowed := true, recurses := true, apart := false }
def FnExactChangedFilesSaid : Prop := fnExactChangedFilesRow.holds Try.pinned (OpenSpec.ofChange fnExactChangedFilesSpec)

/-- ITS FALSE NEIGHBOUR: 'it returns false'. Refute it at one input. -/
def fnExactChangedFilesWrong : ChangeSpec := { name := "fnExactChangedFiles", fn := fun _ => fun
  | [d1, d2] => { results := [.lit (.bool false)], args := [d1, d2] }
  | _ => none }
def FnExactChangedFilesWrongFalsely : Prop := fnExactChangedFilesRow.holds Try.pinned (OpenSpec.ofChange fnExactChangedFilesWrong)

/-- 'laws.FnExactReadFiles': WHATEVER THE INPUT: true; the input reads as it did. -/
def fnExactReadFilesSpec : ChangeSpec := { name := "fnExactReadFiles", fn := fun _ => fun
  | [d] => { results := [.lit (.bool true)], args := [d] }
  | _ => none }
def fnExactReadFilesRow : OpenClaim := { program := "ytlgpkmgfcnhigaa", sum := "cd5b75f944f9335241ea6c7c16f7e199284d018a5d378afa7faed1ac4afd0b73", func := "loop.example/g00899/laws.FnExactReadFiles", spec := "fnExactReadFiles", inPlace := ["internal/bytealg.IndexByteString", "internal/bytealg.IndexString", "internal/abi.NoEscape"], unfollowed := true, recurses := true, named := ["internal/bytealg.MaxLen"], apart := false }
def FnExactReadFilesSaid : Prop := fnExactReadFilesRow.holds Try.pinned (OpenSpec.ofChange fnExactReadFilesSpec)

/-- ITS FALSE NEIGHBOUR: 'it returns false'. Refute it at one input. -/
def fnExactReadFilesWrong : ChangeSpec := { name := "fnExactReadFiles", fn := fun _ => fun
  | [d] => { results := [.lit (.bool false)], args := [d] }
  | _ => none }
def FnExactReadFilesWrongFalsely : Prop := fnExactReadFilesRow.holds Try.pinned (OpenSpec.ofChange fnExactReadFilesWrong)

/- THE SECOND FORM. 'bulk': how many values and letters a reading holds, each counted each time it is reached (what is shared counts as often as it is met; a slice's spare places count too). A statement '..UptoSaid' is the law's where the arguments, and the package variables that the reading takes, are together of bulk at most 1048576: NARROWER than '..Said'. Prove '..Said' where nothing that the law and all that it calls make is longer than what came in: it says more and counts as full. Else prove '..UptoSaid'. A law counts once. -/
mutual
def uptoBulk {H : Type} : DataW H → Nat
  | .lit (.string bytes) => bytes.length + 1
  | .lit _ => 1
  | .nil => 1
  | .ptr d => uptoBulk d + 1
  | .slice elems spare => uptoBulkAll elems + uptoBulkAll spare + 1
  | .agg parts => uptoBulkAll parts + 1
  | .iface _ d => uptoBulk d + 1
  | .map entries => uptoBulkEntries entries + 1
  | .held _ => 1
def uptoBulkAll {H : Type} : List (DataW H) → Nat
  | [] => 0
  | d :: r => uptoBulk d + uptoBulkAll r
def uptoBulkEntries {H : Type} : List (Lit × DataW H) → Nat
  | [] => 0
  | x :: r => uptoBulkEntry x + uptoBulkEntries r
def uptoBulkEntry {H : Type} : Lit × DataW H → Nat
  | (.string bytes, d) => bytes.length + uptoBulk d + 1
  | (_, d) => uptoBulk d + 1
 end
def uptoSmall : (H : Type) → List (DataW H) → Bool := fun _ ds => decide (uptoBulkAll ds ≤ 1048576)
def OpenSpec.upto (s : _root_.Go.ChangeSpec) : _root_.Go.OpenSpec := { _root_.Go.OpenSpec.ofChange s with cond := some uptoSmall }

/-- 'laws.FnExactSameFiles', WHERE WHAT IT READS IS OF BULK AT MOST 1048576: true; the input reads as it did. -/
def fnExactSameFilesUptoRow : OpenClaim := { program := "ytlgpkmgfcnhigaa", sum := "cd5b75f944f9335241ea6c7c16f7e199284d018a5d378afa7faed1ac4afd0b73", func := "loop.example/g00899/laws.FnExactSameFiles", spec := "fnExactSameFiles", apart := false, narrowed := true }
def FnExactSameFilesUptoSaid : Prop := fnExactSameFilesUptoRow.holds Try.pinned (OpenSpec.upto fnExactSameFilesSpec)

/-- 'laws.FnExactFilesText', WHERE WHAT IT READS IS OF BULK AT MOST 1048576: true; the input reads as it did. -/
def fnExactFilesTextUptoRow : OpenClaim := { program := "ytlgpkmgfcnhigaa", sum := "cd5b75f944f9335241ea6c7c16f7e199284d018a5d378afa7faed1ac4afd0b73", func := "loop.example/g00899/laws.FnExactFilesText", spec := "fnExactFilesText", inPlace := ["internal/abi.NoEscape"], unfollowed := true, recurses := true, apart := false, narrowed := true }
def FnExactFilesTextUptoSaid : Prop := fnExactFilesTextUptoRow.holds Try.pinned (OpenSpec.upto fnExactFilesTextSpec)

/-- 'laws.FnExactPlaceOf', WHERE WHAT IT READS IS OF BULK AT MOST 1048576: true; the input reads as it did. -/
def fnExactPlaceOfUptoRow : OpenClaim := { program := "ytlgpkmgfcnhigaa", sum := "cd5b75f944f9335241ea6c7c16f7e199284d018a5d378afa7faed1ac4afd0b73", func := "loop.example/g00899/laws.FnExactPlaceOf", spec := "fnExactPlaceOf", inPlace := ["internal/bytealg.IndexByteString", "internal/bytealg.IndexString"], named := ["internal/bytealg.MaxLen"], apart := false, narrowed := true }
def FnExactPlaceOfUptoSaid : Prop := fnExactPlaceOfUptoRow.holds Try.pinned (OpenSpec.upto fnExactPlaceOfSpec)

/-- 'laws.FnExactJoinFiles', WHERE WHAT IT READS IS OF BULK AT MOST 1048576: true; the input reads as it did. -/
def fnExactJoinFilesUptoRow : OpenClaim := { program := "ytlgpkmgfcnhigaa", sum := "cd5b75f944f9335241ea6c7c16f7e199284d018a5d378afa7faed1ac4afd0b73", func := "loop.example/g00899/laws.FnExactJoinFiles", spec := "fnExactJoinFiles", inPlace := ["internal/bytealg.abigen_runtime_cmpstring"], unfollowed := true, recurses := true, apart := false, narrowed := true }
def FnExactJoinFilesUptoSaid : Prop := fnExactJoinFilesUptoRow.holds Try.pinned (OpenSpec.upto fnExactJoinFilesSpec)

/-- 'laws.FnExactChangedFiles', WHERE WHAT IT READS IS OF BULK AT MOST 1048576: true; the input reads as it did. -/
def fnExactChangedFilesUptoRow : OpenClaim := { program := "ytlgpkmgfcnhigaa", sum := "cd5b75f944f9335241ea6c7c16f7e199284d018a5d378afa7faed1ac4afd0b73", func := "loop.example/g00899/laws.FnExactChangedFiles", spec := "fnExactChangedFiles", inPlace := ["internal/bytealg.abigen_runtime_cmpstring"], unfollowed := true, recurses := true, apart := false, narrowed := true }
def FnExactChangedFilesUptoSaid : Prop := fnExactChangedFilesUptoRow.holds Try.pinned (OpenSpec.upto fnExactChangedFilesSpec)

/-- 'laws.FnExactReadFiles', WHERE WHAT IT READS IS OF BULK AT MOST 1048576: true; the input reads as it did. -/
def fnExactReadFilesUptoRow : OpenClaim := { program := "ytlgpkmgfcnhigaa", sum := "cd5b75f944f9335241ea6c7c16f7e199284d018a5d378afa7faed1ac4afd0b73", func := "loop.example/g00899/laws.FnExactReadFiles", spec := "fnExactReadFiles", inPlace := ["internal/bytealg.IndexByteString", "internal/bytealg.IndexString", "internal/abi.NoEscape"], unfollowed := true, recurses := true, named := ["internal/bytealg.MaxLen"], apart := false, narrowed := true }
def FnExactReadFilesUptoSaid : Prop := fnExactReadFilesUptoRow.holds Try.pinned (OpenSpec.upto fnExactReadFilesSpec)

end Rows
end Go.Proofs.Ytlgpkmgfcnhigaa
