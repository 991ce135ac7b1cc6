/-
  No cell of these rows narrows 'for every input' (looked for: loops, veiled, ifaces, maps, wideKeys, modest, calm, conditions, laid).
  DERIVED. THE GIVEN ROWS OF THIS SEAT. 10 by the template 'for every input the law returns true; each argument reads behind the call as it read before'; 0 by the template 'total and deterministic' (their statements: YtpgcmgbflcdjiaaTotals.lean).
  GIVEN WITH THE SEED: the statements are not yours to turn. If you find one false, say at which input.
  Laid BY PROGRAM, IN A SANDBOX (cutbox-rows.mjs): the forced cells as the released guide's own fill.sh prints them over the translation f9d763e6eea53c89… (all of the seat's roots in one cut). By AI agents, Wed Nov 11 2026. No macro, syntax, notation, axiom, sorry.
-/
import Derived.Test.YtpgcmgbflcdjiaaChecked
import GoSem.Claim
import GoSem.ClaimJoined
import GoSem.ClaimMapViews
import Derived.JoinedTies
import Derived.KernelRfl
namespace Go.Proofs.Ytpgcmgbflcdjiaa
/- THE CELL 'sum', in the pinned program and in every row, IS THE sha256 OF THE DUMP (.gsa) THAT YtpgcmgbflcdjiaaProg.lean LOADS. Nothing in Lean hashes anything: it is a label: what it is worth is what the hold of that sum in a sandbox is worth. -/
noncomputable def Try.pinned : Pinned := { name := "ytpgcmgbflcdjiaa", sum := "f9d763e6eea53c897f8b6409c6aa1f09ee3c3d6a8b4f10e334829910b7b405e7", checked := Try.checked }
namespace Rows
def none {H : Type} : Left H := { results := [], args := [] }

/-- 'laws.FnExactGfMul': WHATEVER THE INPUT: true; the input reads as it did. -/
def fnExactGfMulSpec : ChangeSpec := { name := "fnExactGfMul", fn := fun _ => fun
  | [d1, d2] => { results := [.lit (.bool true)], args := [d1, d2] }
  | _ => none }
def fnExactGfMulRow : OpenClaim := { program := "ytpgcmgbflcdjiaa", sum := "f9d763e6eea53c897f8b6409c6aa1f09ee3c3d6a8b4f10e334829910b7b405e7", func := "loop.example/g00899/laws.FnExactGfMul", spec := "fnExactGfMul", apart := false }
def FnExactGfMulSaid : Prop := fnExactGfMulRow.holds Try.pinned (OpenSpec.ofChange fnExactGfMulSpec)

/-- ITS FALSE NEIGHBOUR: 'it returns false'. Refute it at one input. -/
def fnExactGfMulWrong : ChangeSpec := { name := "fnExactGfMul", fn := fun _ => fun
  | [d1, d2] => { results := [.lit (.bool false)], args := [d1, d2] }
  | _ => none }
def FnExactGfMulWrongFalsely : Prop := fnExactGfMulRow.holds Try.pinned (OpenSpec.ofChange fnExactGfMulWrong)

/-- 'laws.FnExactGfPow': WHATEVER THE INPUT: true; the input reads as it did. -/
def fnExactGfPowSpec : ChangeSpec := { name := "fnExactGfPow", fn := fun _ => fun
  | [d] => { results := [.lit (.bool true)], args := [d] }
  | _ => none }
def fnExactGfPowRow : OpenClaim := { program := "ytpgcmgbflcdjiaa", sum := "f9d763e6eea53c897f8b6409c6aa1f09ee3c3d6a8b4f10e334829910b7b405e7", func := "loop.example/g00899/laws.FnExactGfPow", spec := "fnExactGfPow", apart := false }
def FnExactGfPowSaid : Prop := fnExactGfPowRow.holds Try.pinned (OpenSpec.ofChange fnExactGfPowSpec)

/-- ITS FALSE NEIGHBOUR: 'it returns false'. Refute it at one input. -/
def fnExactGfPowWrong : ChangeSpec := { name := "fnExactGfPow", fn := fun _ => fun
  | [d] => { results := [.lit (.bool false)], args := [d] }
  | _ => none }
def FnExactGfPowWrongFalsely : Prop := fnExactGfPowRow.holds Try.pinned (OpenSpec.ofChange fnExactGfPowWrong)

/-- 'laws.FnExactGfInverse': WHATEVER THE INPUT: true; the input reads as it did. -/
def fnExactGfInverseSpec : ChangeSpec := { name := "fnExactGfInverse", fn := fun _ => fun
  | [d] => { results := [.lit (.bool true)], args := [d] }
  | _ => none }
def fnExactGfInverseRow : OpenClaim := { program := "ytpgcmgbflcdjiaa", sum := "f9d763e6eea53c897f8b6409c6aa1f09ee3c3d6a8b4f10e334829910b7b405e7", func := "loop.example/g00899/laws.FnExactGfInverse", spec := "fnExactGfInverse", apart := false }
def FnExactGfInverseSaid : Prop := fnExactGfInverseRow.holds Try.pinned (OpenSpec.ofChange fnExactGfInverseSpec)

/-- ITS FALSE NEIGHBOUR: 'it returns false'. Refute it at one input. -/
def fnExactGfInverseWrong : ChangeSpec := { name := "fnExactGfInverse", fn := fun _ => fun
  | [d] => { results := [.lit (.bool false)], args := [d] }
  | _ => none }
def FnExactGfInverseWrongFalsely : Prop := fnExactGfInverseRow.holds Try.pinned (OpenSpec.ofChange fnExactGfInverseWrong)

/-- 'laws.FnField': WHATEVER THE INPUT: true; the input reads as it did. -/
def fnFieldSpec : ChangeSpec := { name := "fnField", fn := fun _ => fun
  | [d] => { results := [.lit (.bool true)], args := [d] }
  | _ => none }
def fnFieldRow : OpenClaim := { program := "ytpgcmgbflcdjiaa", sum := "f9d763e6eea53c897f8b6409c6aa1f09ee3c3d6a8b4f10e334829910b7b405e7", func := "loop.example/g00899/laws.FnField", spec := "fnField", apart := false }
def FnFieldSaid : Prop := fnFieldRow.holds Try.pinned (OpenSpec.ofChange fnFieldSpec)

/-- ITS FALSE NEIGHBOUR: 'it returns false'. Refute it at one input. -/
def fnFieldWrong : ChangeSpec := { name := "fnField", fn := fun _ => fun
  | [d] => { results := [.lit (.bool false)], args := [d] }
  | _ => none }
def FnFieldWrongFalsely : Prop := fnFieldRow.holds Try.pinned (OpenSpec.ofChange fnFieldWrong)

/-- 'laws.FnExactUpdateParity': WHATEVER THE INPUT: true; the input reads as it did. -/
def fnExactUpdateParitySpec : ChangeSpec := { name := "fnExactUpdateParity", fn := fun _ => fun
  | [d1, d2, d3, d4, d5] => { results := [.lit (.bool true)], args := [d1, d2, d3, d4, d5] }
  | _ => none }
def fnExactUpdateParityRow : OpenClaim := { program := "ytpgcmgbflcdjiaa", sum := "f9d763e6eea53c897f8b6409c6aa1f09ee3c3d6a8b4f10e334829910b7b405e7", func := "loop.example/g00899/laws.FnExactUpdateParity", spec := "fnExactUpdateParity", unfollowed := true, recurses := true, apart := false }
def FnExactUpdateParitySaid : Prop := fnExactUpdateParityRow.holds Try.pinned (OpenSpec.ofChange fnExactUpdateParitySpec)

/-- ITS FALSE NEIGHBOUR: 'it returns false'. Refute it at one input. -/
def fnExactUpdateParityWrong : ChangeSpec := { name := "fnExactUpdateParity", fn := fun _ => fun
  | [d1, d2, d3, d4, d5] => { results := [.lit (.bool false)], args := [d1, d2, d3, d4, d5] }
  | _ => none }
def FnExactUpdateParityWrongFalsely : Prop := fnExactUpdateParityRow.holds Try.pinned (OpenSpec.ofChange fnExactUpdateParityWrong)

/-- 'laws.FnExactMakeParity': WHATEVER THE INPUT: true; the input reads as it did. -/
def fnExactMakeParitySpec : ChangeSpec := { name := "fnExactMakeParity", fn := fun _ => fun
  | [d] => { results := [.lit (.bool true)], args := [d] }
  | _ => none }
def fnExactMakeParityRow : OpenClaim := { program := "ytpgcmgbflcdjiaa", sum := "f9d763e6eea53c897f8b6409c6aa1f09ee3c3d6a8b4f10e334829910b7b405e7", func := "loop.example/g00899/laws.FnExactMakeParity", spec := "fnExactMakeParity", unfollowed := true, recurses := true, apart := false }
def FnExactMakeParitySaid : Prop := fnExactMakeParityRow.holds Try.pinned (OpenSpec.ofChange fnExactMakeParitySpec)

/-- ITS FALSE NEIGHBOUR: 'it returns false'. Refute it at one input. -/
def fnExactMakeParityWrong : ChangeSpec := { name := "fnExactMakeParity", fn := fun _ => fun
  | [d] => { results := [.lit (.bool false)], args := [d] }
  | _ => none }
def FnExactMakeParityWrongFalsely : Prop := fnExactMakeParityRow.holds Try.pinned (OpenSpec.ofChange fnExactMakeParityWrong)

/-- 'laws.FnExactCheckParity': WHATEVER THE INPUT: true; the input reads as it did. -/
def fnExactCheckParitySpec : ChangeSpec := { name := "fnExactCheckParity", fn := fun _ => fun
  | [d1, d2, d3] => { results := [.lit (.bool true)], args := [d1, d2, d3] }
  | _ => none }
def fnExactCheckParityRow : OpenClaim := { program := "ytpgcmgbflcdjiaa", sum := "f9d763e6eea53c897f8b6409c6aa1f09ee3c3d6a8b4f10e334829910b7b405e7", func := "loop.example/g00899/laws.FnExactCheckParity", spec := "fnExactCheckParity", unfollowed := true, recurses := true, apart := false }
def FnExactCheckParitySaid : Prop := fnExactCheckParityRow.holds Try.pinned (OpenSpec.ofChange fnExactCheckParitySpec)

/-- ITS FALSE NEIGHBOUR: 'it returns false'. Refute it at one input. -/
def fnExactCheckParityWrong : ChangeSpec := { name := "fnExactCheckParity", fn := fun _ => fun
  | [d1, d2, d3] => { results := [.lit (.bool false)], args := [d1, d2, d3] }
  | _ => none }
def FnExactCheckParityWrongFalsely : Prop := fnExactCheckParityRow.holds Try.pinned (OpenSpec.ofChange fnExactCheckParityWrong)

/-- 'laws.FnExactFindDamaged': WHATEVER THE INPUT: true; the input reads as it did. -/
def fnExactFindDamagedSpec : ChangeSpec := { name := "fnExactFindDamaged", fn := fun _ => fun
  | [d1, d2, d3] => { results := [.lit (.bool true)], args := [d1, d2, d3] }
  | _ => none }
def fnExactFindDamagedRow : OpenClaim := { program := "ytpgcmgbflcdjiaa", sum := "f9d763e6eea53c897f8b6409c6aa1f09ee3c3d6a8b4f10e334829910b7b405e7", func := "loop.example/g00899/laws.FnExactFindDamaged", spec := "fnExactFindDamaged", unfollowed := true, recurses := true, apart := false }
def FnExactFindDamagedSaid : Prop := fnExactFindDamagedRow.holds Try.pinned (OpenSpec.ofChange fnExactFindDamagedSpec)

/-- ITS FALSE NEIGHBOUR: 'it returns false'. Refute it at one input. -/
def fnExactFindDamagedWrong : ChangeSpec := { name := "fnExactFindDamaged", fn := fun _ => fun
  | [d1, d2, d3] => { results := [.lit (.bool false)], args := [d1, d2, d3] }
  | _ => none }
def FnExactFindDamagedWrongFalsely : Prop := fnExactFindDamagedRow.holds Try.pinned (OpenSpec.ofChange fnExactFindDamagedWrong)

/-- 'laws.FnParity': WHATEVER THE INPUT: true; the input reads as it did. -/
def fnParitySpec : ChangeSpec := { name := "fnParity", fn := fun _ => fun
  | [d1, d2] => { results := [.lit (.bool true)], args := [d1, d2] }
  | _ => none }
def fnParityRow : OpenClaim := { program := "ytpgcmgbflcdjiaa", sum := "f9d763e6eea53c897f8b6409c6aa1f09ee3c3d6a8b4f10e334829910b7b405e7", func := "loop.example/g00899/laws.FnParity", spec := "fnParity", unfollowed := true, recurses := true, apart := false }
def FnParitySaid : Prop := fnParityRow.holds Try.pinned (OpenSpec.ofChange fnParitySpec)

/-- ITS FALSE NEIGHBOUR: 'it returns false'. Refute it at one input. -/
def fnParityWrong : ChangeSpec := { name := "fnParity", fn := fun _ => fun
  | [d1, d2] => { results := [.lit (.bool false)], args := [d1, d2] }
  | _ => none }
def FnParityWrongFalsely : Prop := fnParityRow.holds Try.pinned (OpenSpec.ofChange fnParityWrong)

/-- 'laws.FnFindDamaged': WHATEVER THE INPUT: true; the input reads as it did. -/
def fnFindDamagedSpec : ChangeSpec := { name := "fnFindDamaged", fn := fun _ => fun
  | [d1, d2] => { results := [.lit (.bool true)], args := [d1, d2] }
  | _ => none }
def fnFindDamagedRow : OpenClaim := { program := "ytpgcmgbflcdjiaa", sum := "f9d763e6eea53c897f8b6409c6aa1f09ee3c3d6a8b4f10e334829910b7b405e7", func := "loop.example/g00899/laws.FnFindDamaged", spec := "fnFindDamaged", unfollowed := true, recurses := true, apart := false }
def FnFindDamagedSaid : Prop := fnFindDamagedRow.holds Try.pinned (OpenSpec.ofChange fnFindDamagedSpec)

/-- ITS FALSE NEIGHBOUR: 'it returns false'. Refute it at one input. -/
def fnFindDamagedWrong : ChangeSpec := { name := "fnFindDamaged", fn := fun _ => fun
  | [d1, d2] => { results := [.lit (.bool false)], args := [d1, d2] }
  | _ => none }
def FnFindDamagedWrongFalsely : Prop := fnFindDamagedRow.holds Try.pinned (OpenSpec.ofChange fnFindDamagedWrong)

/- THE SECOND FORM. 'bulk': how many values and letters a reading holds, each counted each time it is reached (what is shared counts as often as it is met; a slice's spare places count too). A statement '..UptoSaid' is the law's where the arguments, and the package variables that the reading takes, are together of bulk at most 1048576: NARROWER than '..Said'. Prove '..Said' where nothing that the law and all that it calls make is longer than what came in: it says more and counts as full. Else prove '..UptoSaid'. A law counts once. -/
mutual
def uptoBulk {H : Type} : DataW H → Nat
  | .lit (.string bytes) => bytes.length + 1
  | .lit _ => 1
  | .nil => 1
  | .ptr d => uptoBulk d + 1
  | .slice elems spare => uptoBulkAll elems + uptoBulkAll spare + 1
  | .agg parts => uptoBulkAll parts + 1
  | .iface _ d => uptoBulk d + 1
  | .map entries => uptoBulkEntries entries + 1
  | .held _ => 1
def uptoBulkAll {H : Type} : List (DataW H) → Nat
  | [] => 0
  | d :: r => uptoBulk d + uptoBulkAll r
def uptoBulkEntries {H : Type} : List (Lit × DataW H) → Nat
  | [] => 0
  | x :: r => uptoBulkEntry x + uptoBulkEntries r
def uptoBulkEntry {H : Type} : Lit × DataW H → Nat
  | (.string bytes, d) => bytes.length + uptoBulk d + 1
  | (_, d) => uptoBulk d + 1
 end
def uptoSmall : (H : Type) → List (DataW H) → Bool := fun _ ds => decide (uptoBulkAll ds ≤ 1048576)
def OpenSpec.upto (s : _root_.Go.ChangeSpec) : _root_.Go.OpenSpec := { _root_.Go.OpenSpec.ofChange s with cond := some uptoSmall }

/-- 'laws.FnExactGfMul', WHERE WHAT IT READS IS OF BULK AT MOST 1048576: true; the input reads as it did. -/
def fnExactGfMulUptoRow : OpenClaim := { program := "ytpgcmgbflcdjiaa", sum := "f9d763e6eea53c897f8b6409c6aa1f09ee3c3d6a8b4f10e334829910b7b405e7", func := "loop.example/g00899/laws.FnExactGfMul", spec := "fnExactGfMul", apart := false, narrowed := true }
def FnExactGfMulUptoSaid : Prop := fnExactGfMulUptoRow.holds Try.pinned (OpenSpec.upto fnExactGfMulSpec)

/-- 'laws.FnExactGfPow', WHERE WHAT IT READS IS OF BULK AT MOST 1048576: true; the input reads as it did. -/
def fnExactGfPowUptoRow : OpenClaim := { program := "ytpgcmgbflcdjiaa", sum := "f9d763e6eea53c897f8b6409c6aa1f09ee3c3d6a8b4f10e334829910b7b405e7", func := "loop.example/g00899/laws.FnExactGfPow", spec := "fnExactGfPow", apart := false, narrowed := true }
def FnExactGfPowUptoSaid : Prop := fnExactGfPowUptoRow.holds Try.pinned (OpenSpec.upto fnExactGfPowSpec)

/-- 'laws.FnExactGfInverse', WHERE WHAT IT READS IS OF BULK AT MOST 1048576: true; the input reads as it did. -/
def fnExactGfInverseUptoRow : OpenClaim := { program := "ytpgcmgbflcdjiaa", sum := "f9d763e6eea53c897f8b6409c6aa1f09ee3c3d6a8b4f10e334829910b7b405e7", func := "loop.example/g00899/laws.FnExactGfInverse", spec := "fnExactGfInverse", apart := false, narrowed := true }
def FnExactGfInverseUptoSaid : Prop := fnExactGfInverseUptoRow.holds Try.pinned (OpenSpec.upto fnExactGfInverseSpec)

/-- 'laws.FnField', WHERE WHAT IT READS IS OF BULK AT MOST 1048576: true; the input reads as it did. -/
def fnFieldUptoRow : OpenClaim := { program := "ytpgcmgbflcdjiaa", sum := "f9d763e6eea53c897f8b6409c6aa1f09ee3c3d6a8b4f10e334829910b7b405e7", func := "loop.example/g00899/laws.FnField", spec := "fnField", apart := false, narrowed := true }
def FnFieldUptoSaid : Prop := fnFieldUptoRow.holds Try.pinned (OpenSpec.upto fnFieldSpec)

/-- 'laws.FnExactUpdateParity', WHERE WHAT IT READS IS OF BULK AT MOST 1048576: true; the input reads as it did. -/
def fnExactUpdateParityUptoRow : OpenClaim := { program := "ytpgcmgbflcdjiaa", sum := "f9d763e6eea53c897f8b6409c6aa1f09ee3c3d6a8b4f10e334829910b7b405e7", func := "loop.example/g00899/laws.FnExactUpdateParity", spec := "fnExactUpdateParity", unfollowed := true, recurses := true, apart := false, narrowed := true }
def FnExactUpdateParityUptoSaid : Prop := fnExactUpdateParityUptoRow.holds Try.pinned (OpenSpec.upto fnExactUpdateParitySpec)

/-- 'laws.FnExactMakeParity', WHERE WHAT IT READS IS OF BULK AT MOST 1048576: true; the input reads as it did. -/
def fnExactMakeParityUptoRow : OpenClaim := { program := "ytpgcmgbflcdjiaa", sum := "f9d763e6eea53c897f8b6409c6aa1f09ee3c3d6a8b4f10e334829910b7b405e7", func := "loop.example/g00899/laws.FnExactMakeParity", spec := "fnExactMakeParity", unfollowed := true, recurses := true, apart := false, narrowed := true }
def FnExactMakeParityUptoSaid : Prop := fnExactMakeParityUptoRow.holds Try.pinned (OpenSpec.upto fnExactMakeParitySpec)

/-- 'laws.FnExactCheckParity', WHERE WHAT IT READS IS OF BULK AT MOST 1048576: true; the input reads as it did. -/
def fnExactCheckParityUptoRow : OpenClaim := { program := "ytpgcmgbflcdjiaa", sum := "f9d763e6eea53c897f8b6409c6aa1f09ee3c3d6a8b4f10e334829910b7b405e7", func := "loop.example/g00899/laws.FnExactCheckParity", spec := "fnExactCheckParity", unfollowed := true, recurses := true, apart := false, narrowed := true }
def FnExactCheckParityUptoSaid : Prop := fnExactCheckParityUptoRow.holds Try.pinned (OpenSpec.upto fnExactCheckParitySpec)

/-- 'laws.FnExactFindDamaged', WHERE WHAT IT READS IS OF BULK AT MOST 1048576: true; the input reads as it did. -/
def fnExactFindDamagedUptoRow : OpenClaim := { program := "ytpgcmgbflcdjiaa", sum := "f9d763e6eea53c897f8b6409c6aa1f09ee3c3d6a8b4f10e334829910b7b405e7", func := "loop.example/g00899/laws.FnExactFindDamaged", spec := "fnExactFindDamaged", unfollowed := true, recurses := true, apart := false, narrowed := true }
def FnExactFindDamagedUptoSaid : Prop := fnExactFindDamagedUptoRow.holds Try.pinned (OpenSpec.upto fnExactFindDamagedSpec)

/-- 'laws.FnParity', WHERE WHAT IT READS IS OF BULK AT MOST 1048576: true; the input reads as it did. -/
def fnParityUptoRow : OpenClaim := { program := "ytpgcmgbflcdjiaa", sum := "f9d763e6eea53c897f8b6409c6aa1f09ee3c3d6a8b4f10e334829910b7b405e7", func := "loop.example/g00899/laws.FnParity", spec := "fnParity", unfollowed := true, recurses := true, apart := false, narrowed := true }
def FnParityUptoSaid : Prop := fnParityUptoRow.holds Try.pinned (OpenSpec.upto fnParitySpec)

/-- 'laws.FnFindDamaged', WHERE WHAT IT READS IS OF BULK AT MOST 1048576: true; the input reads as it did. -/
def fnFindDamagedUptoRow : OpenClaim := { program := "ytpgcmgbflcdjiaa", sum := "f9d763e6eea53c897f8b6409c6aa1f09ee3c3d6a8b4f10e334829910b7b405e7", func := "loop.example/g00899/laws.FnFindDamaged", spec := "fnFindDamaged", unfollowed := true, recurses := true, apart := false, narrowed := true }
def FnFindDamagedUptoSaid : Prop := fnFindDamagedUptoRow.holds Try.pinned (OpenSpec.upto fnFindDamagedSpec)

end Rows
end Go.Proofs.Ytpgcmgbflcdjiaa
