/-
  No cell of these rows narrows 'for every input' (looked for: loops, veiled, ifaces, maps, wideKeys, modest, calm, conditions, laid).
  DERIVED. THE GIVEN ROWS OF THIS SEAT. 8 by the template 'for every input the law returns true; each argument reads behind the call as it read before'; 0 by the template 'total and deterministic' (their statements: YtjnabncfkogigaaTotals.lean).
  GIVEN WITH THE SEED: the statements are not yours to turn. If you find one false, say at which input.
  Laid BY PROGRAM, IN A SANDBOX (cutbox-rows.mjs): the forced cells as the released guide's own fill.sh prints them over the translation 16a7c40cbd0c9de3… (all of the seat's roots in one cut). By AI agents, Wed Nov 11 2026. No macro, syntax, notation, axiom, sorry.
-/
import Derived.Test.YtjnabncfkogigaaChecked
import GoSem.Claim
import GoSem.ClaimJoined
import GoSem.ClaimMapViews
import Derived.JoinedTies
import Derived.KernelRfl
namespace Go.Proofs.Ytjnabncfkogigaa
/- THE CELL 'sum', in the pinned program and in every row, IS THE sha256 OF THE DUMP (.gsa) THAT YtjnabncfkogigaaProg.lean LOADS. Nothing in Lean hashes anything: it is a label: what it is worth is what the hold of that sum in a sandbox is worth. -/
noncomputable def Try.pinned : Pinned := { name := "ytjnabncfkogigaa", sum := "16a7c40cbd0c9de3d8315678859ff4a146c02f681638263926b117eaa82b0727", checked := Try.checked }
namespace Rows
def none {H : Type} : Left H := { results := [], args := [] }

/-- 'laws.FnExactValidDevice': WHATEVER THE INPUT: true; the input reads as it did. -/
def fnExactValidDeviceSpec : ChangeSpec := { name := "fnExactValidDevice", fn := fun _ => fun
  | [d] => { results := [.lit (.bool true)], args := [d] }
  | _ => none }
def fnExactValidDeviceRow : OpenClaim := { program := "ytjnabncfkogigaa", sum := "16a7c40cbd0c9de3d8315678859ff4a146c02f681638263926b117eaa82b0727", func := "loop.example/g00899/laws.FnExactValidDevice", spec := "fnExactValidDevice", inPlace := ["internal/abi.NoEscape", "internal/bytealg.MakeNoZero"], unfollowed := true, recurses := true, apart := false }
def FnExactValidDeviceSaid : Prop := fnExactValidDeviceRow.holds Try.pinned (OpenSpec.ofChange fnExactValidDeviceSpec)

/-- ITS FALSE NEIGHBOUR: 'it returns false'. Refute it at one input. -/
def fnExactValidDeviceWrong : ChangeSpec := { name := "fnExactValidDevice", fn := fun _ => fun
  | [d] => { results := [.lit (.bool false)], args := [d] }
  | _ => none }
def FnExactValidDeviceWrongFalsely : Prop := fnExactValidDeviceRow.holds Try.pinned (OpenSpec.ofChange fnExactValidDeviceWrong)

/-- 'laws.FnExactDeviceBlocks': WHATEVER THE INPUT: true; the input reads as it did. -/
def fnExactDeviceBlocksSpec : ChangeSpec := { name := "fnExactDeviceBlocks", fn := fun _ => fun
  | [d] => { results := [.lit (.bool true)], args := [d] }
  | _ => none }
def fnExactDeviceBlocksRow : OpenClaim := { program := "ytjnabncfkogigaa", sum := "16a7c40cbd0c9de3d8315678859ff4a146c02f681638263926b117eaa82b0727", func := "loop.example/g00899/laws.FnExactDeviceBlocks", spec := "fnExactDeviceBlocks", inPlace := ["internal/abi.NoEscape", "internal/bytealg.MakeNoZero"], unfollowed := true, recurses := true, apart := false }
def FnExactDeviceBlocksSaid : Prop := fnExactDeviceBlocksRow.holds Try.pinned (OpenSpec.ofChange fnExactDeviceBlocksSpec)

/-- ITS FALSE NEIGHBOUR: 'it returns false'. Refute it at one input. -/
def fnExactDeviceBlocksWrong : ChangeSpec := { name := "fnExactDeviceBlocks", fn := fun _ => fun
  | [d] => { results := [.lit (.bool false)], args := [d] }
  | _ => none }
def FnExactDeviceBlocksWrongFalsely : Prop := fnExactDeviceBlocksRow.holds Try.pinned (OpenSpec.ofChange fnExactDeviceBlocksWrong)

/-- 'laws.FnExactSectorOf': WHATEVER THE INPUT: true; the input reads as it did. -/
def fnExactSectorOfSpec : ChangeSpec := { name := "fnExactSectorOf", fn := fun _ => fun
  | [d1, d2] => { results := [.lit (.bool true)], args := [d1, d2] }
  | _ => none }
def fnExactSectorOfRow : OpenClaim := { program := "ytjnabncfkogigaa", sum := "16a7c40cbd0c9de3d8315678859ff4a146c02f681638263926b117eaa82b0727", func := "loop.example/g00899/laws.FnExactSectorOf", spec := "fnExactSectorOf", inPlace := ["internal/abi.NoEscape", "internal/bytealg.MakeNoZero"], unfollowed := true, recurses := true, apart := false }
def FnExactSectorOfSaid : Prop := fnExactSectorOfRow.holds Try.pinned (OpenSpec.ofChange fnExactSectorOfSpec)

/-- ITS FALSE NEIGHBOUR: 'it returns false'. Refute it at one input. -/
def fnExactSectorOfWrong : ChangeSpec := { name := "fnExactSectorOf", fn := fun _ => fun
  | [d1, d2] => { results := [.lit (.bool false)], args := [d1, d2] }
  | _ => none }
def FnExactSectorOfWrongFalsely : Prop := fnExactSectorOfRow.holds Try.pinned (OpenSpec.ofChange fnExactSectorOfWrong)

/-- 'laws.FnExactReadDeviceBlock': WHATEVER THE INPUT: true; the input reads as it did. -/
def fnExactReadDeviceBlockSpec : ChangeSpec := { name := "fnExactReadDeviceBlock", fn := fun _ => fun
  | [d1, d2] => { results := [.lit (.bool true)], args := [d1, d2] }
  | _ => none }
def fnExactReadDeviceBlockRow : OpenClaim := { program := "ytjnabncfkogigaa", sum := "16a7c40cbd0c9de3d8315678859ff4a146c02f681638263926b117eaa82b0727", func := "loop.example/g00899/laws.FnExactReadDeviceBlock", spec := "fnExactReadDeviceBlock", inPlace := ["internal/abi.NoEscape", "internal/bytealg.MakeNoZero"], unfollowed := true, recurses := true, apart := false }
def FnExactReadDeviceBlockSaid : Prop := fnExactReadDeviceBlockRow.holds Try.pinned (OpenSpec.ofChange fnExactReadDeviceBlockSpec)

/-- ITS FALSE NEIGHBOUR: 'it returns false'. Refute it at one input. -/
def fnExactReadDeviceBlockWrong : ChangeSpec := { name := "fnExactReadDeviceBlock", fn := fun _ => fun
  | [d1, d2] => { results := [.lit (.bool false)], args := [d1, d2] }
  | _ => none }
def FnExactReadDeviceBlockWrongFalsely : Prop := fnExactReadDeviceBlockRow.holds Try.pinned (OpenSpec.ofChange fnExactReadDeviceBlockWrong)

/-- 'laws.FnExactWriteDeviceBlock': WHATEVER THE INPUT: true; the input reads as it did. -/
def fnExactWriteDeviceBlockSpec : ChangeSpec := { name := "fnExactWriteDeviceBlock", fn := fun _ => fun
  | [d1, d2, d3] => { results := [.lit (.bool true)], args := [d1, d2, d3] }
  | _ => none }
def fnExactWriteDeviceBlockRow : OpenClaim := { program := "ytjnabncfkogigaa", sum := "16a7c40cbd0c9de3d8315678859ff4a146c02f681638263926b117eaa82b0727", func := "loop.example/g00899/laws.FnExactWriteDeviceBlock", spec := "fnExactWriteDeviceBlock", inPlace := ["internal/abi.NoEscape", "internal/bytealg.MakeNoZero"], unfollowed := true, recurses := true, apart := false }
def FnExactWriteDeviceBlockSaid : Prop := fnExactWriteDeviceBlockRow.holds Try.pinned (OpenSpec.ofChange fnExactWriteDeviceBlockSpec)

/-- ITS FALSE NEIGHBOUR: 'it returns false'. Refute it at one input. -/
def fnExactWriteDeviceBlockWrong : ChangeSpec := { name := "fnExactWriteDeviceBlock", fn := fun _ => fun
  | [d1, d2, d3] => { results := [.lit (.bool false)], args := [d1, d2, d3] }
  | _ => none }
def FnExactWriteDeviceBlockWrongFalsely : Prop := fnExactWriteDeviceBlockRow.holds Try.pinned (OpenSpec.ofChange fnExactWriteDeviceBlockWrong)

/-- 'laws.FnExactStoreBlocks': WHATEVER THE INPUT: true; the input reads as it did. -/
def fnExactStoreBlocksSpec : ChangeSpec := { name := "fnExactStoreBlocks", fn := fun _ => fun
  | [d1, d2] => { results := [.lit (.bool true)], args := [d1, d2] }
  | _ => none }
def fnExactStoreBlocksRow : OpenClaim := { program := "ytjnabncfkogigaa", sum := "16a7c40cbd0c9de3d8315678859ff4a146c02f681638263926b117eaa82b0727", func := "loop.example/g00899/laws.FnExactStoreBlocks", spec := "fnExactStoreBlocks", inPlace := ["internal/abi.NoEscape", "internal/bytealg.MakeNoZero"], unfollowed := true, recurses := true, apart := false }
def FnExactStoreBlocksSaid : Prop := fnExactStoreBlocksRow.holds Try.pinned (OpenSpec.ofChange fnExactStoreBlocksSpec)

/-- ITS FALSE NEIGHBOUR: 'it returns false'. Refute it at one input. -/
def fnExactStoreBlocksWrong : ChangeSpec := { name := "fnExactStoreBlocks", fn := fun _ => fun
  | [d1, d2] => { results := [.lit (.bool false)], args := [d1, d2] }
  | _ => none }
def FnExactStoreBlocksWrongFalsely : Prop := fnExactStoreBlocksRow.holds Try.pinned (OpenSpec.ofChange fnExactStoreBlocksWrong)

/-- 'laws.FnExactReplaceBlock': WHATEVER THE INPUT: true; the input reads as it did. -/
def fnExactReplaceBlockSpec : ChangeSpec := { name := "fnExactReplaceBlock", fn := fun _ => fun
  | [d1, d2] => { results := [.lit (.bool true)], args := [d1, d2] }
  | _ => none }
def fnExactReplaceBlockRow : OpenClaim := { program := "ytjnabncfkogigaa", sum := "16a7c40cbd0c9de3d8315678859ff4a146c02f681638263926b117eaa82b0727", func := "loop.example/g00899/laws.FnExactReplaceBlock", spec := "fnExactReplaceBlock", inPlace := ["internal/abi.NoEscape", "internal/bytealg.MakeNoZero"], unfollowed := true, recurses := true, apart := false }
def FnExactReplaceBlockSaid : Prop := fnExactReplaceBlockRow.holds Try.pinned (OpenSpec.ofChange fnExactReplaceBlockSpec)

/-- ITS FALSE NEIGHBOUR: 'it returns false'. Refute it at one input. -/
def fnExactReplaceBlockWrong : ChangeSpec := { name := "fnExactReplaceBlock", fn := fun _ => fun
  | [d1, d2] => { results := [.lit (.bool false)], args := [d1, d2] }
  | _ => none }
def FnExactReplaceBlockWrongFalsely : Prop := fnExactReplaceBlockRow.holds Try.pinned (OpenSpec.ofChange fnExactReplaceBlockWrong)

/-- 'laws.FnExactAllBlocks': WHATEVER THE INPUT: true; the input reads as it did. -/
def fnExactAllBlocksSpec : ChangeSpec := { name := "fnExactAllBlocks", fn := fun _ => fun
  | [d] => { results := [.lit (.bool true)], args := [d] }
  | _ => none }
def fnExactAllBlocksRow : OpenClaim := { program := "ytjnabncfkogigaa", sum := "16a7c40cbd0c9de3d8315678859ff4a146c02f681638263926b117eaa82b0727", func := "loop.example/g00899/laws.FnExactAllBlocks", spec := "fnExactAllBlocks", inPlace := ["internal/abi.NoEscape", "internal/bytealg.MakeNoZero"], unfollowed := true, recurses := true, apart := false }
def FnExactAllBlocksSaid : Prop := fnExactAllBlocksRow.holds Try.pinned (OpenSpec.ofChange fnExactAllBlocksSpec)

/-- ITS FALSE NEIGHBOUR: 'it returns false'. Refute it at one input. -/
def fnExactAllBlocksWrong : ChangeSpec := { name := "fnExactAllBlocks", fn := fun _ => fun
  | [d] => { results := [.lit (.bool false)], args := [d] }
  | _ => none }
def FnExactAllBlocksWrongFalsely : Prop := fnExactAllBlocksRow.holds Try.pinned (OpenSpec.ofChange fnExactAllBlocksWrong)

/- THE SECOND FORM. 'bulk': how many values and letters a reading holds, each counted each time it is reached (what is shared counts as often as it is met; a slice's spare places count too). A statement '..UptoSaid' is the law's where the arguments, and the package variables that the reading takes, are together of bulk at most 1048576: NARROWER than '..Said'. Prove '..Said' where nothing that the law and all that it calls make is longer than what came in: it says more and counts as full. Else prove '..UptoSaid'. A law counts once. -/
mutual
def uptoBulk {H : Type} : DataW H → Nat
  | .lit (.string bytes) => bytes.length + 1
  | .lit _ => 1
  | .nil => 1
  | .ptr d => uptoBulk d + 1
  | .slice elems spare => uptoBulkAll elems + uptoBulkAll spare + 1
  | .agg parts => uptoBulkAll parts + 1
  | .iface _ d => uptoBulk d + 1
  | .map entries => uptoBulkEntries entries + 1
  | .held _ => 1
def uptoBulkAll {H : Type} : List (DataW H) → Nat
  | [] => 0
  | d :: r => uptoBulk d + uptoBulkAll r
def uptoBulkEntries {H : Type} : List (Lit × DataW H) → Nat
  | [] => 0
  | x :: r => uptoBulkEntry x + uptoBulkEntries r
def uptoBulkEntry {H : Type} : Lit × DataW H → Nat
  | (.string bytes, d) => bytes.length + uptoBulk d + 1
  | (_, d) => uptoBulk d + 1
 end
def uptoSmall : (H : Type) → List (DataW H) → Bool := fun _ ds => decide (uptoBulkAll ds ≤ 1048576)
def OpenSpec.upto (s : _root_.Go.ChangeSpec) : _root_.Go.OpenSpec := { _root_.Go.OpenSpec.ofChange s with cond := some uptoSmall }

/-- 'laws.FnExactValidDevice', WHERE WHAT IT READS IS OF BULK AT MOST 1048576: true; the input reads as it did. -/
def fnExactValidDeviceUptoRow : OpenClaim := { program := "ytjnabncfkogigaa", sum := "16a7c40cbd0c9de3d8315678859ff4a146c02f681638263926b117eaa82b0727", func := "loop.example/g00899/laws.FnExactValidDevice", spec := "fnExactValidDevice", inPlace := ["internal/abi.NoEscape", "internal/bytealg.MakeNoZero"], unfollowed := true, recurses := true, apart := false, narrowed := true }
def FnExactValidDeviceUptoSaid : Prop := fnExactValidDeviceUptoRow.holds Try.pinned (OpenSpec.upto fnExactValidDeviceSpec)

/-- 'laws.FnExactDeviceBlocks', WHERE WHAT IT READS IS OF BULK AT MOST 1048576: true; the input reads as it did. -/
def fnExactDeviceBlocksUptoRow : OpenClaim := { program := "ytjnabncfkogigaa", sum := "16a7c40cbd0c9de3d8315678859ff4a146c02f681638263926b117eaa82b0727", func := "loop.example/g00899/laws.FnExactDeviceBlocks", spec := "fnExactDeviceBlocks", inPlace := ["internal/abi.NoEscape", "internal/bytealg.MakeNoZero"], unfollowed := true, recurses := true, apart := false, narrowed := true }
def FnExactDeviceBlocksUptoSaid : Prop := fnExactDeviceBlocksUptoRow.holds Try.pinned (OpenSpec.upto fnExactDeviceBlocksSpec)

/-- 'laws.FnExactSectorOf', WHERE WHAT IT READS IS OF BULK AT MOST 1048576: true; the input reads as it did. -/
def fnExactSectorOfUptoRow : OpenClaim := { program := "ytjnabncfkogigaa", sum := "16a7c40cbd0c9de3d8315678859ff4a146c02f681638263926b117eaa82b0727", func := "loop.example/g00899/laws.FnExactSectorOf", spec := "fnExactSectorOf", inPlace := ["internal/abi.NoEscape", "internal/bytealg.MakeNoZero"], unfollowed := true, recurses := true, apart := false, narrowed := true }
def FnExactSectorOfUptoSaid : Prop := fnExactSectorOfUptoRow.holds Try.pinned (OpenSpec.upto fnExactSectorOfSpec)

/-- 'laws.FnExactReadDeviceBlock', WHERE WHAT IT READS IS OF BULK AT MOST 1048576: true; the input reads as it did. -/
def fnExactReadDeviceBlockUptoRow : OpenClaim := { program := "ytjnabncfkogigaa", sum := "16a7c40cbd0c9de3d8315678859ff4a146c02f681638263926b117eaa82b0727", func := "loop.example/g00899/laws.FnExactReadDeviceBlock", spec := "fnExactReadDeviceBlock", inPlace := ["internal/abi.NoEscape", "internal/bytealg.MakeNoZero"], unfollowed := true, recurses := true, apart := false, narrowed := true }
def FnExactReadDeviceBlockUptoSaid : Prop := fnExactReadDeviceBlockUptoRow.holds Try.pinned (OpenSpec.upto fnExactReadDeviceBlockSpec)

/-- 'laws.FnExactWriteDeviceBlock', WHERE WHAT IT READS IS OF BULK AT MOST 1048576: true; the input reads as it did. -/
def fnExactWriteDeviceBlockUptoRow : OpenClaim := { program := "ytjnabncfkogigaa", sum := "16a7c40cbd0c9de3d8315678859ff4a146c02f681638263926b117eaa82b0727", func := "loop.example/g00899/laws.FnExactWriteDeviceBlock", spec := "fnExactWriteDeviceBlock", inPlace := ["internal/abi.NoEscape", "internal/bytealg.MakeNoZero"], unfollowed := true, recurses := true, apart := false, narrowed := true }
def FnExactWriteDeviceBlockUptoSaid : Prop := fnExactWriteDeviceBlockUptoRow.holds Try.pinned (OpenSpec.upto fnExactWriteDeviceBlockSpec)

/-- 'laws.FnExactStoreBlocks', WHERE WHAT IT READS IS OF BULK AT MOST 1048576: true; the input reads as it did. -/
def fnExactStoreBlocksUptoRow : OpenClaim := { program := "ytjnabncfkogigaa", sum := "16a7c40cbd0c9de3d8315678859ff4a146c02f681638263926b117eaa82b0727", func := "loop.example/g00899/laws.FnExactStoreBlocks", spec := "fnExactStoreBlocks", inPlace := ["internal/abi.NoEscape", "internal/bytealg.MakeNoZero"], unfollowed := true, recurses := true, apart := false, narrowed := true }
def FnExactStoreBlocksUptoSaid : Prop := fnExactStoreBlocksUptoRow.holds Try.pinned (OpenSpec.upto fnExactStoreBlocksSpec)

/-- 'laws.FnExactReplaceBlock', WHERE WHAT IT READS IS OF BULK AT MOST 1048576: true; the input reads as it did. -/
def fnExactReplaceBlockUptoRow : OpenClaim := { program := "ytjnabncfkogigaa", sum := "16a7c40cbd0c9de3d8315678859ff4a146c02f681638263926b117eaa82b0727", func := "loop.example/g00899/laws.FnExactReplaceBlock", spec := "fnExactReplaceBlock", inPlace := ["internal/abi.NoEscape", "internal/bytealg.MakeNoZero"], unfollowed := true, recurses := true, apart := false, narrowed := true }
def FnExactReplaceBlockUptoSaid : Prop := fnExactReplaceBlockUptoRow.holds Try.pinned (OpenSpec.upto fnExactReplaceBlockSpec)

/-- 'laws.FnExactAllBlocks', WHERE WHAT IT READS IS OF BULK AT MOST 1048576: true; the input reads as it did. -/
def fnExactAllBlocksUptoRow : OpenClaim := { program := "ytjnabncfkogigaa", sum := "16a7c40cbd0c9de3d8315678859ff4a146c02f681638263926b117eaa82b0727", func := "loop.example/g00899/laws.FnExactAllBlocks", spec := "fnExactAllBlocks", inPlace := ["internal/abi.NoEscape", "internal/bytealg.MakeNoZero"], unfollowed := true, recurses := true, apart := false, narrowed := true }
def FnExactAllBlocksUptoSaid : Prop := fnExactAllBlocksUptoRow.holds Try.pinned (OpenSpec.upto fnExactAllBlocksSpec)

end Rows
end Go.Proofs.Ytjnabncfkogigaa
