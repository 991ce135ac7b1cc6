/-
  No cell of these rows narrows 'for every input' (looked for: loops, veiled, ifaces, maps, wideKeys, modest, calm, conditions, laid).
  DERIVED. THE GIVEN ROWS OF THIS SEAT. 8 by the template 'for every input the law returns true; each argument reads behind the call as it read before'; 0 by the template 'total and deterministic' (their statements: YtogoklgppepbjaaTotals.lean).
  GIVEN WITH THE SEED: the statements are not yours to turn. If you find one false, say at which input.
  Laid BY PROGRAM, IN A SANDBOX (cutbox-rows.mjs): the forced cells as the released guide's own fill.sh prints them over the translation 96e39ea0378d8de2… (all of the seat's roots in one cut). By AI agents, Wed Nov 11 2026. No macro, syntax, notation, axiom, sorry.
-/
import Derived.Test.YtogoklgppepbjaaChecked
import GoSem.Claim
import GoSem.ClaimJoined
import GoSem.ClaimMapViews
import Derived.JoinedTies
import Derived.KernelRfl
namespace Go.Proofs.Ytogoklgppepbjaa
/- THE CELL 'sum', in the pinned program and in every row, IS THE sha256 OF THE DUMP (.gsa) THAT YtogoklgppepbjaaProg.lean LOADS. Nothing in Lean hashes anything: it is a label: what it is worth is what the hold of that sum in a sandbox is worth. -/
noncomputable def Try.pinned : Pinned := { name := "ytogoklgppepbjaa", sum := "96e39ea0378d8de23d60abb07a73d6962e0ed15e2184132f6c2babcd3ac6ff51", checked := Try.checked }
namespace Rows
def none {H : Type} : Left H := { results := [], args := [] }

/-- 'laws.FnExactPackRuns': WHATEVER THE INPUT: true; the input reads as it did. -/
def fnExactPackRunsSpec : ChangeSpec := { name := "fnExactPackRuns", fn := fun _ => fun
  | [d] => { results := [.lit (.bool true)], args := [d] }
  | _ => none }
def fnExactPackRunsRow : OpenClaim := { program := "ytogoklgppepbjaa", sum := "96e39ea0378d8de23d60abb07a73d6962e0ed15e2184132f6c2babcd3ac6ff51", func := "loop.example/g00899/laws.FnExactPackRuns", spec := "fnExactPackRuns", inPlace := ["internal/abi.NoEscape"], unfollowed := true, recurses := true, apart := false }
def FnExactPackRunsSaid : Prop := fnExactPackRunsRow.holds Try.pinned (OpenSpec.ofChange fnExactPackRunsSpec)

/-- ITS FALSE NEIGHBOUR: 'it returns false'. Refute it at one input. -/
def fnExactPackRunsWrong : ChangeSpec := { name := "fnExactPackRuns", fn := fun _ => fun
  | [d] => { results := [.lit (.bool false)], args := [d] }
  | _ => none }
def FnExactPackRunsWrongFalsely : Prop := fnExactPackRunsRow.holds Try.pinned (OpenSpec.ofChange fnExactPackRunsWrong)

/-- 'laws.FnExactPackBytes': WHATEVER THE INPUT: true; the input reads as it did. -/
def fnExactPackBytesSpec : ChangeSpec := { name := "fnExactPackBytes", fn := fun _ => fun
  | [d] => { results := [.lit (.bool true)], args := [d] }
  | _ => none }
def fnExactPackBytesRow : OpenClaim := { program := "ytogoklgppepbjaa", sum := "96e39ea0378d8de23d60abb07a73d6962e0ed15e2184132f6c2babcd3ac6ff51", func := "loop.example/g00899/laws.FnExactPackBytes", spec := "fnExactPackBytes", inPlace := ["internal/abi.NoEscape"], unfollowed := true, recurses := true, apart := false }
def FnExactPackBytesSaid : Prop := fnExactPackBytesRow.holds Try.pinned (OpenSpec.ofChange fnExactPackBytesSpec)

/-- ITS FALSE NEIGHBOUR: 'it returns false'. Refute it at one input. -/
def fnExactPackBytesWrong : ChangeSpec := { name := "fnExactPackBytes", fn := fun _ => fun
  | [d] => { results := [.lit (.bool false)], args := [d] }
  | _ => none }
def FnExactPackBytesWrongFalsely : Prop := fnExactPackBytesRow.holds Try.pinned (OpenSpec.ofChange fnExactPackBytesWrong)

/-- 'laws.FnExactDeltasOf': WHATEVER THE INPUT: true; the input reads as it did. -/
def fnExactDeltasOfSpec : ChangeSpec := { name := "fnExactDeltasOf", fn := fun _ => fun
  | [d1, d2] => { results := [.lit (.bool true)], args := [d1, d2] }
  | _ => none }
def fnExactDeltasOfRow : OpenClaim := { program := "ytogoklgppepbjaa", sum := "96e39ea0378d8de23d60abb07a73d6962e0ed15e2184132f6c2babcd3ac6ff51", func := "loop.example/g00899/laws.FnExactDeltasOf", spec := "fnExactDeltasOf", apart := false }
def FnExactDeltasOfSaid : Prop := fnExactDeltasOfRow.holds Try.pinned (OpenSpec.ofChange fnExactDeltasOfSpec)

/-- ITS FALSE NEIGHBOUR: 'it returns false'. Refute it at one input. -/
def fnExactDeltasOfWrong : ChangeSpec := { name := "fnExactDeltasOf", fn := fun _ => fun
  | [d1, d2] => { results := [.lit (.bool false)], args := [d1, d2] }
  | _ => none }
def FnExactDeltasOfWrongFalsely : Prop := fnExactDeltasOfRow.holds Try.pinned (OpenSpec.ofChange fnExactDeltasOfWrong)

/-- 'laws.FnExactApplyDeltas': WHATEVER THE INPUT: true; the input reads as it did. -/
def fnExactApplyDeltasSpec : ChangeSpec := { name := "fnExactApplyDeltas", fn := fun _ => fun
  | [d1, d2] => { results := [.lit (.bool true)], args := [d1, d2] }
  | _ => none }
def fnExactApplyDeltasRow : OpenClaim := { program := "ytogoklgppepbjaa", sum := "96e39ea0378d8de23d60abb07a73d6962e0ed15e2184132f6c2babcd3ac6ff51", func := "loop.example/g00899/laws.FnExactApplyDeltas", spec := "fnExactApplyDeltas", apart := false }
def FnExactApplyDeltasSaid : Prop := fnExactApplyDeltasRow.holds Try.pinned (OpenSpec.ofChange fnExactApplyDeltasSpec)

/-- ITS FALSE NEIGHBOUR: 'it returns false'. Refute it at one input. -/
def fnExactApplyDeltasWrong : ChangeSpec := { name := "fnExactApplyDeltas", fn := fun _ => fun
  | [d1, d2] => { results := [.lit (.bool false)], args := [d1, d2] }
  | _ => none }
def FnExactApplyDeltasWrongFalsely : Prop := fnExactApplyDeltasRow.holds Try.pinned (OpenSpec.ofChange fnExactApplyDeltasWrong)

/-- 'laws.FnExactPackGaps': WHATEVER THE INPUT: true; the input reads as it did. -/
def fnExactPackGapsSpec : ChangeSpec := { name := "fnExactPackGaps", fn := fun _ => fun
  | [d] => { results := [.lit (.bool true)], args := [d] }
  | _ => none }
def fnExactPackGapsRow : OpenClaim := { program := "ytogoklgppepbjaa", sum := "96e39ea0378d8de23d60abb07a73d6962e0ed15e2184132f6c2babcd3ac6ff51", func := "loop.example/g00899/laws.FnExactPackGaps", spec := "fnExactPackGaps", inPlace := ["internal/abi.NoEscape"], unfollowed := true, recurses := true, apart := false }
def FnExactPackGapsSaid : Prop := fnExactPackGapsRow.holds Try.pinned (OpenSpec.ofChange fnExactPackGapsSpec)

/-- ITS FALSE NEIGHBOUR: 'it returns false'. Refute it at one input. -/
def fnExactPackGapsWrong : ChangeSpec := { name := "fnExactPackGaps", fn := fun _ => fun
  | [d] => { results := [.lit (.bool false)], args := [d] }
  | _ => none }
def FnExactPackGapsWrongFalsely : Prop := fnExactPackGapsRow.holds Try.pinned (OpenSpec.ofChange fnExactPackGapsWrong)

/-- 'laws.FnExactValidChunk': WHATEVER THE INPUT: true; the input reads as it did. -/
def fnExactValidChunkSpec : ChangeSpec := { name := "fnExactValidChunk", fn := fun _ => fun
  | [d] => { results := [.lit (.bool true)], args := [d] }
  | _ => none }
def fnExactValidChunkRow : OpenClaim := { program := "ytogoklgppepbjaa", sum := "96e39ea0378d8de23d60abb07a73d6962e0ed15e2184132f6c2babcd3ac6ff51", func := "loop.example/g00899/laws.FnExactValidChunk", spec := "fnExactValidChunk", apart := false }
def FnExactValidChunkSaid : Prop := fnExactValidChunkRow.holds Try.pinned (OpenSpec.ofChange fnExactValidChunkSpec)

/-- ITS FALSE NEIGHBOUR: 'it returns false'. Refute it at one input. -/
def fnExactValidChunkWrong : ChangeSpec := { name := "fnExactValidChunk", fn := fun _ => fun
  | [d] => { results := [.lit (.bool false)], args := [d] }
  | _ => none }
def FnExactValidChunkWrongFalsely : Prop := fnExactValidChunkRow.holds Try.pinned (OpenSpec.ofChange fnExactValidChunkWrong)

/-- 'laws.FnExactValidImage': WHATEVER THE INPUT: true; the input reads as it did. -/
def fnExactValidImageSpec : ChangeSpec := { name := "fnExactValidImage", fn := fun _ => fun
  | [d] => { results := [.lit (.bool true)], args := [d] }
  | _ => none }
def fnExactValidImageRow : OpenClaim := { program := "ytogoklgppepbjaa", sum := "96e39ea0378d8de23d60abb07a73d6962e0ed15e2184132f6c2babcd3ac6ff51", func := "loop.example/g00899/laws.FnExactValidImage", spec := "fnExactValidImage", inPlace := ["internal/abi.NoEscape", "internal/bytealg.MakeNoZero"], unfollowed := true, recurses := true, apart := false }
def FnExactValidImageSaid : Prop := fnExactValidImageRow.holds Try.pinned (OpenSpec.ofChange fnExactValidImageSpec)

/-- ITS FALSE NEIGHBOUR: 'it returns false'. Refute it at one input. -/
def fnExactValidImageWrong : ChangeSpec := { name := "fnExactValidImage", fn := fun _ => fun
  | [d] => { results := [.lit (.bool false)], args := [d] }
  | _ => none }
def FnExactValidImageWrongFalsely : Prop := fnExactValidImageRow.holds Try.pinned (OpenSpec.ofChange fnExactValidImageWrong)

/-- 'laws.FnExactSameImage': WHATEVER THE INPUT: true; the input reads as it did. -/
def fnExactSameImageSpec : ChangeSpec := { name := "fnExactSameImage", fn := fun _ => fun
  | [d1, d2] => { results := [.lit (.bool true)], args := [d1, d2] }
  | _ => none }
def fnExactSameImageRow : OpenClaim := { program := "ytogoklgppepbjaa", sum := "96e39ea0378d8de23d60abb07a73d6962e0ed15e2184132f6c2babcd3ac6ff51", func := "loop.example/g00899/laws.FnExactSameImage", spec := "fnExactSameImage", apart := false }
def FnExactSameImageSaid : Prop := fnExactSameImageRow.holds Try.pinned (OpenSpec.ofChange fnExactSameImageSpec)

/-- ITS FALSE NEIGHBOUR: 'it returns false'. Refute it at one input. -/
def fnExactSameImageWrong : ChangeSpec := { name := "fnExactSameImage", fn := fun _ => fun
  | [d1, d2] => { results := [.lit (.bool false)], args := [d1, d2] }
  | _ => none }
def FnExactSameImageWrongFalsely : Prop := fnExactSameImageRow.holds Try.pinned (OpenSpec.ofChange fnExactSameImageWrong)

/- THE SECOND FORM. 'bulk': how many values and letters a reading holds, each counted each time it is reached (what is shared counts as often as it is met; a slice's spare places count too). A statement '..UptoSaid' is the law's where the arguments, and the package variables that the reading takes, are together of bulk at most 1048576: NARROWER than '..Said'. Prove '..Said' where nothing that the law and all that it calls make is longer than what came in: it says more and counts as full. Else prove '..UptoSaid'. A law counts once. -/
mutual
def uptoBulk {H : Type} : DataW H → Nat
  | .lit (.string bytes) => bytes.length + 1
  | .lit _ => 1
  | .nil => 1
  | .ptr d => uptoBulk d + 1
  | .slice elems spare => uptoBulkAll elems + uptoBulkAll spare + 1
  | .agg parts => uptoBulkAll parts + 1
  | .iface _ d => uptoBulk d + 1
  | .map entries => uptoBulkEntries entries + 1
  | .held _ => 1
def uptoBulkAll {H : Type} : List (DataW H) → Nat
  | [] => 0
  | d :: r => uptoBulk d + uptoBulkAll r
def uptoBulkEntries {H : Type} : List (Lit × DataW H) → Nat
  | [] => 0
  | x :: r => uptoBulkEntry x + uptoBulkEntries r
def uptoBulkEntry {H : Type} : Lit × DataW H → Nat
  | (.string bytes, d) => bytes.length + uptoBulk d + 1
  | (_, d) => uptoBulk d + 1
 end
def uptoSmall : (H : Type) → List (DataW H) → Bool := fun _ ds => decide (uptoBulkAll ds ≤ 1048576)
def OpenSpec.upto (s : _root_.Go.ChangeSpec) : _root_.Go.OpenSpec := { _root_.Go.OpenSpec.ofChange s with cond := some uptoSmall }

/-- 'laws.FnExactPackRuns', WHERE WHAT IT READS IS OF BULK AT MOST 1048576: true; the input reads as it did. -/
def fnExactPackRunsUptoRow : OpenClaim := { program := "ytogoklgppepbjaa", sum := "96e39ea0378d8de23d60abb07a73d6962e0ed15e2184132f6c2babcd3ac6ff51", func := "loop.example/g00899/laws.FnExactPackRuns", spec := "fnExactPackRuns", inPlace := ["internal/abi.NoEscape"], unfollowed := true, recurses := true, apart := false, narrowed := true }
def FnExactPackRunsUptoSaid : Prop := fnExactPackRunsUptoRow.holds Try.pinned (OpenSpec.upto fnExactPackRunsSpec)

/-- 'laws.FnExactPackBytes', WHERE WHAT IT READS IS OF BULK AT MOST 1048576: true; the input reads as it did. -/
def fnExactPackBytesUptoRow : OpenClaim := { program := "ytogoklgppepbjaa", sum := "96e39ea0378d8de23d60abb07a73d6962e0ed15e2184132f6c2babcd3ac6ff51", func := "loop.example/g00899/laws.FnExactPackBytes", spec := "fnExactPackBytes", inPlace := ["internal/abi.NoEscape"], unfollowed := true, recurses := true, apart := false, narrowed := true }
def FnExactPackBytesUptoSaid : Prop := fnExactPackBytesUptoRow.holds Try.pinned (OpenSpec.upto fnExactPackBytesSpec)

/-- 'laws.FnExactDeltasOf', WHERE WHAT IT READS IS OF BULK AT MOST 1048576: true; the input reads as it did. -/
def fnExactDeltasOfUptoRow : OpenClaim := { program := "ytogoklgppepbjaa", sum := "96e39ea0378d8de23d60abb07a73d6962e0ed15e2184132f6c2babcd3ac6ff51", func := "loop.example/g00899/laws.FnExactDeltasOf", spec := "fnExactDeltasOf", apart := false, narrowed := true }
def FnExactDeltasOfUptoSaid : Prop := fnExactDeltasOfUptoRow.holds Try.pinned (OpenSpec.upto fnExactDeltasOfSpec)

/-- 'laws.FnExactApplyDeltas', WHERE WHAT IT READS IS OF BULK AT MOST 1048576: true; the input reads as it did. -/
def fnExactApplyDeltasUptoRow : OpenClaim := { program := "ytogoklgppepbjaa", sum := "96e39ea0378d8de23d60abb07a73d6962e0ed15e2184132f6c2babcd3ac6ff51", func := "loop.example/g00899/laws.FnExactApplyDeltas", spec := "fnExactApplyDeltas", apart := false, narrowed := true }
def FnExactApplyDeltasUptoSaid : Prop := fnExactApplyDeltasUptoRow.holds Try.pinned (OpenSpec.upto fnExactApplyDeltasSpec)

/-- 'laws.FnExactPackGaps', WHERE WHAT IT READS IS OF BULK AT MOST 1048576: true; the input reads as it did. -/
def fnExactPackGapsUptoRow : OpenClaim := { program := "ytogoklgppepbjaa", sum := "96e39ea0378d8de23d60abb07a73d6962e0ed15e2184132f6c2babcd3ac6ff51", func := "loop.example/g00899/laws.FnExactPackGaps", spec := "fnExactPackGaps", inPlace := ["internal/abi.NoEscape"], unfollowed := true, recurses := true, apart := false, narrowed := true }
def FnExactPackGapsUptoSaid : Prop := fnExactPackGapsUptoRow.holds Try.pinned (OpenSpec.upto fnExactPackGapsSpec)

/-- 'laws.FnExactValidChunk', WHERE WHAT IT READS IS OF BULK AT MOST 1048576: true; the input reads as it did. -/
def fnExactValidChunkUptoRow : OpenClaim := { program := "ytogoklgppepbjaa", sum := "96e39ea0378d8de23d60abb07a73d6962e0ed15e2184132f6c2babcd3ac6ff51", func := "loop.example/g00899/laws.FnExactValidChunk", spec := "fnExactValidChunk", apart := false, narrowed := true }
def FnExactValidChunkUptoSaid : Prop := fnExactValidChunkUptoRow.holds Try.pinned (OpenSpec.upto fnExactValidChunkSpec)

/-- 'laws.FnExactValidImage', WHERE WHAT IT READS IS OF BULK AT MOST 1048576: true; the input reads as it did. -/
def fnExactValidImageUptoRow : OpenClaim := { program := "ytogoklgppepbjaa", sum := "96e39ea0378d8de23d60abb07a73d6962e0ed15e2184132f6c2babcd3ac6ff51", func := "loop.example/g00899/laws.FnExactValidImage", spec := "fnExactValidImage", inPlace := ["internal/abi.NoEscape", "internal/bytealg.MakeNoZero"], unfollowed := true, recurses := true, apart := false, narrowed := true }
def FnExactValidImageUptoSaid : Prop := fnExactValidImageUptoRow.holds Try.pinned (OpenSpec.upto fnExactValidImageSpec)

/-- 'laws.FnExactSameImage', WHERE WHAT IT READS IS OF BULK AT MOST 1048576: true; the input reads as it did. -/
def fnExactSameImageUptoRow : OpenClaim := { program := "ytogoklgppepbjaa", sum := "96e39ea0378d8de23d60abb07a73d6962e0ed15e2184132f6c2babcd3ac6ff51", func := "loop.example/g00899/laws.FnExactSameImage", spec := "fnExactSameImage", apart := false, narrowed := true }
def FnExactSameImageUptoSaid : Prop := fnExactSameImageUptoRow.holds Try.pinned (OpenSpec.upto fnExactSameImageSpec)

end Rows
end Go.Proofs.Ytogoklgppepbjaa
