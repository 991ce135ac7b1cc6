/-
  No cell of these rows narrows 'for every input' (looked for: loops, veiled, ifaces, maps, wideKeys, modest, calm, conditions, laid).
  DERIVED. THE GIVEN ROWS OF THIS SEAT. 4 by the template 'for every input the law returns true; each argument reads behind the call as it read before'; 0 by the template 'total and deterministic' (their statements: YtffefhgemmjkoaaTotals.lean).
  GIVEN WITH THE SEED: the statements are not yours to turn. If you find one false, say at which input.
  Laid BY PROGRAM, IN A SANDBOX (cutbox-rows.mjs): the forced cells as the released guide's own fill.sh prints them over the translation 0c33cdfd8ecfc540… (all of the seat's roots in one cut). By AI agents, Wed Nov 11 2026. No macro, syntax, notation, axiom, sorry.
-/
import Derived.Test.YtffefhgemmjkoaaChecked
import GoSem.Claim
import GoSem.ClaimJoined
import GoSem.ClaimMapViews
import Derived.JoinedTies
import Derived.KernelRfl
namespace Go.Proofs.Ytffefhgemmjkoaa
/- THE CELL 'sum', in the pinned program and in every row, IS THE sha256 OF THE DUMP (.gsa) THAT YtffefhgemmjkoaaProg.lean LOADS. Nothing in Lean hashes anything: it is a label: what it is worth is what the hold of that sum in a sandbox is worth. -/
noncomputable def Try.pinned : Pinned := { name := "ytffefhgemmjkoaa", sum := "0c33cdfd8ecfc5408047a70d047ae5e7516c5d43584bb2e71da642c442c75a32", checked := Try.checked }
namespace Rows
def none {H : Type} : Left H := { results := [], args := [] }

/-- 'laws.FnExactValidSectorSpec': WHATEVER THE INPUT: true; the input reads as it did. -/
def fnExactValidSectorSpecSpec : ChangeSpec := { name := "fnExactValidSectorSpec", fn := fun _ => fun
  | [d] => { results := [.lit (.bool true)], args := [d] }
  | _ => none }
def fnExactValidSectorSpecRow : OpenClaim := { program := "ytffefhgemmjkoaa", sum := "0c33cdfd8ecfc5408047a70d047ae5e7516c5d43584bb2e71da642c442c75a32", func := "loop.example/g00899/laws.FnExactValidSectorSpec", spec := "fnExactValidSectorSpec", apart := false }
def FnExactValidSectorSpecSaid : Prop := fnExactValidSectorSpecRow.holds Try.pinned (OpenSpec.ofChange fnExactValidSectorSpecSpec)

/-- ITS FALSE NEIGHBOUR: 'it returns false'. Refute it at one input. -/
def fnExactValidSectorSpecWrong : ChangeSpec := { name := "fnExactValidSectorSpec", fn := fun _ => fun
  | [d] => { results := [.lit (.bool false)], args := [d] }
  | _ => none }
def FnExactValidSectorSpecWrongFalsely : Prop := fnExactValidSectorSpecRow.holds Try.pinned (OpenSpec.ofChange fnExactValidSectorSpecWrong)

/-- 'laws.FnExactFmMark': WHATEVER THE INPUT: true; the input reads as it did. -/
def fnExactFmMarkSpec : ChangeSpec := { name := "fnExactFmMark", fn := fun _ => fun
  | [d] => { results := [.lit (.bool true)], args := [d] }
  | _ => none }
def fnExactFmMarkRow : OpenClaim := { program := "ytffefhgemmjkoaa", sum := "0c33cdfd8ecfc5408047a70d047ae5e7516c5d43584bb2e71da642c442c75a32", func := "loop.example/g00899/laws.FnExactFmMark", spec := "fnExactFmMark", inPlace := ["internal/abi.NoEscape"], apart := false }
def FnExactFmMarkSaid : Prop := fnExactFmMarkRow.holds Try.pinned (OpenSpec.ofChange fnExactFmMarkSpec)

/-- ITS FALSE NEIGHBOUR: 'it returns false'. Refute it at one input. -/
def fnExactFmMarkWrong : ChangeSpec := { name := "fnExactFmMark", fn := fun _ => fun
  | [d] => { results := [.lit (.bool false)], args := [d] }
  | _ => none }
def FnExactFmMarkWrongFalsely : Prop := fnExactFmMarkRow.holds Try.pinned (OpenSpec.ofChange fnExactFmMarkWrong)

/-- 'laws.FnExactFmMarkOf': WHATEVER THE INPUT: true; the input reads as it did. -/
def fnExactFmMarkOfSpec : ChangeSpec := { name := "fnExactFmMarkOf", fn := fun _ => fun
  | [d] => { results := [.lit (.bool true)], args := [d] }
  | _ => none }
def fnExactFmMarkOfRow : OpenClaim := { program := "ytffefhgemmjkoaa", sum := "0c33cdfd8ecfc5408047a70d047ae5e7516c5d43584bb2e71da642c442c75a32", func := "loop.example/g00899/laws.FnExactFmMarkOf", spec := "fnExactFmMarkOf", inPlace := ["internal/abi.NoEscape", "internal/bytealg.IndexByteString", "internal/bytealg.IndexString"], named := ["internal/bytealg.MaxLen"], apart := false }
def FnExactFmMarkOfSaid : Prop := fnExactFmMarkOfRow.holds Try.pinned (OpenSpec.ofChange fnExactFmMarkOfSpec)

/-- ITS FALSE NEIGHBOUR: 'it returns false'. Refute it at one input. -/
def fnExactFmMarkOfWrong : ChangeSpec := { name := "fnExactFmMarkOf", fn := fun _ => fun
  | [d] => { results := [.lit (.bool false)], args := [d] }
  | _ => none }
def FnExactFmMarkOfWrongFalsely : Prop := fnExactFmMarkOfRow.holds Try.pinned (OpenSpec.ofChange fnExactFmMarkOfWrong)

/-- 'laws.FnFm': WHATEVER THE INPUT: true; the input reads as it did. -/
def fnFmSpec : ChangeSpec := { name := "fnFm", fn := fun _ => fun
  | [d1, d2] => { results := [.lit (.bool true)], args := [d1, d2] }
  | _ => none }
def fnFmRow : OpenClaim := { program := "ytffefhgemmjkoaa", sum := "0c33cdfd8ecfc5408047a70d047ae5e7516c5d43584bb2e71da642c442c75a32", func := "loop.example/g00899/laws.FnFm", spec := "fnFm", inPlace := ["internal/abi.NoEscape", "internal/bytealg.IndexByteString", "internal/bytealg.IndexString"], unfollowed := true, recurses := true, named := ["internal/bytealg.MaxLen"], apart := false }
def FnFmSaid : Prop := fnFmRow.holds Try.pinned (OpenSpec.ofChange fnFmSpec)

/-- ITS FALSE NEIGHBOUR: 'it returns false'. Refute it at one input. -/
def fnFmWrong : ChangeSpec := { name := "fnFm", fn := fun _ => fun
  | [d1, d2] => { results := [.lit (.bool false)], args := [d1, d2] }
  | _ => none }
def FnFmWrongFalsely : Prop := fnFmRow.holds Try.pinned (OpenSpec.ofChange fnFmWrong)

/- THE SECOND FORM. 'bulk': how many values and letters a reading holds, each counted each time it is reached (what is shared counts as often as it is met; a slice's spare places count too). A statement '..UptoSaid' is the law's where the arguments, and the package variables that the reading takes, are together of bulk at most 1048576: NARROWER than '..Said'. Prove '..Said' where nothing that the law and all that it calls make is longer than what came in: it says more and counts as full. Else prove '..UptoSaid'. A law counts once. -/
mutual
def uptoBulk {H : Type} : DataW H → Nat
  | .lit (.string bytes) => bytes.length + 1
  | .lit _ => 1
  | .nil => 1
  | .ptr d => uptoBulk d + 1
  | .slice elems spare => uptoBulkAll elems + uptoBulkAll spare + 1
  | .agg parts => uptoBulkAll parts + 1
  | .iface _ d => uptoBulk d + 1
  | .map entries => uptoBulkEntries entries + 1
  | .held _ => 1
def uptoBulkAll {H : Type} : List (DataW H) → Nat
  | [] => 0
  | d :: r => uptoBulk d + uptoBulkAll r
def uptoBulkEntries {H : Type} : List (Lit × DataW H) → Nat
  | [] => 0
  | x :: r => uptoBulkEntry x + uptoBulkEntries r
def uptoBulkEntry {H : Type} : Lit × DataW H → Nat
  | (.string bytes, d) => bytes.length + uptoBulk d + 1
  | (_, d) => uptoBulk d + 1
 end
def uptoSmall : (H : Type) → List (DataW H) → Bool := fun _ ds => decide (uptoBulkAll ds ≤ 1048576)
def OpenSpec.upto (s : _root_.Go.ChangeSpec) : _root_.Go.OpenSpec := { _root_.Go.OpenSpec.ofChange s with cond := some uptoSmall }

/-- 'laws.FnExactValidSectorSpec', WHERE WHAT IT READS IS OF BULK AT MOST 1048576: true; the input reads as it did. -/
def fnExactValidSectorSpecUptoRow : OpenClaim := { program := "ytffefhgemmjkoaa", sum := "0c33cdfd8ecfc5408047a70d047ae5e7516c5d43584bb2e71da642c442c75a32", func := "loop.example/g00899/laws.FnExactValidSectorSpec", spec := "fnExactValidSectorSpec", apart := false, narrowed := true }
def FnExactValidSectorSpecUptoSaid : Prop := fnExactValidSectorSpecUptoRow.holds Try.pinned (OpenSpec.upto fnExactValidSectorSpecSpec)

/-- 'laws.FnExactFmMark', WHERE WHAT IT READS IS OF BULK AT MOST 1048576: true; the input reads as it did. -/
def fnExactFmMarkUptoRow : OpenClaim := { program := "ytffefhgemmjkoaa", sum := "0c33cdfd8ecfc5408047a70d047ae5e7516c5d43584bb2e71da642c442c75a32", func := "loop.example/g00899/laws.FnExactFmMark", spec := "fnExactFmMark", inPlace := ["internal/abi.NoEscape"], apart := false, narrowed := true }
def FnExactFmMarkUptoSaid : Prop := fnExactFmMarkUptoRow.holds Try.pinned (OpenSpec.upto fnExactFmMarkSpec)

/-- 'laws.FnExactFmMarkOf', WHERE WHAT IT READS IS OF BULK AT MOST 1048576: true; the input reads as it did. -/
def fnExactFmMarkOfUptoRow : OpenClaim := { program := "ytffefhgemmjkoaa", sum := "0c33cdfd8ecfc5408047a70d047ae5e7516c5d43584bb2e71da642c442c75a32", func := "loop.example/g00899/laws.FnExactFmMarkOf", spec := "fnExactFmMarkOf", inPlace := ["internal/abi.NoEscape", "internal/bytealg.IndexByteString", "internal/bytealg.IndexString"], named := ["internal/bytealg.MaxLen"], apart := false, narrowed := true }
def FnExactFmMarkOfUptoSaid : Prop := fnExactFmMarkOfUptoRow.holds Try.pinned (OpenSpec.upto fnExactFmMarkOfSpec)

/-- 'laws.FnFm', WHERE WHAT IT READS IS OF BULK AT MOST 1048576: true; the input reads as it did. -/
def fnFmUptoRow : OpenClaim := { program := "ytffefhgemmjkoaa", sum := "0c33cdfd8ecfc5408047a70d047ae5e7516c5d43584bb2e71da642c442c75a32", func := "loop.example/g00899/laws.FnFm", spec := "fnFm", inPlace := ["internal/abi.NoEscape", "internal/bytealg.IndexByteString", "internal/bytealg.IndexString"], unfollowed := true, recurses := true, named := ["internal/bytealg.MaxLen"], apart := false, narrowed := true }
def FnFmUptoSaid : Prop := fnFmUptoRow.holds Try.pinned (OpenSpec.upto fnFmSpec)

end Rows
end Go.Proofs.Ytffefhgemmjkoaa
