/-
  No cell of these rows narrows 'for every input' (looked for: loops, veiled, ifaces, maps, wideKeys, modest, calm, conditions, laid).
  DERIVED. THE GIVEN ROWS OF THIS SEAT. 3 by the template 'for every input the law returns true; each argument reads behind the call as it read before'; 0 by the template 'total and deterministic' (their statements: YteifmkimhjnjcaaTotals.lean).
  GIVEN WITH THE SEED: the statements are not yours to turn. If you find one false, say at which input.
  Laid BY PROGRAM, IN A SANDBOX (cutbox-rows.mjs): the forced cells as the released guide's own fill.sh prints them over the translation a484140efb3f2806… (all of the seat's roots in one cut). By AI agents, Wed Nov 11 2026. No macro, syntax, notation, axiom, sorry.
-/
import Derived.Test.YteifmkimhjnjcaaChecked
import GoSem.Claim
import GoSem.ClaimJoined
import GoSem.ClaimMapViews
import Derived.JoinedTies
import Derived.KernelRfl
namespace Go.Proofs.Yteifmkimhjnjcaa
/- THE CELL 'sum', in the pinned program and in every row, IS THE sha256 OF THE DUMP (.gsa) THAT YteifmkimhjnjcaaProg.lean LOADS. Nothing in Lean hashes anything: it is a label: what it is worth is what the hold of that sum in a sandbox is worth. -/
noncomputable def Try.pinned : Pinned := { name := "yteifmkimhjnjcaa", sum := "a484140efb3f280662183811dfb2add70066056f58ab4726690451c0a5b90f77", checked := Try.checked }
namespace Rows
def none {H : Type} : Left H := { results := [], args := [] }

/-- 'laws.FnExactHashOf': WHATEVER THE INPUT: true; the input reads as it did. -/
def fnExactHashOfSpec : ChangeSpec := { name := "fnExactHashOf", fn := fun _ => fun
  | [d] => { results := [.lit (.bool true)], args := [d] }
  | _ => none }
def fnExactHashOfRow : OpenClaim := { program := "yteifmkimhjnjcaa", sum := "a484140efb3f280662183811dfb2add70066056f58ab4726690451c0a5b90f77", func := "loop.example/g00899/laws.FnExactHashOf", spec := "fnExactHashOf", apart := false }
def FnExactHashOfSaid : Prop := fnExactHashOfRow.holds Try.pinned (OpenSpec.ofChange fnExactHashOfSpec)

/-- ITS FALSE NEIGHBOUR: 'it returns false'. Refute it at one input. -/
def fnExactHashOfWrong : ChangeSpec := { name := "fnExactHashOf", fn := fun _ => fun
  | [d] => { results := [.lit (.bool false)], args := [d] }
  | _ => none }
def FnExactHashOfWrongFalsely : Prop := fnExactHashOfRow.holds Try.pinned (OpenSpec.ofChange fnExactHashOfWrong)

/-- 'laws.FnExactSealBlock': WHATEVER THE INPUT: true; the input reads as it did. -/
def fnExactSealBlockSpec : ChangeSpec := { name := "fnExactSealBlock", fn := fun _ => fun
  | [d] => { results := [.lit (.bool true)], args := [d] }
  | _ => none }
def fnExactSealBlockRow : OpenClaim := { program := "yteifmkimhjnjcaa", sum := "a484140efb3f280662183811dfb2add70066056f58ab4726690451c0a5b90f77", func := "loop.example/g00899/laws.FnExactSealBlock", spec := "fnExactSealBlock", apart := false }
def FnExactSealBlockSaid : Prop := fnExactSealBlockRow.holds Try.pinned (OpenSpec.ofChange fnExactSealBlockSpec)

/-- ITS FALSE NEIGHBOUR: 'it returns false'. Refute it at one input. -/
def fnExactSealBlockWrong : ChangeSpec := { name := "fnExactSealBlock", fn := fun _ => fun
  | [d] => { results := [.lit (.bool false)], args := [d] }
  | _ => none }
def FnExactSealBlockWrongFalsely : Prop := fnExactSealBlockRow.holds Try.pinned (OpenSpec.ofChange fnExactSealBlockWrong)

/-- 'laws.FnExactFormatTree': WHATEVER THE INPUT: true; the input reads as it did. -/
def fnExactFormatTreeSpec : ChangeSpec := { name := "fnExactFormatTree", fn := fun _ => fun
  | [d] => { results := [.lit (.bool true)], args := [d] }
  | _ => none }
def fnExactFormatTreeRow : OpenClaim := { program := "yteifmkimhjnjcaa", sum := "a484140efb3f280662183811dfb2add70066056f58ab4726690451c0a5b90f77", func := "loop.example/g00899/laws.FnExactFormatTree", spec := "fnExactFormatTree", apart := false }
def FnExactFormatTreeSaid : Prop := fnExactFormatTreeRow.holds Try.pinned (OpenSpec.ofChange fnExactFormatTreeSpec)

/-- ITS FALSE NEIGHBOUR: 'it returns false'. Refute it at one input. -/
def fnExactFormatTreeWrong : ChangeSpec := { name := "fnExactFormatTree", fn := fun _ => fun
  | [d] => { results := [.lit (.bool false)], args := [d] }
  | _ => none }
def FnExactFormatTreeWrongFalsely : Prop := fnExactFormatTreeRow.holds Try.pinned (OpenSpec.ofChange fnExactFormatTreeWrong)

/- THE SECOND FORM. 'bulk': how many values and letters a reading holds, each counted each time it is reached (what is shared counts as often as it is met; a slice's spare places count too). A statement '..UptoSaid' is the law's where the arguments, and the package variables that the reading takes, are together of bulk at most 1048576: NARROWER than '..Said'. Prove '..Said' where nothing that the law and all that it calls make is longer than what came in: it says more and counts as full. Else prove '..UptoSaid'. A law counts once. -/
mutual
def uptoBulk {H : Type} : DataW H → Nat
  | .lit (.string bytes) => bytes.length + 1
  | .lit _ => 1
  | .nil => 1
  | .ptr d => uptoBulk d + 1
  | .slice elems spare => uptoBulkAll elems + uptoBulkAll spare + 1
  | .agg parts => uptoBulkAll parts + 1
  | .iface _ d => uptoBulk d + 1
  | .map entries => uptoBulkEntries entries + 1
  | .held _ => 1
def uptoBulkAll {H : Type} : List (DataW H) → Nat
  | [] => 0
  | d :: r => uptoBulk d + uptoBulkAll r
def uptoBulkEntries {H : Type} : List (Lit × DataW H) → Nat
  | [] => 0
  | x :: r => uptoBulkEntry x + uptoBulkEntries r
def uptoBulkEntry {H : Type} : Lit × DataW H → Nat
  | (.string bytes, d) => bytes.length + uptoBulk d + 1
  | (_, d) => uptoBulk d + 1
 end
def uptoSmall : (H : Type) → List (DataW H) → Bool := fun _ ds => decide (uptoBulkAll ds ≤ 1048576)
def OpenSpec.upto (s : _root_.Go.ChangeSpec) : _root_.Go.OpenSpec := { _root_.Go.OpenSpec.ofChange s with cond := some uptoSmall }

/-- 'laws.FnExactHashOf', WHERE WHAT IT READS IS OF BULK AT MOST 1048576: true; the input reads as it did. -/
def fnExactHashOfUptoRow : OpenClaim := { program := "yteifmkimhjnjcaa", sum := "a484140efb3f280662183811dfb2add70066056f58ab4726690451c0a5b90f77", func := "loop.example/g00899/laws.FnExactHashOf", spec := "fnExactHashOf", apart := false, narrowed := true }
def FnExactHashOfUptoSaid : Prop := fnExactHashOfUptoRow.holds Try.pinned (OpenSpec.upto fnExactHashOfSpec)

/-- 'laws.FnExactSealBlock', WHERE WHAT IT READS IS OF BULK AT MOST 1048576: true; the input reads as it did. -/
def fnExactSealBlockUptoRow : OpenClaim := { program := "yteifmkimhjnjcaa", sum := "a484140efb3f280662183811dfb2add70066056f58ab4726690451c0a5b90f77", func := "loop.example/g00899/laws.FnExactSealBlock", spec := "fnExactSealBlock", apart := false, narrowed := true }
def FnExactSealBlockUptoSaid : Prop := fnExactSealBlockUptoRow.holds Try.pinned (OpenSpec.upto fnExactSealBlockSpec)

/-- 'laws.FnExactFormatTree', WHERE WHAT IT READS IS OF BULK AT MOST 1048576: true; the input reads as it did. -/
def fnExactFormatTreeUptoRow : OpenClaim := { program := "yteifmkimhjnjcaa", sum := "a484140efb3f280662183811dfb2add70066056f58ab4726690451c0a5b90f77", func := "loop.example/g00899/laws.FnExactFormatTree", spec := "fnExactFormatTree", apart := false, narrowed := true }
def FnExactFormatTreeUptoSaid : Prop := fnExactFormatTreeUptoRow.holds Try.pinned (OpenSpec.upto fnExactFormatTreeSpec)

end Rows
end Go.Proofs.Yteifmkimhjnjcaa
