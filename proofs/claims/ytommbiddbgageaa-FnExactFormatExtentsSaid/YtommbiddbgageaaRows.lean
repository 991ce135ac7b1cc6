/-
  No cell of these rows narrows 'for every input' (looked for: loops, veiled, ifaces, maps, wideKeys, modest, calm, conditions, laid).
  DERIVED. THE GIVEN ROWS OF THIS SEAT. 3 by the template 'for every input the law returns true; each argument reads behind the call as it read before'; 0 by the template 'total and deterministic' (their statements: YtommbiddbgageaaTotals.lean).
  GIVEN WITH THE SEED: the statements are not yours to turn. If you find one false, say at which input.
  Laid BY PROGRAM, IN A SANDBOX (cutbox-rows.mjs): the forced cells as the released guide's own fill.sh prints them over the translation df3ce6d669fda06b… (all of the seat's roots in one cut). By AI agents, Wed Nov 11 2026. No macro, syntax, notation, axiom, sorry.
-/
import Derived.Test.YtommbiddbgageaaChecked
import GoSem.Claim
import GoSem.ClaimJoined
import GoSem.ClaimMapViews
import Derived.JoinedTies
import Derived.KernelRfl
namespace Go.Proofs.Ytommbiddbgageaa
/- THE CELL 'sum', in the pinned program and in every row, IS THE sha256 OF THE DUMP (.gsa) THAT YtommbiddbgageaaProg.lean LOADS. Nothing in Lean hashes anything: it is a label: what it is worth is what the hold of that sum in a sandbox is worth. -/
noncomputable def Try.pinned : Pinned := { name := "ytommbiddbgageaa", sum := "df3ce6d669fda06b7a724be4994238f662ab8cc576055c2e239a6ff37d2940c7", checked := Try.checked }
namespace Rows
def none {H : Type} : Left H := { results := [], args := [] }

/-- 'laws.FnExactExtentsOn': WHATEVER THE INPUT: true; the input reads as it did. -/
def fnExactExtentsOnSpec : ChangeSpec := { name := "fnExactExtentsOn", fn := fun _ => fun
  | [d] => { results := [.lit (.bool true)], args := [d] }
  | _ => none }
def fnExactExtentsOnRow : OpenClaim := { program := "ytommbiddbgageaa", sum := "df3ce6d669fda06b7a724be4994238f662ab8cc576055c2e239a6ff37d2940c7", func := "loop.example/g00899/laws.FnExactExtentsOn", spec := "fnExactExtentsOn", inPlace := ["internal/abi.NoEscape", "internal/bytealg.MakeNoZero"], unfollowed := true, recurses := true, apart := false }
def FnExactExtentsOnSaid : Prop := fnExactExtentsOnRow.holds Try.pinned (OpenSpec.ofChange fnExactExtentsOnSpec)

/-- ITS FALSE NEIGHBOUR: 'it returns false'. Refute it at one input. -/
def fnExactExtentsOnWrong : ChangeSpec := { name := "fnExactExtentsOn", fn := fun _ => fun
  | [d] => { results := [.lit (.bool false)], args := [d] }
  | _ => none }
def FnExactExtentsOnWrongFalsely : Prop := fnExactExtentsOnRow.holds Try.pinned (OpenSpec.ofChange fnExactExtentsOnWrong)

/-- 'laws.FnExactFormatExtents': WHATEVER THE INPUT: true; the input reads as it did. -/
def fnExactFormatExtentsSpec : ChangeSpec := { name := "fnExactFormatExtents", fn := fun _ => fun
  | [d1, d2] => { results := [.lit (.bool true)], args := [d1, d2] }
  | _ => none }
def fnExactFormatExtentsRow : OpenClaim := { program := "ytommbiddbgageaa", sum := "df3ce6d669fda06b7a724be4994238f662ab8cc576055c2e239a6ff37d2940c7", func := "loop.example/g00899/laws.FnExactFormatExtents", spec := "fnExactFormatExtents", inPlace := ["internal/abi.NoEscape", "internal/bytealg.MakeNoZero"], apart := false }
def FnExactFormatExtentsSaid : Prop := fnExactFormatExtentsRow.holds Try.pinned (OpenSpec.ofChange fnExactFormatExtentsSpec)

/-- ITS FALSE NEIGHBOUR: 'it returns false'. Refute it at one input. -/
def fnExactFormatExtentsWrong : ChangeSpec := { name := "fnExactFormatExtents", fn := fun _ => fun
  | [d1, d2] => { results := [.lit (.bool false)], args := [d1, d2] }
  | _ => none }
def FnExactFormatExtentsWrongFalsely : Prop := fnExactFormatExtentsRow.holds Try.pinned (OpenSpec.ofChange fnExactFormatExtentsWrong)

/-- 'laws.FnExactSetExtent': WHATEVER THE INPUT: true; the input reads as it did. -/
def fnExactSetExtentSpec : ChangeSpec := { name := "fnExactSetExtent", fn := fun _ => fun
  | [d1, d2, d3] => { results := [.lit (.bool true)], args := [d1, d2, d3] }
  | _ => none }
def fnExactSetExtentRow : OpenClaim := { program := "ytommbiddbgageaa", sum := "df3ce6d669fda06b7a724be4994238f662ab8cc576055c2e239a6ff37d2940c7", func := "loop.example/g00899/laws.FnExactSetExtent", spec := "fnExactSetExtent", inPlace := ["internal/abi.NoEscape", "internal/bytealg.MakeNoZero"], unfollowed := true, recurses := true, apart := false }
def FnExactSetExtentSaid : Prop := fnExactSetExtentRow.holds Try.pinned (OpenSpec.ofChange fnExactSetExtentSpec)

/-- ITS FALSE NEIGHBOUR: 'it returns false'. Refute it at one input. -/
def fnExactSetExtentWrong : ChangeSpec := { name := "fnExactSetExtent", fn := fun _ => fun
  | [d1, d2, d3] => { results := [.lit (.bool false)], args := [d1, d2, d3] }
  | _ => none }
def FnExactSetExtentWrongFalsely : Prop := fnExactSetExtentRow.holds Try.pinned (OpenSpec.ofChange fnExactSetExtentWrong)

/- THE SECOND FORM. 'bulk': how many values and letters a reading holds, each counted each time it is reached (what is shared counts as often as it is met; a slice's spare places count too). A statement '..UptoSaid' is the law's where the arguments, and the package variables that the reading takes, are together of bulk at most 1048576: NARROWER than '..Said'. Prove '..Said' where nothing that the law and all that it calls make is longer than what came in: it says more and counts as full. Else prove '..UptoSaid'. A law counts once. -/
mutual
def uptoBulk {H : Type} : DataW H → Nat
  | .lit (.string bytes) => bytes.length + 1
  | .lit _ => 1
  | .nil => 1
  | .ptr d => uptoBulk d + 1
  | .slice elems spare => uptoBulkAll elems + uptoBulkAll spare + 1
  | .agg parts => uptoBulkAll parts + 1
  | .iface _ d => uptoBulk d + 1
  | .map entries => uptoBulkEntries entries + 1
  | .held _ => 1
def uptoBulkAll {H : Type} : List (DataW H) → Nat
  | [] => 0
  | d :: r => uptoBulk d + uptoBulkAll r
def uptoBulkEntries {H : Type} : List (Lit × DataW H) → Nat
  | [] => 0
  | x :: r => uptoBulkEntry x + uptoBulkEntries r
def uptoBulkEntry {H : Type} : Lit × DataW H → Nat
  | (.string bytes, d) => bytes.length + uptoBulk d + 1
  | (_, d) => uptoBulk d + 1
 end
def uptoSmall : (H : Type) → List (DataW H) → Bool := fun _ ds => decide (uptoBulkAll ds ≤ 1048576)
def OpenSpec.upto (s : _root_.Go.ChangeSpec) : _root_.Go.OpenSpec := { _root_.Go.OpenSpec.ofChange s with cond := some uptoSmall }

/-- 'laws.FnExactExtentsOn', WHERE WHAT IT READS IS OF BULK AT MOST 1048576: true; the input reads as it did. -/
def fnExactExtentsOnUptoRow : OpenClaim := { program := "ytommbiddbgageaa", sum := "df3ce6d669fda06b7a724be4994238f662ab8cc576055c2e239a6ff37d2940c7", func := "loop.example/g00899/laws.FnExactExtentsOn", spec := "fnExactExtentsOn", inPlace := ["internal/abi.NoEscape", "internal/bytealg.MakeNoZero"], unfollowed := true, recurses := true, apart := false, narrowed := true }
def FnExactExtentsOnUptoSaid : Prop := fnExactExtentsOnUptoRow.holds Try.pinned (OpenSpec.upto fnExactExtentsOnSpec)

/-- 'laws.FnExactFormatExtents', WHERE WHAT IT READS IS OF BULK AT MOST 1048576: true; the input reads as it did. -/
def fnExactFormatExtentsUptoRow : OpenClaim := { program := "ytommbiddbgageaa", sum := "df3ce6d669fda06b7a724be4994238f662ab8cc576055c2e239a6ff37d2940c7", func := "loop.example/g00899/laws.FnExactFormatExtents", spec := "fnExactFormatExtents", inPlace := ["internal/abi.NoEscape", "internal/bytealg.MakeNoZero"], apart := false, narrowed := true }
def FnExactFormatExtentsUptoSaid : Prop := fnExactFormatExtentsUptoRow.holds Try.pinned (OpenSpec.upto fnExactFormatExtentsSpec)

/-- 'laws.FnExactSetExtent', WHERE WHAT IT READS IS OF BULK AT MOST 1048576: true; the input reads as it did. -/
def fnExactSetExtentUptoRow : OpenClaim := { program := "ytommbiddbgageaa", sum := "df3ce6d669fda06b7a724be4994238f662ab8cc576055c2e239a6ff37d2940c7", func := "loop.example/g00899/laws.FnExactSetExtent", spec := "fnExactSetExtent", inPlace := ["internal/abi.NoEscape", "internal/bytealg.MakeNoZero"], unfollowed := true, recurses := true, apart := false, narrowed := true }
def FnExactSetExtentUptoSaid : Prop := fnExactSetExtentUptoRow.holds Try.pinned (OpenSpec.upto fnExactSetExtentSpec)

end Rows
end Go.Proofs.Ytommbiddbgageaa
