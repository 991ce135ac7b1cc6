/-
  No cell of these rows narrows 'for every input' (looked for: loops, veiled, ifaces, maps, wideKeys, modest, calm, conditions, laid).
  DERIVED. THE GIVEN ROWS OF THIS SEAT. 3 by the template 'for every input the law returns true; each argument reads behind the call as it read before'; 0 by the template 'total and deterministic' (their statements: YtkdhhkoablmbbabTotals.lean).
  GIVEN WITH THE SEED: the statements are not yours to turn. If you find one false, say at which input.
  Laid BY PROGRAM, IN A SANDBOX (cutbox-rows.mjs): the forced cells as the released guide's own fill.sh prints them over the translation 0c82e3b27177ae3b… (all of the seat's roots in one cut). By AI agents, Wed Nov 11 2026. No macro, syntax, notation, axiom, sorry.
-/
import Derived.Test.YtkdhhkoablmbbabChecked
import GoSem.Claim
import GoSem.ClaimJoined
import GoSem.ClaimMapViews
import Derived.JoinedTies
import Derived.KernelRfl
namespace Go.Proofs.Ytkdhhkoablmbbab
/- THE CELL 'sum', in the pinned program and in every row, IS THE sha256 OF THE DUMP (.gsa) THAT YtkdhhkoablmbbabProg.lean LOADS. Nothing in Lean hashes anything: it is a label: what it is worth is what the hold of that sum in a sandbox is worth. -/
noncomputable def Try.pinned : Pinned := { name := "ytkdhhkoablmbbab", sum := "0c82e3b27177ae3bae8a86ef2991668954d7720b9b39630cac1d44a00f2466cf", checked := Try.checked }
namespace Rows
def none {H : Type} : Left H := { results := [], args := [] }

/-- 'laws.FnFm': WHATEVER THE INPUT: true; the input reads as it did. -/
def fnFmSpec : ChangeSpec := { name := "fnFm", fn := fun _ => fun
  | [d1, d2] => { results := [.lit (.bool true)], args := [d1, d2] }
  | _ => none }
def fnFmRow : OpenClaim := { program := "ytkdhhkoablmbbab", sum := "0c82e3b27177ae3bae8a86ef2991668954d7720b9b39630cac1d44a00f2466cf", func := "loop.example/g00899/laws.FnFm", spec := "fnFm", inPlace := ["internal/abi.NoEscape", "internal/bytealg.IndexByteString", "internal/bytealg.IndexString"], unfollowed := true, recurses := true, named := ["internal/bytealg.MaxLen"], apart := false }
def FnFmSaid : Prop := fnFmRow.holds Try.pinned (OpenSpec.ofChange fnFmSpec)

/-- ITS FALSE NEIGHBOUR: 'it returns false'. Refute it at one input. -/
def fnFmWrong : ChangeSpec := { name := "fnFm", fn := fun _ => fun
  | [d1, d2] => { results := [.lit (.bool false)], args := [d1, d2] }
  | _ => none }
def FnFmWrongFalsely : Prop := fnFmRow.holds Try.pinned (OpenSpec.ofChange fnFmWrong)

/-- 'laws.FnMfm': WHATEVER THE INPUT: true; the input reads as it did. -/
def fnMfmSpec : ChangeSpec := { name := "fnMfm", fn := fun _ => fun
  | [d1, d2] => { results := [.lit (.bool true)], args := [d1, d2] }
  | _ => none }
def fnMfmRow : OpenClaim := { program := "ytkdhhkoablmbbab", sum := "0c82e3b27177ae3bae8a86ef2991668954d7720b9b39630cac1d44a00f2466cf", func := "loop.example/g00899/laws.FnMfm", spec := "fnMfm", inPlace := ["internal/abi.NoEscape", "internal/bytealg.IndexByteString", "internal/bytealg.IndexString"], unfollowed := true, recurses := true, named := ["internal/bytealg.MaxLen"], apart := false }
def FnMfmSaid : Prop := fnMfmRow.holds Try.pinned (OpenSpec.ofChange fnMfmSpec)

/-- ITS FALSE NEIGHBOUR: 'it returns false'. Refute it at one input. -/
def fnMfmWrong : ChangeSpec := { name := "fnMfm", fn := fun _ => fun
  | [d1, d2] => { results := [.lit (.bool false)], args := [d1, d2] }
  | _ => none }
def FnMfmWrongFalsely : Prop := fnMfmRow.holds Try.pinned (OpenSpec.ofChange fnMfmWrong)

/-- 'laws.FnMfmRuns': WHATEVER THE INPUT: true; the input reads as it did. -/
def fnMfmRunsSpec : ChangeSpec := { name := "fnMfmRuns", fn := fun _ => fun
  | [d] => { results := [.lit (.bool true)], args := [d] }
  | _ => none }
def fnMfmRunsRow : OpenClaim := { program := "ytkdhhkoablmbbab", sum := "0c82e3b27177ae3bae8a86ef2991668954d7720b9b39630cac1d44a00f2466cf", func := "loop.example/g00899/laws.FnMfmRuns", spec := "fnMfmRuns", inPlace := ["internal/abi.NoEscape", "internal/bytealg.IndexByteString", "internal/bytealg.IndexString"], unfollowed := true, recurses := true, named := ["internal/bytealg.MaxLen"], apart := false }
def FnMfmRunsSaid : Prop := fnMfmRunsRow.holds Try.pinned (OpenSpec.ofChange fnMfmRunsSpec)

/-- ITS FALSE NEIGHBOUR: 'it returns false'. Refute it at one input. -/
def fnMfmRunsWrong : ChangeSpec := { name := "fnMfmRuns", fn := fun _ => fun
  | [d] => { results := [.lit (.bool false)], args := [d] }
  | _ => none }
def FnMfmRunsWrongFalsely : Prop := fnMfmRunsRow.holds Try.pinned (OpenSpec.ofChange fnMfmRunsWrong)

/- THE SECOND FORM. 'bulk': how many values and letters a reading holds, each counted each time it is reached (what is shared counts as often as it is met; a slice's spare places count too). A statement '..UptoSaid' is the law's where the arguments, and the package variables that the reading takes, are together of bulk at most 1048576: NARROWER than '..Said'. Prove '..Said' where nothing that the law and all that it calls make is longer than what came in: it says more and counts as full. Else prove '..UptoSaid'. A law counts once. -/
mutual
def uptoBulk {H : Type} : DataW H → Nat
  | .lit (.string bytes) => bytes.length + 1
  | .lit _ => 1
  | .nil => 1
  | .ptr d => uptoBulk d + 1
  | .slice elems spare => uptoBulkAll elems + uptoBulkAll spare + 1
  | .agg parts => uptoBulkAll parts + 1
  | .iface _ d => uptoBulk d + 1
  | .map entries => uptoBulkEntries entries + 1
  | .held _ => 1
def uptoBulkAll {H : Type} : List (DataW H) → Nat
  | [] => 0
  | d :: r => uptoBulk d + uptoBulkAll r
def uptoBulkEntries {H : Type} : List (Lit × DataW H) → Nat
  | [] => 0
  | x :: r => uptoBulkEntry x + uptoBulkEntries r
def uptoBulkEntry {H : Type} : Lit × DataW H → Nat
  | (.string bytes, d) => bytes.length + uptoBulk d + 1
  | (_, d) => uptoBulk d + 1
 end
def uptoSmall : (H : Type) → List (DataW H) → Bool := fun _ ds => decide (uptoBulkAll ds ≤ 1048576)
def OpenSpec.upto (s : _root_.Go.ChangeSpec) : _root_.Go.OpenSpec := { _root_.Go.OpenSpec.ofChange s with cond := some uptoSmall }

/-- 'laws.FnFm', WHERE WHAT IT READS IS OF BULK AT MOST 1048576: true; the input reads as it did. -/
def fnFmUptoRow : OpenClaim := { program := "ytkdhhkoablmbbab", sum := "0c82e3b27177ae3bae8a86ef2991668954d7720b9b39630cac1d44a00f2466cf", func := "loop.example/g00899/laws.FnFm", spec := "fnFm", inPlace := ["internal/abi.NoEscape", "internal/bytealg.IndexByteString", "internal/bytealg.IndexString"], unfollowed := true, recurses := true, named := ["internal/bytealg.MaxLen"], apart := false, narrowed := true }
def FnFmUptoSaid : Prop := fnFmUptoRow.holds Try.pinned (OpenSpec.upto fnFmSpec)

/-- 'laws.FnMfm', WHERE WHAT IT READS IS OF BULK AT MOST 1048576: true; the input reads as it did. -/
def fnMfmUptoRow : OpenClaim := { program := "ytkdhhkoablmbbab", sum := "0c82e3b27177ae3bae8a86ef2991668954d7720b9b39630cac1d44a00f2466cf", func := "loop.example/g00899/laws.FnMfm", spec := "fnMfm", inPlace := ["internal/abi.NoEscape", "internal/bytealg.IndexByteString", "internal/bytealg.IndexString"], unfollowed := true, recurses := true, named := ["internal/bytealg.MaxLen"], apart := false, narrowed := true }
def FnMfmUptoSaid : Prop := fnMfmUptoRow.holds Try.pinned (OpenSpec.upto fnMfmSpec)

/-- 'laws.FnMfmRuns', WHERE WHAT IT READS IS OF BULK AT MOST 1048576: true; the input reads as it did. -/
def fnMfmRunsUptoRow : OpenClaim := { program := "ytkdhhkoablmbbab", sum := "0c82e3b27177ae3bae8a86ef2991668954d7720b9b39630cac1d44a00f2466cf", func := "loop.example/g00899/laws.FnMfmRuns", spec := "fnMfmRuns", inPlace := ["internal/abi.NoEscape", "internal/bytealg.IndexByteString", "internal/bytealg.IndexString"], unfollowed := true, recurses := true, named := ["internal/bytealg.MaxLen"], apart := false, narrowed := true }
def FnMfmRunsUptoSaid : Prop := fnMfmRunsUptoRow.holds Try.pinned (OpenSpec.upto fnMfmRunsSpec)

end Rows
end Go.Proofs.Ytkdhhkoablmbbab
