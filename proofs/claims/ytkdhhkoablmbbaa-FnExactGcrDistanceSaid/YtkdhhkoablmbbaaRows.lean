/-
  No cell of these rows narrows 'for every input' (looked for: loops, veiled, ifaces, maps, wideKeys, modest, calm, conditions, laid).
  DERIVED. THE GIVEN ROWS OF THIS SEAT. 12 by the template 'for every input the law returns true; each argument reads behind the call as it read before'; 0 by the template 'total and deterministic' (their statements: YtkdhhkoablmbbaaTotals.lean).
  GIVEN WITH THE SEED: the statements are not yours to turn. If you find one false, say at which input.
  Laid BY PROGRAM, IN A SANDBOX (cutbox-rows.mjs): the forced cells as the released guide's own fill.sh prints them over the translation bae8ba970ab4bc65… (all of the seat's roots in one cut). By AI agents, Wed Nov 11 2026. No macro, syntax, notation, axiom, sorry.
-/
import Derived.Test.YtkdhhkoablmbbaaChecked
import GoSem.Claim
import GoSem.ClaimJoined
import GoSem.ClaimMapViews
import Derived.JoinedTies
import Derived.KernelRfl
namespace Go.Proofs.Ytkdhhkoablmbbaa
/- THE CELL 'sum', in the pinned program and in every row, IS THE sha256 OF THE DUMP (.gsa) THAT YtkdhhkoablmbbaaProg.lean LOADS. Nothing in Lean hashes anything: it is a label: what it is worth is what the hold of that sum in a sandbox is worth. -/
noncomputable def Try.pinned : Pinned := { name := "ytkdhhkoablmbbaa", sum := "bae8ba970ab4bc655686026d72628c0dc84f138ba50a510784810cb70ebd8af5", checked := Try.checked }
namespace Rows
def none {H : Type} : Left H := { results := [], args := [] }

/-- 'laws.FnExactLastBit': WHATEVER THE INPUT: true; the input reads as it did. -/
def fnExactLastBitSpec : ChangeSpec := { name := "fnExactLastBit", fn := fun _ => fun
  | [d] => { results := [.lit (.bool true)], args := [d] }
  | _ => none }
def fnExactLastBitRow : OpenClaim := { program := "ytkdhhkoablmbbaa", sum := "bae8ba970ab4bc655686026d72628c0dc84f138ba50a510784810cb70ebd8af5", func := "loop.example/g00899/laws.FnExactLastBit", spec := "fnExactLastBit", apart := false }
def FnExactLastBitSaid : Prop := fnExactLastBitRow.holds Try.pinned (OpenSpec.ofChange fnExactLastBitSpec)

/-- ITS FALSE NEIGHBOUR: 'it returns false'. Refute it at one input. -/
def fnExactLastBitWrong : ChangeSpec := { name := "fnExactLastBit", fn := fun _ => fun
  | [d] => { results := [.lit (.bool false)], args := [d] }
  | _ => none }
def FnExactLastBitWrongFalsely : Prop := fnExactLastBitRow.holds Try.pinned (OpenSpec.ofChange fnExactLastBitWrong)

/-- 'laws.FnExactMfmMark': WHATEVER THE INPUT: true; the input reads as it did. -/
def fnExactMfmMarkSpec : ChangeSpec := { name := "fnExactMfmMark", fn := fun _ => fun
  | [] => { results := [.lit (.bool true)], args := [] }
  | _ => none }
def fnExactMfmMarkRow : OpenClaim := { program := "ytkdhhkoablmbbaa", sum := "bae8ba970ab4bc655686026d72628c0dc84f138ba50a510784810cb70ebd8af5", func := "loop.example/g00899/laws.FnExactMfmMark", spec := "fnExactMfmMark", apart := false }
def FnExactMfmMarkSaid : Prop := fnExactMfmMarkRow.holds Try.pinned (OpenSpec.ofChange fnExactMfmMarkSpec)

/-- ITS FALSE NEIGHBOUR: 'it returns false'. Refute it at one input. -/
def fnExactMfmMarkWrong : ChangeSpec := { name := "fnExactMfmMark", fn := fun _ => fun
  | [] => { results := [.lit (.bool false)], args := [] }
  | _ => none }
def FnExactMfmMarkWrongFalsely : Prop := fnExactMfmMarkRow.holds Try.pinned (OpenSpec.ofChange fnExactMfmMarkWrong)

/-- 'laws.FnExactFmMark': WHATEVER THE INPUT: true; the input reads as it did. -/
def fnExactFmMarkSpec : ChangeSpec := { name := "fnExactFmMark", fn := fun _ => fun
  | [d] => { results := [.lit (.bool true)], args := [d] }
  | _ => none }
def fnExactFmMarkRow : OpenClaim := { program := "ytkdhhkoablmbbaa", sum := "bae8ba970ab4bc655686026d72628c0dc84f138ba50a510784810cb70ebd8af5", func := "loop.example/g00899/laws.FnExactFmMark", spec := "fnExactFmMark", inPlace := ["internal/abi.NoEscape"], apart := false }
def FnExactFmMarkSaid : Prop := fnExactFmMarkRow.holds Try.pinned (OpenSpec.ofChange fnExactFmMarkSpec)

/-- ITS FALSE NEIGHBOUR: 'it returns false'. Refute it at one input. -/
def fnExactFmMarkWrong : ChangeSpec := { name := "fnExactFmMark", fn := fun _ => fun
  | [d] => { results := [.lit (.bool false)], args := [d] }
  | _ => none }
def FnExactFmMarkWrongFalsely : Prop := fnExactFmMarkRow.holds Try.pinned (OpenSpec.ofChange fnExactFmMarkWrong)

/-- 'laws.FnExactFmMarkOf': WHATEVER THE INPUT: true; the input reads as it did. -/
def fnExactFmMarkOfSpec : ChangeSpec := { name := "fnExactFmMarkOf", fn := fun _ => fun
  | [d] => { results := [.lit (.bool true)], args := [d] }
  | _ => none }
def fnExactFmMarkOfRow : OpenClaim := { program := "ytkdhhkoablmbbaa", sum := "bae8ba970ab4bc655686026d72628c0dc84f138ba50a510784810cb70ebd8af5", func := "loop.example/g00899/laws.FnExactFmMarkOf", spec := "fnExactFmMarkOf", inPlace := ["internal/abi.NoEscape", "internal/bytealg.IndexByteString", "internal/bytealg.IndexString"], named := ["internal/bytealg.MaxLen"], apart := false }
def FnExactFmMarkOfSaid : Prop := fnExactFmMarkOfRow.holds Try.pinned (OpenSpec.ofChange fnExactFmMarkOfSpec)

/-- ITS FALSE NEIGHBOUR: 'it returns false'. Refute it at one input. -/
def fnExactFmMarkOfWrong : ChangeSpec := { name := "fnExactFmMarkOf", fn := fun _ => fun
  | [d] => { results := [.lit (.bool false)], args := [d] }
  | _ => none }
def FnExactFmMarkOfWrongFalsely : Prop := fnExactFmMarkOfRow.holds Try.pinned (OpenSpec.ofChange fnExactFmMarkOfWrong)

/-- 'laws.FnExactDecodeFm': WHATEVER THE INPUT: true; the input reads as it did. -/
def fnExactDecodeFmSpec : ChangeSpec := { name := "fnExactDecodeFm", fn := fun _ => fun
  | [d] => { results := [.lit (.bool true)], args := [d] }
  | _ => none }
def fnExactDecodeFmRow : OpenClaim := { program := "ytkdhhkoablmbbaa", sum := "bae8ba970ab4bc655686026d72628c0dc84f138ba50a510784810cb70ebd8af5", func := "loop.example/g00899/laws.FnExactDecodeFm", spec := "fnExactDecodeFm", inPlace := ["internal/abi.NoEscape", "internal/bytealg.IndexByteString", "internal/bytealg.IndexString"], named := ["internal/bytealg.MaxLen"], apart := false }
def FnExactDecodeFmSaid : Prop := fnExactDecodeFmRow.holds Try.pinned (OpenSpec.ofChange fnExactDecodeFmSpec)

/-- ITS FALSE NEIGHBOUR: 'it returns false'. Refute it at one input. -/
def fnExactDecodeFmWrong : ChangeSpec := { name := "fnExactDecodeFm", fn := fun _ => fun
  | [d] => { results := [.lit (.bool false)], args := [d] }
  | _ => none }
def FnExactDecodeFmWrongFalsely : Prop := fnExactDecodeFmRow.holds Try.pinned (OpenSpec.ofChange fnExactDecodeFmWrong)

/-- 'laws.FnExactDecodeMfm': WHATEVER THE INPUT: true; the input reads as it did. -/
def fnExactDecodeMfmSpec : ChangeSpec := { name := "fnExactDecodeMfm", fn := fun _ => fun
  | [d] => { results := [.lit (.bool true)], args := [d] }
  | _ => none }
def fnExactDecodeMfmRow : OpenClaim := { program := "ytkdhhkoablmbbaa", sum := "bae8ba970ab4bc655686026d72628c0dc84f138ba50a510784810cb70ebd8af5", func := "loop.example/g00899/laws.FnExactDecodeMfm", spec := "fnExactDecodeMfm", inPlace := ["internal/abi.NoEscape", "internal/bytealg.IndexByteString", "internal/bytealg.IndexString"], named := ["internal/bytealg.MaxLen"], apart := false }
def FnExactDecodeMfmSaid : Prop := fnExactDecodeMfmRow.holds Try.pinned (OpenSpec.ofChange fnExactDecodeMfmSpec)

/-- ITS FALSE NEIGHBOUR: 'it returns false'. Refute it at one input. -/
def fnExactDecodeMfmWrong : ChangeSpec := { name := "fnExactDecodeMfm", fn := fun _ => fun
  | [d] => { results := [.lit (.bool false)], args := [d] }
  | _ => none }
def FnExactDecodeMfmWrongFalsely : Prop := fnExactDecodeMfmRow.holds Try.pinned (OpenSpec.ofChange fnExactDecodeMfmWrong)

/-- 'laws.FnExactEncodeFm': WHATEVER THE INPUT: true; the input reads as it did. -/
def fnExactEncodeFmSpec : ChangeSpec := { name := "fnExactEncodeFm", fn := fun _ => fun
  | [d] => { results := [.lit (.bool true)], args := [d] }
  | _ => none }
def fnExactEncodeFmRow : OpenClaim := { program := "ytkdhhkoablmbbaa", sum := "bae8ba970ab4bc655686026d72628c0dc84f138ba50a510784810cb70ebd8af5", func := "loop.example/g00899/laws.FnExactEncodeFm", spec := "fnExactEncodeFm", inPlace := ["internal/abi.NoEscape"], unfollowed := true, recurses := true, apart := false }
def FnExactEncodeFmSaid : Prop := fnExactEncodeFmRow.holds Try.pinned (OpenSpec.ofChange fnExactEncodeFmSpec)

/-- ITS FALSE NEIGHBOUR: 'it returns false'. Refute it at one input. -/
def fnExactEncodeFmWrong : ChangeSpec := { name := "fnExactEncodeFm", fn := fun _ => fun
  | [d] => { results := [.lit (.bool false)], args := [d] }
  | _ => none }
def FnExactEncodeFmWrongFalsely : Prop := fnExactEncodeFmRow.holds Try.pinned (OpenSpec.ofChange fnExactEncodeFmWrong)

/-- 'laws.FnExactEncodeMfm': WHATEVER THE INPUT: true; the input reads as it did. -/
def fnExactEncodeMfmSpec : ChangeSpec := { name := "fnExactEncodeMfm", fn := fun _ => fun
  | [d1, d2] => { results := [.lit (.bool true)], args := [d1, d2] }
  | _ => none }
def fnExactEncodeMfmRow : OpenClaim := { program := "ytkdhhkoablmbbaa", sum := "bae8ba970ab4bc655686026d72628c0dc84f138ba50a510784810cb70ebd8af5", func := "loop.example/g00899/laws.FnExactEncodeMfm", spec := "fnExactEncodeMfm", inPlace := ["internal/abi.NoEscape"], unfollowed := true, recurses := true, apart := false }
def FnExactEncodeMfmSaid : Prop := fnExactEncodeMfmRow.holds Try.pinned (OpenSpec.ofChange fnExactEncodeMfmSpec)

/-- ITS FALSE NEIGHBOUR: 'it returns false'. Refute it at one input. -/
def fnExactEncodeMfmWrong : ChangeSpec := { name := "fnExactEncodeMfm", fn := fun _ => fun
  | [d1, d2] => { results := [.lit (.bool false)], args := [d1, d2] }
  | _ => none }
def FnExactEncodeMfmWrongFalsely : Prop := fnExactEncodeMfmRow.holds Try.pinned (OpenSpec.ofChange fnExactEncodeMfmWrong)

/-- 'laws.FnExactClockFaults': WHATEVER THE INPUT: true; the input reads as it did. -/
def fnExactClockFaultsSpec : ChangeSpec := { name := "fnExactClockFaults", fn := fun _ => fun
  | [d1, d2, d3] => { results := [.lit (.bool true)], args := [d1, d2, d3] }
  | _ => none }
def fnExactClockFaultsRow : OpenClaim := { program := "ytkdhhkoablmbbaa", sum := "bae8ba970ab4bc655686026d72628c0dc84f138ba50a510784810cb70ebd8af5", func := "loop.example/g00899/laws.FnExactClockFaults", spec := "fnExactClockFaults", apart := false }
def FnExactClockFaultsSaid : Prop := fnExactClockFaultsRow.holds Try.pinned (OpenSpec.ofChange fnExactClockFaultsSpec)

/-- ITS FALSE NEIGHBOUR: 'it returns false'. Refute it at one input. -/
def fnExactClockFaultsWrong : ChangeSpec := { name := "fnExactClockFaults", fn := fun _ => fun
  | [d1, d2, d3] => { results := [.lit (.bool false)], args := [d1, d2, d3] }
  | _ => none }
def FnExactClockFaultsWrongFalsely : Prop := fnExactClockFaultsRow.holds Try.pinned (OpenSpec.ofChange fnExactClockFaultsWrong)

/-- 'laws.FnExactRunsOf': WHATEVER THE INPUT: true; the input reads as it did. -/
def fnExactRunsOfSpec : ChangeSpec := { name := "fnExactRunsOf", fn := fun _ => fun
  | [d] => { results := [.lit (.bool true)], args := [d] }
  | _ => none }
def fnExactRunsOfRow : OpenClaim := { program := "ytkdhhkoablmbbaa", sum := "bae8ba970ab4bc655686026d72628c0dc84f138ba50a510784810cb70ebd8af5", func := "loop.example/g00899/laws.FnExactRunsOf", spec := "fnExactRunsOf", apart := false }
def FnExactRunsOfSaid : Prop := fnExactRunsOfRow.holds Try.pinned (OpenSpec.ofChange fnExactRunsOfSpec)

/-- ITS FALSE NEIGHBOUR: 'it returns false'. Refute it at one input. -/
def fnExactRunsOfWrong : ChangeSpec := { name := "fnExactRunsOf", fn := fun _ => fun
  | [d] => { results := [.lit (.bool false)], args := [d] }
  | _ => none }
def FnExactRunsOfWrongFalsely : Prop := fnExactRunsOfRow.holds Try.pinned (OpenSpec.ofChange fnExactRunsOfWrong)

/-- 'laws.FnExactLongestOnes': WHATEVER THE INPUT: true; the input reads as it did. -/
def fnExactLongestOnesSpec : ChangeSpec := { name := "fnExactLongestOnes", fn := fun _ => fun
  | [d] => { results := [.lit (.bool true)], args := [d] }
  | _ => none }
def fnExactLongestOnesRow : OpenClaim := { program := "ytkdhhkoablmbbaa", sum := "bae8ba970ab4bc655686026d72628c0dc84f138ba50a510784810cb70ebd8af5", func := "loop.example/g00899/laws.FnExactLongestOnes", spec := "fnExactLongestOnes", apart := false }
def FnExactLongestOnesSaid : Prop := fnExactLongestOnesRow.holds Try.pinned (OpenSpec.ofChange fnExactLongestOnesSpec)

/-- ITS FALSE NEIGHBOUR: 'it returns false'. Refute it at one input. -/
def fnExactLongestOnesWrong : ChangeSpec := { name := "fnExactLongestOnes", fn := fun _ => fun
  | [d] => { results := [.lit (.bool false)], args := [d] }
  | _ => none }
def FnExactLongestOnesWrongFalsely : Prop := fnExactLongestOnesRow.holds Try.pinned (OpenSpec.ofChange fnExactLongestOnesWrong)

/-- 'laws.FnExactGcrDistance': WHATEVER THE INPUT: true; the input reads as it did. -/
def fnExactGcrDistanceSpec : ChangeSpec := { name := "fnExactGcrDistance", fn := fun _ => fun
  | [d1, d2] => { results := [.lit (.bool true)], args := [d1, d2] }
  | _ => none }
def fnExactGcrDistanceRow : OpenClaim := { program := "ytkdhhkoablmbbaa", sum := "bae8ba970ab4bc655686026d72628c0dc84f138ba50a510784810cb70ebd8af5", func := "loop.example/g00899/laws.FnExactGcrDistance", spec := "fnExactGcrDistance", apart := false }
def FnExactGcrDistanceSaid : Prop := fnExactGcrDistanceRow.holds Try.pinned (OpenSpec.ofChange fnExactGcrDistanceSpec)

/-- ITS FALSE NEIGHBOUR: 'it returns false'. Refute it at one input. -/
def fnExactGcrDistanceWrong : ChangeSpec := { name := "fnExactGcrDistance", fn := fun _ => fun
  | [d1, d2] => { results := [.lit (.bool false)], args := [d1, d2] }
  | _ => none }
def FnExactGcrDistanceWrongFalsely : Prop := fnExactGcrDistanceRow.holds Try.pinned (OpenSpec.ofChange fnExactGcrDistanceWrong)

/- THE SECOND FORM. 'bulk': how many values and letters a reading holds, each counted each time it is reached (what is shared counts as often as it is met; a slice's spare places count too). A statement '..UptoSaid' is the law's where the arguments, and the package variables that the reading takes, are together of bulk at most 1048576: NARROWER than '..Said'. Prove '..Said' where nothing that the law and all that it calls make is longer than what came in: it says more and counts as full. Else prove '..UptoSaid'. A law counts once. -/
mutual
def uptoBulk {H : Type} : DataW H → Nat
  | .lit (.string bytes) => bytes.length + 1
  | .lit _ => 1
  | .nil => 1
  | .ptr d => uptoBulk d + 1
  | .slice elems spare => uptoBulkAll elems + uptoBulkAll spare + 1
  | .agg parts => uptoBulkAll parts + 1
  | .iface _ d => uptoBulk d + 1
  | .map entries => uptoBulkEntries entries + 1
  | .held _ => 1
def uptoBulkAll {H : Type} : List (DataW H) → Nat
  | [] => 0
  | d :: r => uptoBulk d + uptoBulkAll r
def uptoBulkEntries {H : Type} : List (Lit × DataW H) → Nat
  | [] => 0
  | x :: r => uptoBulkEntry x + uptoBulkEntries r
def uptoBulkEntry {H : Type} : Lit × DataW H → Nat
  | (.string bytes, d) => bytes.length + uptoBulk d + 1
  | (_, d) => uptoBulk d + 1
 end
def uptoSmall : (H : Type) → List (DataW H) → Bool := fun _ ds => decide (uptoBulkAll ds ≤ 1048576)
def OpenSpec.upto (s : _root_.Go.ChangeSpec) : _root_.Go.OpenSpec := { _root_.Go.OpenSpec.ofChange s with cond := some uptoSmall }

/-- 'laws.FnExactLastBit', WHERE WHAT IT READS IS OF BULK AT MOST 1048576: true; the input reads as it did. -/
def fnExactLastBitUptoRow : OpenClaim := { program := "ytkdhhkoablmbbaa", sum := "bae8ba970ab4bc655686026d72628c0dc84f138ba50a510784810cb70ebd8af5", func := "loop.example/g00899/laws.FnExactLastBit", spec := "fnExactLastBit", apart := false, narrowed := true }
def FnExactLastBitUptoSaid : Prop := fnExactLastBitUptoRow.holds Try.pinned (OpenSpec.upto fnExactLastBitSpec)

/-- 'laws.FnExactMfmMark', WHERE WHAT IT READS IS OF BULK AT MOST 1048576: true; the input reads as it did. -/
def fnExactMfmMarkUptoRow : OpenClaim := { program := "ytkdhhkoablmbbaa", sum := "bae8ba970ab4bc655686026d72628c0dc84f138ba50a510784810cb70ebd8af5", func := "loop.example/g00899/laws.FnExactMfmMark", spec := "fnExactMfmMark", apart := false, narrowed := true }
def FnExactMfmMarkUptoSaid : Prop := fnExactMfmMarkUptoRow.holds Try.pinned (OpenSpec.upto fnExactMfmMarkSpec)

/-- 'laws.FnExactFmMark', WHERE WHAT IT READS IS OF BULK AT MOST 1048576: true; the input reads as it did. -/
def fnExactFmMarkUptoRow : OpenClaim := { program := "ytkdhhkoablmbbaa", sum := "bae8ba970ab4bc655686026d72628c0dc84f138ba50a510784810cb70ebd8af5", func := "loop.example/g00899/laws.FnExactFmMark", spec := "fnExactFmMark", inPlace := ["internal/abi.NoEscape"], apart := false, narrowed := true }
def FnExactFmMarkUptoSaid : Prop := fnExactFmMarkUptoRow.holds Try.pinned (OpenSpec.upto fnExactFmMarkSpec)

/-- 'laws.FnExactFmMarkOf', WHERE WHAT IT READS IS OF BULK AT MOST 1048576: true; the input reads as it did. -/
def fnExactFmMarkOfUptoRow : OpenClaim := { program := "ytkdhhkoablmbbaa", sum := "bae8ba970ab4bc655686026d72628c0dc84f138ba50a510784810cb70ebd8af5", func := "loop.example/g00899/laws.FnExactFmMarkOf", spec := "fnExactFmMarkOf", inPlace := ["internal/abi.NoEscape", "internal/bytealg.IndexByteString", "internal/bytealg.IndexString"], named := ["internal/bytealg.MaxLen"], apart := false, narrowed := true }
def FnExactFmMarkOfUptoSaid : Prop := fnExactFmMarkOfUptoRow.holds Try.pinned (OpenSpec.upto fnExactFmMarkOfSpec)

/-- 'laws.FnExactDecodeFm', WHERE WHAT IT READS IS OF BULK AT MOST 1048576: true; the input reads as it did. -/
def fnExactDecodeFmUptoRow : OpenClaim := { program := "ytkdhhkoablmbbaa", sum := "bae8ba970ab4bc655686026d72628c0dc84f138ba50a510784810cb70ebd8af5", func := "loop.example/g00899/laws.FnExactDecodeFm", spec := "fnExactDecodeFm", inPlace := ["internal/abi.NoEscape", "internal/bytealg.IndexByteString", "internal/bytealg.IndexString"], named := ["internal/bytealg.MaxLen"], apart := false, narrowed := true }
def FnExactDecodeFmUptoSaid : Prop := fnExactDecodeFmUptoRow.holds Try.pinned (OpenSpec.upto fnExactDecodeFmSpec)

/-- 'laws.FnExactDecodeMfm', WHERE WHAT IT READS IS OF BULK AT MOST 1048576: true; the input reads as it did. -/
def fnExactDecodeMfmUptoRow : OpenClaim := { program := "ytkdhhkoablmbbaa", sum := "bae8ba970ab4bc655686026d72628c0dc84f138ba50a510784810cb70ebd8af5", func := "loop.example/g00899/laws.FnExactDecodeMfm", spec := "fnExactDecodeMfm", inPlace := ["internal/abi.NoEscape", "internal/bytealg.IndexByteString", "internal/bytealg.IndexString"], named := ["internal/bytealg.MaxLen"], apart := false, narrowed := true }
def FnExactDecodeMfmUptoSaid : Prop := fnExactDecodeMfmUptoRow.holds Try.pinned (OpenSpec.upto fnExactDecodeMfmSpec)

/-- 'laws.FnExactEncodeFm', WHERE WHAT IT READS IS OF BULK AT MOST 1048576: true; the input reads as it did. -/
def fnExactEncodeFmUptoRow : OpenClaim := { program := "ytkdhhkoablmbbaa", sum := "bae8ba970ab4bc655686026d72628c0dc84f138ba50a510784810cb70ebd8af5", func := "loop.example/g00899/laws.FnExactEncodeFm", spec := "fnExactEncodeFm", inPlace := ["internal/abi.NoEscape"], unfollowed := true, recurses := true, apart := false, narrowed := true }
def FnExactEncodeFmUptoSaid : Prop := fnExactEncodeFmUptoRow.holds Try.pinned (OpenSpec.upto fnExactEncodeFmSpec)

/-- 'laws.FnExactEncodeMfm', WHERE WHAT IT READS IS OF BULK AT MOST 1048576: true; the input reads as it did. -/
def fnExactEncodeMfmUptoRow : OpenClaim := { program := "ytkdhhkoablmbbaa", sum := "bae8ba970ab4bc655686026d72628c0dc84f138ba50a510784810cb70ebd8af5", func := "loop.example/g00899/laws.FnExactEncodeMfm", spec := "fnExactEncodeMfm", inPlace := ["internal/abi.NoEscape"], unfollowed := true, recurses := true, apart := false, narrowed := true }
def FnExactEncodeMfmUptoSaid : Prop := fnExactEncodeMfmUptoRow.holds Try.pinned (OpenSpec.upto fnExactEncodeMfmSpec)

/-- 'laws.FnExactClockFaults', WHERE WHAT IT READS IS OF BULK AT MOST 1048576: true; the input reads as it did. -/
def fnExactClockFaultsUptoRow : OpenClaim := { program := "ytkdhhkoablmbbaa", sum := "bae8ba970ab4bc655686026d72628c0dc84f138ba50a510784810cb70ebd8af5", func := "loop.example/g00899/laws.FnExactClockFaults", spec := "fnExactClockFaults", apart := false, narrowed := true }
def FnExactClockFaultsUptoSaid : Prop := fnExactClockFaultsUptoRow.holds Try.pinned (OpenSpec.upto fnExactClockFaultsSpec)

/-- 'laws.FnExactRunsOf', WHERE WHAT IT READS IS OF BULK AT MOST 1048576: true; the input reads as it did. -/
def fnExactRunsOfUptoRow : OpenClaim := { program := "ytkdhhkoablmbbaa", sum := "bae8ba970ab4bc655686026d72628c0dc84f138ba50a510784810cb70ebd8af5", func := "loop.example/g00899/laws.FnExactRunsOf", spec := "fnExactRunsOf", apart := false, narrowed := true }
def FnExactRunsOfUptoSaid : Prop := fnExactRunsOfUptoRow.holds Try.pinned (OpenSpec.upto fnExactRunsOfSpec)

/-- 'laws.FnExactLongestOnes', WHERE WHAT IT READS IS OF BULK AT MOST 1048576: true; the input reads as it did. -/
def fnExactLongestOnesUptoRow : OpenClaim := { program := "ytkdhhkoablmbbaa", sum := "bae8ba970ab4bc655686026d72628c0dc84f138ba50a510784810cb70ebd8af5", func := "loop.example/g00899/laws.FnExactLongestOnes", spec := "fnExactLongestOnes", apart := false, narrowed := true }
def FnExactLongestOnesUptoSaid : Prop := fnExactLongestOnesUptoRow.holds Try.pinned (OpenSpec.upto fnExactLongestOnesSpec)

/-- 'laws.FnExactGcrDistance', WHERE WHAT IT READS IS OF BULK AT MOST 1048576: true; the input reads as it did. -/
def fnExactGcrDistanceUptoRow : OpenClaim := { program := "ytkdhhkoablmbbaa", sum := "bae8ba970ab4bc655686026d72628c0dc84f138ba50a510784810cb70ebd8af5", func := "loop.example/g00899/laws.FnExactGcrDistance", spec := "fnExactGcrDistance", apart := false, narrowed := true }
def FnExactGcrDistanceUptoSaid : Prop := fnExactGcrDistanceUptoRow.holds Try.pinned (OpenSpec.upto fnExactGcrDistanceSpec)

end Rows
end Go.Proofs.Ytkdhhkoablmbbaa
