/-
  No cell of these rows narrows 'for every input' (looked for: loops, veiled, ifaces, maps, wideKeys, modest, calm, conditions, laid).
  DERIVED. THE GIVEN ROWS OF THIS SEAT. 7 by the template 'for every input the law returns true; each argument reads behind the call as it read before'; 0 by the template 'total and deterministic' (their statements: YtdpnpmfhnfecaaaTotals.lean).
  GIVEN WITH THE SEED: the statements are not yours to turn. If you find one false, say at which input.
  Laid BY PROGRAM, IN A SANDBOX (cutbox-rows.mjs): the forced cells as the released guide's own fill.sh prints them over the translation a27021331e266181… (all of the seat's roots in one cut). By AI agents, Wed Nov 11 2026. No macro, syntax, notation, axiom, sorry.
-/
import Derived.Test.YtdpnpmfhnfecaaaChecked
import GoSem.Claim
import GoSem.ClaimJoined
import GoSem.ClaimMapViews
import Derived.JoinedTies
import Derived.KernelRfl
namespace Go.Proofs.Ytdpnpmfhnfecaaa
/- THE CELL 'sum', in the pinned program and in every row, IS THE sha256 OF THE DUMP (.gsa) THAT YtdpnpmfhnfecaaaProg.lean LOADS. Nothing in Lean hashes anything: it is a label: what it is worth is what the hold of that sum in a sandbox is worth. -/
noncomputable def Try.pinned : Pinned := { name := "ytdpnpmfhnfecaaa", sum := "a27021331e266181948fe673779157189f16e3c2c365ea21090fed359ff15146", checked := Try.checked }
namespace Rows
def none {H : Type} : Left H := { results := [], args := [] }

/-- 'laws.FnExactValidTrackSpec': WHATEVER THE INPUT: true; the input reads as it did. -/
def fnExactValidTrackSpecSpec : ChangeSpec := { name := "fnExactValidTrackSpec", fn := fun _ => fun
  | [d] => { results := [.lit (.bool true)], args := [d] }
  | _ => none }
def fnExactValidTrackSpecRow : OpenClaim := { program := "ytdpnpmfhnfecaaa", sum := "a27021331e266181948fe673779157189f16e3c2c365ea21090fed359ff15146", func := "loop.example/g00899/laws.FnExactValidTrackSpec", spec := "fnExactValidTrackSpec", unfollowed := true, recurses := true, apart := false }
def FnExactValidTrackSpecSaid : Prop := fnExactValidTrackSpecRow.holds Try.pinned (OpenSpec.ofChange fnExactValidTrackSpecSpec)

/-- ITS FALSE NEIGHBOUR: 'it returns false'. Refute it at one input. -/
def fnExactValidTrackSpecWrong : ChangeSpec := { name := "fnExactValidTrackSpec", fn := fun _ => fun
  | [d] => { results := [.lit (.bool false)], args := [d] }
  | _ => none }
def FnExactValidTrackSpecWrongFalsely : Prop := fnExactValidTrackSpecRow.holds Try.pinned (OpenSpec.ofChange fnExactValidTrackSpecWrong)

/-- 'laws.FnExactSameTrackSpec': WHATEVER THE INPUT: true; the input reads as it did. -/
def fnExactSameTrackSpecSpec : ChangeSpec := { name := "fnExactSameTrackSpec", fn := fun _ => fun
  | [d1, d2] => { results := [.lit (.bool true)], args := [d1, d2] }
  | _ => none }
def fnExactSameTrackSpecRow : OpenClaim := { program := "ytdpnpmfhnfecaaa", sum := "a27021331e266181948fe673779157189f16e3c2c365ea21090fed359ff15146", func := "loop.example/g00899/laws.FnExactSameTrackSpec", spec := "fnExactSameTrackSpec", apart := false }
def FnExactSameTrackSpecSaid : Prop := fnExactSameTrackSpecRow.holds Try.pinned (OpenSpec.ofChange fnExactSameTrackSpecSpec)

/-- ITS FALSE NEIGHBOUR: 'it returns false'. Refute it at one input. -/
def fnExactSameTrackSpecWrong : ChangeSpec := { name := "fnExactSameTrackSpec", fn := fun _ => fun
  | [d1, d2] => { results := [.lit (.bool false)], args := [d1, d2] }
  | _ => none }
def FnExactSameTrackSpecWrongFalsely : Prop := fnExactSameTrackSpecRow.holds Try.pinned (OpenSpec.ofChange fnExactSameTrackSpecWrong)

/-- 'laws.FnExactValidNoise': WHATEVER THE INPUT: true; the input reads as it did. -/
def fnExactValidNoiseSpec : ChangeSpec := { name := "fnExactValidNoise", fn := fun _ => fun
  | [d] => { results := [.lit (.bool true)], args := [d] }
  | _ => none }
def fnExactValidNoiseRow : OpenClaim := { program := "ytdpnpmfhnfecaaa", sum := "a27021331e266181948fe673779157189f16e3c2c365ea21090fed359ff15146", func := "loop.example/g00899/laws.FnExactValidNoise", spec := "fnExactValidNoise", apart := false }
def FnExactValidNoiseSaid : Prop := fnExactValidNoiseRow.holds Try.pinned (OpenSpec.ofChange fnExactValidNoiseSpec)

/-- ITS FALSE NEIGHBOUR: 'it returns false'. Refute it at one input. -/
def fnExactValidNoiseWrong : ChangeSpec := { name := "fnExactValidNoise", fn := fun _ => fun
  | [d] => { results := [.lit (.bool false)], args := [d] }
  | _ => none }
def FnExactValidNoiseWrongFalsely : Prop := fnExactValidNoiseRow.holds Try.pinned (OpenSpec.ofChange fnExactValidNoiseWrong)

/-- 'laws.FnExactSpecsOf': WHATEVER THE INPUT: true; the input reads as it did. -/
def fnExactSpecsOfSpec : ChangeSpec := { name := "fnExactSpecsOf", fn := fun _ => fun
  | [d] => { results := [.lit (.bool true)], args := [d] }
  | _ => none }
def fnExactSpecsOfRow : OpenClaim := { program := "ytdpnpmfhnfecaaa", sum := "a27021331e266181948fe673779157189f16e3c2c365ea21090fed359ff15146", func := "loop.example/g00899/laws.FnExactSpecsOf", spec := "fnExactSpecsOf", unfollowed := true, recurses := true, apart := false }
def FnExactSpecsOfSaid : Prop := fnExactSpecsOfRow.holds Try.pinned (OpenSpec.ofChange fnExactSpecsOfSpec)

/-- ITS FALSE NEIGHBOUR: 'it returns false'. Refute it at one input. -/
def fnExactSpecsOfWrong : ChangeSpec := { name := "fnExactSpecsOf", fn := fun _ => fun
  | [d] => { results := [.lit (.bool false)], args := [d] }
  | _ => none }
def FnExactSpecsOfWrongFalsely : Prop := fnExactSpecsOfRow.holds Try.pinned (OpenSpec.ofChange fnExactSpecsOfWrong)

/-- 'laws.FnExactValidVoted': WHATEVER THE INPUT: true; the input reads as it did. -/
def fnExactValidVotedSpec : ChangeSpec := { name := "fnExactValidVoted", fn := fun _ => fun
  | [d] => { results := [.lit (.bool true)], args := [d] }
  | _ => none }
def fnExactValidVotedRow : OpenClaim := { program := "ytdpnpmfhnfecaaa", sum := "a27021331e266181948fe673779157189f16e3c2c365ea21090fed359ff15146", func := "loop.example/g00899/laws.FnExactValidVoted", spec := "fnExactValidVoted", apart := false }
def FnExactValidVotedSaid : Prop := fnExactValidVotedRow.holds Try.pinned (OpenSpec.ofChange fnExactValidVotedSpec)

/-- ITS FALSE NEIGHBOUR: 'it returns false'. Refute it at one input. -/
def fnExactValidVotedWrong : ChangeSpec := { name := "fnExactValidVoted", fn := fun _ => fun
  | [d] => { results := [.lit (.bool false)], args := [d] }
  | _ => none }
def FnExactValidVotedWrongFalsely : Prop := fnExactValidVotedRow.holds Try.pinned (OpenSpec.ofChange fnExactValidVotedWrong)

/-- 'laws.FnExactSameVoted': WHATEVER THE INPUT: true; the input reads as it did. -/
def fnExactSameVotedSpec : ChangeSpec := { name := "fnExactSameVoted", fn := fun _ => fun
  | [d1, d2] => { results := [.lit (.bool true)], args := [d1, d2] }
  | _ => none }
def fnExactSameVotedRow : OpenClaim := { program := "ytdpnpmfhnfecaaa", sum := "a27021331e266181948fe673779157189f16e3c2c365ea21090fed359ff15146", func := "loop.example/g00899/laws.FnExactSameVoted", spec := "fnExactSameVoted", unfollowed := true, recurses := true, apart := false }
def FnExactSameVotedSaid : Prop := fnExactSameVotedRow.holds Try.pinned (OpenSpec.ofChange fnExactSameVotedSpec)

/-- ITS FALSE NEIGHBOUR: 'it returns false'. Refute it at one input. -/
def fnExactSameVotedWrong : ChangeSpec := { name := "fnExactSameVoted", fn := fun _ => fun
  | [d1, d2] => { results := [.lit (.bool false)], args := [d1, d2] }
  | _ => none }
def FnExactSameVotedWrongFalsely : Prop := fnExactSameVotedRow.holds Try.pinned (OpenSpec.ofChange fnExactSameVotedWrong)

/-- 'laws.FnExactSyncRuns': WHATEVER THE INPUT: true; the input reads as it did. -/
def fnExactSyncRunsSpec : ChangeSpec := { name := "fnExactSyncRuns", fn := fun _ => fun
  | [d] => { results := [.lit (.bool true)], args := [d] }
  | _ => none }
def fnExactSyncRunsRow : OpenClaim := { program := "ytdpnpmfhnfecaaa", sum := "a27021331e266181948fe673779157189f16e3c2c365ea21090fed359ff15146", func := "loop.example/g00899/laws.FnExactSyncRuns", spec := "fnExactSyncRuns", inPlace := ["internal/bytealg.IndexByteString", "internal/bytealg.IndexString"], named := ["internal/bytealg.MaxLen"], apart := false }
def FnExactSyncRunsSaid : Prop := fnExactSyncRunsRow.holds Try.pinned (OpenSpec.ofChange fnExactSyncRunsSpec)

/-- ITS FALSE NEIGHBOUR: 'it returns false'. Refute it at one input. -/
def fnExactSyncRunsWrong : ChangeSpec := { name := "fnExactSyncRuns", fn := fun _ => fun
  | [d] => { results := [.lit (.bool false)], args := [d] }
  | _ => none }
def FnExactSyncRunsWrongFalsely : Prop := fnExactSyncRunsRow.holds Try.pinned (OpenSpec.ofChange fnExactSyncRunsWrong)

/- THE SECOND FORM. 'bulk': how many values and letters a reading holds, each counted each time it is reached (what is shared counts as often as it is met; a slice's spare places count too). A statement '..UptoSaid' is the law's where the arguments, and the package variables that the reading takes, are together of bulk at most 1048576: NARROWER than '..Said'. Prove '..Said' where nothing that the law and all that it calls make is longer than what came in: it says more and counts as full. Else prove '..UptoSaid'. A law counts once. -/
mutual
def uptoBulk {H : Type} : DataW H → Nat
  | .lit (.string bytes) => bytes.length + 1
  | .lit _ => 1
  | .nil => 1
  | .ptr d => uptoBulk d + 1
  | .slice elems spare => uptoBulkAll elems + uptoBulkAll spare + 1
  | .agg parts => uptoBulkAll parts + 1
  | .iface _ d => uptoBulk d + 1
  | .map entries => uptoBulkEntries entries + 1
  | .held _ => 1
def uptoBulkAll {H : Type} : List (DataW H) → Nat
  | [] => 0
  | d :: r => uptoBulk d + uptoBulkAll r
def uptoBulkEntries {H : Type} : List (Lit × DataW H) → Nat
  | [] => 0
  | x :: r => uptoBulkEntry x + uptoBulkEntries r
def uptoBulkEntry {H : Type} : Lit × DataW H → Nat
  | (.string bytes, d) => bytes.length + uptoBulk d + 1
  | (_, d) => uptoBulk d + 1
 end
def uptoSmall : (H : Type) → List (DataW H) → Bool := fun _ ds => decide (uptoBulkAll ds ≤ 1048576)
def OpenSpec.upto (s : _root_.Go.ChangeSpec) : _root_.Go.OpenSpec := { _root_.Go.OpenSpec.ofChange s with cond := some uptoSmall }

/-- 'laws.FnExactValidTrackSpec', WHERE WHAT IT READS IS OF BULK AT MOST 1048576: true; the input reads as it did. -/
def fnExactValidTrackSpecUptoRow : OpenClaim := { program := "ytdpnpmfhnfecaaa", sum := "a27021331e266181948fe673779157189f16e3c2c365ea21090fed359ff15146", func := "loop.example/g00899/laws.FnExactValidTrackSpec", spec := "fnExactValidTrackSpec", unfollowed := true, recurses := true, apart := false, narrowed := true }
def FnExactValidTrackSpecUptoSaid : Prop := fnExactValidTrackSpecUptoRow.holds Try.pinned (OpenSpec.upto fnExactValidTrackSpecSpec)

/-- 'laws.FnExactSameTrackSpec', WHERE WHAT IT READS IS OF BULK AT MOST 1048576: true; the input reads as it did. -/
def fnExactSameTrackSpecUptoRow : OpenClaim := { program := "ytdpnpmfhnfecaaa", sum := "a27021331e266181948fe673779157189f16e3c2c365ea21090fed359ff15146", func := "loop.example/g00899/laws.FnExactSameTrackSpec", spec := "fnExactSameTrackSpec", apart := false, narrowed := true }
def FnExactSameTrackSpecUptoSaid : Prop := fnExactSameTrackSpecUptoRow.holds Try.pinned (OpenSpec.upto fnExactSameTrackSpecSpec)

/-- 'laws.FnExactValidNoise', WHERE WHAT IT READS IS OF BULK AT MOST 1048576: true; the input reads as it did. -/
def fnExactValidNoiseUptoRow : OpenClaim := { program := "ytdpnpmfhnfecaaa", sum := "a27021331e266181948fe673779157189f16e3c2c365ea21090fed359ff15146", func := "loop.example/g00899/laws.FnExactValidNoise", spec := "fnExactValidNoise", apart := false, narrowed := true }
def FnExactValidNoiseUptoSaid : Prop := fnExactValidNoiseUptoRow.holds Try.pinned (OpenSpec.upto fnExactValidNoiseSpec)

/-- 'laws.FnExactSpecsOf', WHERE WHAT IT READS IS OF BULK AT MOST 1048576: true; the input reads as it did. -/
def fnExactSpecsOfUptoRow : OpenClaim := { program := "ytdpnpmfhnfecaaa", sum := "a27021331e266181948fe673779157189f16e3c2c365ea21090fed359ff15146", func := "loop.example/g00899/laws.FnExactSpecsOf", spec := "fnExactSpecsOf", unfollowed := true, recurses := true, apart := false, narrowed := true }
def FnExactSpecsOfUptoSaid : Prop := fnExactSpecsOfUptoRow.holds Try.pinned (OpenSpec.upto fnExactSpecsOfSpec)

/-- 'laws.FnExactValidVoted', WHERE WHAT IT READS IS OF BULK AT MOST 1048576: true; the input reads as it did. -/
def fnExactValidVotedUptoRow : OpenClaim := { program := "ytdpnpmfhnfecaaa", sum := "a27021331e266181948fe673779157189f16e3c2c365ea21090fed359ff15146", func := "loop.example/g00899/laws.FnExactValidVoted", spec := "fnExactValidVoted", apart := false, narrowed := true }
def FnExactValidVotedUptoSaid : Prop := fnExactValidVotedUptoRow.holds Try.pinned (OpenSpec.upto fnExactValidVotedSpec)

/-- 'laws.FnExactSameVoted', WHERE WHAT IT READS IS OF BULK AT MOST 1048576: true; the input reads as it did. -/
def fnExactSameVotedUptoRow : OpenClaim := { program := "ytdpnpmfhnfecaaa", sum := "a27021331e266181948fe673779157189f16e3c2c365ea21090fed359ff15146", func := "loop.example/g00899/laws.FnExactSameVoted", spec := "fnExactSameVoted", unfollowed := true, recurses := true, apart := false, narrowed := true }
def FnExactSameVotedUptoSaid : Prop := fnExactSameVotedUptoRow.holds Try.pinned (OpenSpec.upto fnExactSameVotedSpec)

/-- 'laws.FnExactSyncRuns', WHERE WHAT IT READS IS OF BULK AT MOST 1048576: true; the input reads as it did. -/
def fnExactSyncRunsUptoRow : OpenClaim := { program := "ytdpnpmfhnfecaaa", sum := "a27021331e266181948fe673779157189f16e3c2c365ea21090fed359ff15146", func := "loop.example/g00899/laws.FnExactSyncRuns", spec := "fnExactSyncRuns", inPlace := ["internal/bytealg.IndexByteString", "internal/bytealg.IndexString"], named := ["internal/bytealg.MaxLen"], apart := false, narrowed := true }
def FnExactSyncRunsUptoSaid : Prop := fnExactSyncRunsUptoRow.holds Try.pinned (OpenSpec.upto fnExactSyncRunsSpec)

end Rows
end Go.Proofs.Ytdpnpmfhnfecaaa
