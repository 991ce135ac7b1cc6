/-
  No cell of these rows narrows 'for every input' (looked for: loops, veiled, ifaces, maps, wideKeys, modest, calm, conditions, laid).
  DERIVED. THE GIVEN ROWS OF THIS SEAT. 12 by the template 'for every input the law returns true; each argument reads behind the call as it read before'; 0 by the template 'total and deterministic' (their statements: YtnfcalegnijobaaTotals.lean).
  GIVEN WITH THE SEED: the statements are not yours to turn. If you find one false, say at which input.
  Laid BY PROGRAM, IN A SANDBOX (cutbox-rows.mjs): the forced cells as the released guide's own fill.sh prints them over the translation 4cd585a90d045615… (all of the seat's roots in one cut). By AI agents, Wed Nov 11 2026. No macro, syntax, notation, axiom, sorry.
-/
import Derived.Test.YtnfcalegnijobaaChecked
import GoSem.Claim
import GoSem.ClaimJoined
import GoSem.ClaimMapViews
import Derived.JoinedTies
import Derived.KernelRfl
namespace Go.Proofs.Ytnfcalegnijobaa
/- THE CELL 'sum', in the pinned program and in every row, IS THE sha256 OF THE DUMP (.gsa) THAT YtnfcalegnijobaaProg.lean LOADS. Nothing in Lean hashes anything: it is a label: what it is worth is what the hold of that sum in a sandbox is worth. -/
noncomputable def Try.pinned : Pinned := { name := "ytnfcalegnijobaa", sum := "4cd585a90d045615556c2d33e8cb729b8f469fd6b44517f7a69b9e4a63212bd8", checked := Try.checked }
namespace Rows
def none {H : Type} : Left H := { results := [], args := [] }

/-- 'laws.FnExactFillTrack': WHATEVER THE INPUT: true; the input reads as it did. -/
def fnExactFillTrackSpec : ChangeSpec := { name := "fnExactFillTrack", fn := fun _ => fun
  | [d1, d2, d3] => { results := [.lit (.bool true)], args := [d1, d2, d3] }
  | _ => none }
def fnExactFillTrackRow : OpenClaim := { program := "ytnfcalegnijobaa", sum := "4cd585a90d045615556c2d33e8cb729b8f469fd6b44517f7a69b9e4a63212bd8", func := "loop.example/g00899/laws.FnExactFillTrack", spec := "fnExactFillTrack", inPlace := ["internal/abi.NoEscape", "internal/bytealg.MakeNoZero"], unfollowed := true, recurses := true, plainKeys := false, apart := false }
def FnExactFillTrackSaid : Prop := fnExactFillTrackRow.holds Try.pinned (OpenSpec.ofChange fnExactFillTrackSpec)

/-- ITS FALSE NEIGHBOUR: 'it returns false'. Refute it at one input. -/
def fnExactFillTrackWrong : ChangeSpec := { name := "fnExactFillTrack", fn := fun _ => fun
  | [d1, d2, d3] => { results := [.lit (.bool false)], args := [d1, d2, d3] }
  | _ => none }
def FnExactFillTrackWrongFalsely : Prop := fnExactFillTrackRow.holds Try.pinned (OpenSpec.ofChange fnExactFillTrackWrong)

/-- 'laws.FnExactTrackOf': WHATEVER THE INPUT: true; the input reads as it did. -/
def fnExactTrackOfSpec : ChangeSpec := { name := "fnExactTrackOf", fn := fun _ => fun
  | [d1, d2] => { results := [.lit (.bool true)], args := [d1, d2] }
  | _ => none }
def fnExactTrackOfRow : OpenClaim := { program := "ytnfcalegnijobaa", sum := "4cd585a90d045615556c2d33e8cb729b8f469fd6b44517f7a69b9e4a63212bd8", func := "loop.example/g00899/laws.FnExactTrackOf", spec := "fnExactTrackOf", inPlace := ["internal/abi.NoEscape", "internal/bytealg.MakeNoZero"], unfollowed := true, recurses := true, plainKeys := false, apart := false }
def FnExactTrackOfSaid : Prop := fnExactTrackOfRow.holds Try.pinned (OpenSpec.ofChange fnExactTrackOfSpec)

/-- ITS FALSE NEIGHBOUR: 'it returns false'. Refute it at one input. -/
def fnExactTrackOfWrong : ChangeSpec := { name := "fnExactTrackOf", fn := fun _ => fun
  | [d1, d2] => { results := [.lit (.bool false)], args := [d1, d2] }
  | _ => none }
def FnExactTrackOfWrongFalsely : Prop := fnExactTrackOfRow.holds Try.pinned (OpenSpec.ofChange fnExactTrackOfWrong)

/-- 'laws.FnExactPlainTrack': WHATEVER THE INPUT: true; the input reads as it did. -/
def fnExactPlainTrackSpec : ChangeSpec := { name := "fnExactPlainTrack", fn := fun _ => fun
  | [d1, d2, d3] => { results := [.lit (.bool true)], args := [d1, d2, d3] }
  | _ => none }
def fnExactPlainTrackRow : OpenClaim := { program := "ytnfcalegnijobaa", sum := "4cd585a90d045615556c2d33e8cb729b8f469fd6b44517f7a69b9e4a63212bd8", func := "loop.example/g00899/laws.FnExactPlainTrack", spec := "fnExactPlainTrack", unfollowed := true, recurses := true, plainKeys := false, apart := false }
def FnExactPlainTrackSaid : Prop := fnExactPlainTrackRow.holds Try.pinned (OpenSpec.ofChange fnExactPlainTrackSpec)

/-- ITS FALSE NEIGHBOUR: 'it returns false'. Refute it at one input. -/
def fnExactPlainTrackWrong : ChangeSpec := { name := "fnExactPlainTrack", fn := fun _ => fun
  | [d1, d2, d3] => { results := [.lit (.bool false)], args := [d1, d2, d3] }
  | _ => none }
def FnExactPlainTrackWrongFalsely : Prop := fnExactPlainTrackRow.holds Try.pinned (OpenSpec.ofChange fnExactPlainTrackWrong)

/-- 'laws.FnExactSameVoted': WHATEVER THE INPUT: true; the input reads as it did. -/
def fnExactSameVotedSpec : ChangeSpec := { name := "fnExactSameVoted", fn := fun _ => fun
  | [d1, d2] => { results := [.lit (.bool true)], args := [d1, d2] }
  | _ => none }
def fnExactSameVotedRow : OpenClaim := { program := "ytnfcalegnijobaa", sum := "4cd585a90d045615556c2d33e8cb729b8f469fd6b44517f7a69b9e4a63212bd8", func := "loop.example/g00899/laws.FnExactSameVoted", spec := "fnExactSameVoted", unfollowed := true, recurses := true, plainKeys := false, apart := false }
def FnExactSameVotedSaid : Prop := fnExactSameVotedRow.holds Try.pinned (OpenSpec.ofChange fnExactSameVotedSpec)

/-- ITS FALSE NEIGHBOUR: 'it returns false'. Refute it at one input. -/
def fnExactSameVotedWrong : ChangeSpec := { name := "fnExactSameVoted", fn := fun _ => fun
  | [d1, d2] => { results := [.lit (.bool false)], args := [d1, d2] }
  | _ => none }
def FnExactSameVotedWrongFalsely : Prop := fnExactSameVotedRow.holds Try.pinned (OpenSpec.ofChange fnExactSameVotedWrong)

/-- 'laws.FnExactValidNoise': WHATEVER THE INPUT: true; the input reads as it did. -/
def fnExactValidNoiseSpec : ChangeSpec := { name := "fnExactValidNoise", fn := fun _ => fun
  | [d] => { results := [.lit (.bool true)], args := [d] }
  | _ => none }
def fnExactValidNoiseRow : OpenClaim := { program := "ytnfcalegnijobaa", sum := "4cd585a90d045615556c2d33e8cb729b8f469fd6b44517f7a69b9e4a63212bd8", func := "loop.example/g00899/laws.FnExactValidNoise", spec := "fnExactValidNoise", plainKeys := false, apart := false }
def FnExactValidNoiseSaid : Prop := fnExactValidNoiseRow.holds Try.pinned (OpenSpec.ofChange fnExactValidNoiseSpec)

/-- ITS FALSE NEIGHBOUR: 'it returns false'. Refute it at one input. -/
def fnExactValidNoiseWrong : ChangeSpec := { name := "fnExactValidNoise", fn := fun _ => fun
  | [d] => { results := [.lit (.bool false)], args := [d] }
  | _ => none }
def FnExactValidNoiseWrongFalsely : Prop := fnExactValidNoiseRow.holds Try.pinned (OpenSpec.ofChange fnExactValidNoiseWrong)

/-- 'laws.FnExactRotateFlux': WHATEVER THE INPUT: true; the input reads as it did. -/
def fnExactRotateFluxSpec : ChangeSpec := { name := "fnExactRotateFlux", fn := fun _ => fun
  | [d1, d2] => { results := [.lit (.bool true)], args := [d1, d2] }
  | _ => none }
def fnExactRotateFluxRow : OpenClaim := { program := "ytnfcalegnijobaa", sum := "4cd585a90d045615556c2d33e8cb729b8f469fd6b44517f7a69b9e4a63212bd8", func := "loop.example/g00899/laws.FnExactRotateFlux", spec := "fnExactRotateFlux", unfollowed := true, recurses := true, plainKeys := false, apart := false }
def FnExactRotateFluxSaid : Prop := fnExactRotateFluxRow.holds Try.pinned (OpenSpec.ofChange fnExactRotateFluxSpec)

/-- ITS FALSE NEIGHBOUR: 'it returns false'. Refute it at one input. -/
def fnExactRotateFluxWrong : ChangeSpec := { name := "fnExactRotateFlux", fn := fun _ => fun
  | [d1, d2] => { results := [.lit (.bool false)], args := [d1, d2] }
  | _ => none }
def FnExactRotateFluxWrongFalsely : Prop := fnExactRotateFluxRow.holds Try.pinned (OpenSpec.ofChange fnExactRotateFluxWrong)

/-- 'laws.FnExactWeakenFlux': WHATEVER THE INPUT: true; the input reads as it did. -/
def fnExactWeakenFluxSpec : ChangeSpec := { name := "fnExactWeakenFlux", fn := fun _ => fun
  | [d1, d2] => { results := [.lit (.bool true)], args := [d1, d2] }
  | _ => none }
def fnExactWeakenFluxRow : OpenClaim := { program := "ytnfcalegnijobaa", sum := "4cd585a90d045615556c2d33e8cb729b8f469fd6b44517f7a69b9e4a63212bd8", func := "loop.example/g00899/laws.FnExactWeakenFlux", spec := "fnExactWeakenFlux", inPlace := ["slices.overlaps[int64]"], unfollowed := true, recurses := true, plainKeys := false, apart := false }
def FnExactWeakenFluxSaid : Prop := fnExactWeakenFluxRow.holds Try.pinned (OpenSpec.ofChange fnExactWeakenFluxSpec)

/-- ITS FALSE NEIGHBOUR: 'it returns false'. Refute it at one input. -/
def fnExactWeakenFluxWrong : ChangeSpec := { name := "fnExactWeakenFlux", fn := fun _ => fun
  | [d1, d2] => { results := [.lit (.bool false)], args := [d1, d2] }
  | _ => none }
def FnExactWeakenFluxWrongFalsely : Prop := fnExactWeakenFluxRow.holds Try.pinned (OpenSpec.ofChange fnExactWeakenFluxWrong)

/-- 'laws.FnExactSectorFeatures': WHATEVER THE INPUT: true; the input reads as it did. -/
def fnExactSectorFeaturesSpec : ChangeSpec := { name := "fnExactSectorFeatures", fn := fun _ => fun
  | [d1, d2, d3] => { results := [.lit (.bool true)], args := [d1, d2, d3] }
  | _ => none }
def fnExactSectorFeaturesRow : OpenClaim := { program := "ytnfcalegnijobaa", sum := "4cd585a90d045615556c2d33e8cb729b8f469fd6b44517f7a69b9e4a63212bd8", func := "loop.example/g00899/laws.FnExactSectorFeatures", spec := "fnExactSectorFeatures", unfollowed := true, recurses := true, plainKeys := false, apart := false }
def FnExactSectorFeaturesSaid : Prop := fnExactSectorFeaturesRow.holds Try.pinned (OpenSpec.ofChange fnExactSectorFeaturesSpec)

/-- ITS FALSE NEIGHBOUR: 'it returns false'. Refute it at one input. -/
def fnExactSectorFeaturesWrong : ChangeSpec := { name := "fnExactSectorFeatures", fn := fun _ => fun
  | [d1, d2, d3] => { results := [.lit (.bool false)], args := [d1, d2, d3] }
  | _ => none }
def FnExactSectorFeaturesWrongFalsely : Prop := fnExactSectorFeaturesRow.holds Try.pinned (OpenSpec.ofChange fnExactSectorFeaturesWrong)

/-- 'laws.FnExactProtectTrack': WHATEVER THE INPUT: true; the input reads as it did. -/
def fnExactProtectTrackSpec : ChangeSpec := { name := "fnExactProtectTrack", fn := fun _ => fun
  | [d1, d2] => { results := [.lit (.bool true)], args := [d1, d2] }
  | _ => none }
def fnExactProtectTrackRow : OpenClaim := { program := "ytnfcalegnijobaa", sum := "4cd585a90d045615556c2d33e8cb729b8f469fd6b44517f7a69b9e4a63212bd8", func := "loop.example/g00899/laws.FnExactProtectTrack", spec := "fnExactProtectTrack", unfollowed := true, recurses := true, plainKeys := false, apart := false }
def FnExactProtectTrackSaid : Prop := fnExactProtectTrackRow.holds Try.pinned (OpenSpec.ofChange fnExactProtectTrackSpec)

/-- ITS FALSE NEIGHBOUR: 'it returns false'. Refute it at one input. -/
def fnExactProtectTrackWrong : ChangeSpec := { name := "fnExactProtectTrack", fn := fun _ => fun
  | [d1, d2] => { results := [.lit (.bool false)], args := [d1, d2] }
  | _ => none }
def FnExactProtectTrackWrongFalsely : Prop := fnExactProtectTrackRow.holds Try.pinned (OpenSpec.ofChange fnExactProtectTrackWrong)

/-- 'laws.FnExactNewDevice': WHATEVER THE INPUT: true; the input reads as it did. -/
def fnExactNewDeviceSpec : ChangeSpec := { name := "fnExactNewDevice", fn := fun _ => fun
  | [d1, d2, d3] => { results := [.lit (.bool true)], args := [d1, d2, d3] }
  | _ => none }
def fnExactNewDeviceRow : OpenClaim := { program := "ytnfcalegnijobaa", sum := "4cd585a90d045615556c2d33e8cb729b8f469fd6b44517f7a69b9e4a63212bd8", func := "loop.example/g00899/laws.FnExactNewDevice", spec := "fnExactNewDevice", inPlace := ["internal/abi.NoEscape", "internal/bytealg.MakeNoZero"], unfollowed := true, recurses := true, plainKeys := false, apart := false }
def FnExactNewDeviceSaid : Prop := fnExactNewDeviceRow.holds Try.pinned (OpenSpec.ofChange fnExactNewDeviceSpec)

/-- ITS FALSE NEIGHBOUR: 'it returns false'. Refute it at one input. -/
def fnExactNewDeviceWrong : ChangeSpec := { name := "fnExactNewDevice", fn := fun _ => fun
  | [d1, d2, d3] => { results := [.lit (.bool false)], args := [d1, d2, d3] }
  | _ => none }
def FnExactNewDeviceWrongFalsely : Prop := fnExactNewDeviceRow.holds Try.pinned (OpenSpec.ofChange fnExactNewDeviceWrong)

/-- 'laws.FnExactReplaceBlock': WHATEVER THE INPUT: true; the input reads as it did. -/
def fnExactReplaceBlockSpec : ChangeSpec := { name := "fnExactReplaceBlock", fn := fun _ => fun
  | [d1, d2] => { results := [.lit (.bool true)], args := [d1, d2] }
  | _ => none }
def fnExactReplaceBlockRow : OpenClaim := { program := "ytnfcalegnijobaa", sum := "4cd585a90d045615556c2d33e8cb729b8f469fd6b44517f7a69b9e4a63212bd8", func := "loop.example/g00899/laws.FnExactReplaceBlock", spec := "fnExactReplaceBlock", inPlace := ["internal/abi.NoEscape", "internal/bytealg.MakeNoZero"], unfollowed := true, recurses := true, plainKeys := false, apart := false }
def FnExactReplaceBlockSaid : Prop := fnExactReplaceBlockRow.holds Try.pinned (OpenSpec.ofChange fnExactReplaceBlockSpec)

/-- ITS FALSE NEIGHBOUR: 'it returns false'. Refute it at one input. -/
def fnExactReplaceBlockWrong : ChangeSpec := { name := "fnExactReplaceBlock", fn := fun _ => fun
  | [d1, d2] => { results := [.lit (.bool false)], args := [d1, d2] }
  | _ => none }
def FnExactReplaceBlockWrongFalsely : Prop := fnExactReplaceBlockRow.holds Try.pinned (OpenSpec.ofChange fnExactReplaceBlockWrong)

/-- 'laws.FnExactAllBlocks': WHATEVER THE INPUT: true; the input reads as it did. -/
def fnExactAllBlocksSpec : ChangeSpec := { name := "fnExactAllBlocks", fn := fun _ => fun
  | [d] => { results := [.lit (.bool true)], args := [d] }
  | _ => none }
def fnExactAllBlocksRow : OpenClaim := { program := "ytnfcalegnijobaa", sum := "4cd585a90d045615556c2d33e8cb729b8f469fd6b44517f7a69b9e4a63212bd8", func := "loop.example/g00899/laws.FnExactAllBlocks", spec := "fnExactAllBlocks", inPlace := ["internal/abi.NoEscape", "internal/bytealg.MakeNoZero"], unfollowed := true, recurses := true, plainKeys := false, apart := false }
def FnExactAllBlocksSaid : Prop := fnExactAllBlocksRow.holds Try.pinned (OpenSpec.ofChange fnExactAllBlocksSpec)

/-- ITS FALSE NEIGHBOUR: 'it returns false'. Refute it at one input. -/
def fnExactAllBlocksWrong : ChangeSpec := { name := "fnExactAllBlocks", fn := fun _ => fun
  | [d] => { results := [.lit (.bool false)], args := [d] }
  | _ => none }
def FnExactAllBlocksWrongFalsely : Prop := fnExactAllBlocksRow.holds Try.pinned (OpenSpec.ofChange fnExactAllBlocksWrong)

/- THE SECOND FORM. 'bulk': how many values and letters a reading holds, each counted each time it is reached (what is shared counts as often as it is met; a slice's spare places count too). A statement '..UptoSaid' is the law's where the arguments, and the package variables that the reading takes, are together of bulk at most 1048576: NARROWER than '..Said'. Prove '..Said' where nothing that the law and all that it calls make is longer than what came in: it says more and counts as full. Else prove '..UptoSaid'. A law counts once. -/
mutual
def uptoBulk {H : Type} : DataW H → Nat
  | .lit (.string bytes) => bytes.length + 1
  | .lit _ => 1
  | .nil => 1
  | .ptr d => uptoBulk d + 1
  | .slice elems spare => uptoBulkAll elems + uptoBulkAll spare + 1
  | .agg parts => uptoBulkAll parts + 1
  | .iface _ d => uptoBulk d + 1
  | .map entries => uptoBulkEntries entries + 1
  | .held _ => 1
def uptoBulkAll {H : Type} : List (DataW H) → Nat
  | [] => 0
  | d :: r => uptoBulk d + uptoBulkAll r
def uptoBulkEntries {H : Type} : List (Lit × DataW H) → Nat
  | [] => 0
  | x :: r => uptoBulkEntry x + uptoBulkEntries r
def uptoBulkEntry {H : Type} : Lit × DataW H → Nat
  | (.string bytes, d) => bytes.length + uptoBulk d + 1
  | (_, d) => uptoBulk d + 1
 end
def uptoSmall : (H : Type) → List (DataW H) → Bool := fun _ ds => decide (uptoBulkAll ds ≤ 1048576)
def OpenSpec.upto (s : _root_.Go.ChangeSpec) : _root_.Go.OpenSpec := { _root_.Go.OpenSpec.ofChange s with cond := some uptoSmall }

/-- 'laws.FnExactFillTrack', WHERE WHAT IT READS IS OF BULK AT MOST 1048576: true; the input reads as it did. -/
def fnExactFillTrackUptoRow : OpenClaim := { program := "ytnfcalegnijobaa", sum := "4cd585a90d045615556c2d33e8cb729b8f469fd6b44517f7a69b9e4a63212bd8", func := "loop.example/g00899/laws.FnExactFillTrack", spec := "fnExactFillTrack", inPlace := ["internal/abi.NoEscape", "internal/bytealg.MakeNoZero"], unfollowed := true, recurses := true, plainKeys := false, apart := false, narrowed := true }
def FnExactFillTrackUptoSaid : Prop := fnExactFillTrackUptoRow.holds Try.pinned (OpenSpec.upto fnExactFillTrackSpec)

/-- 'laws.FnExactTrackOf', WHERE WHAT IT READS IS OF BULK AT MOST 1048576: true; the input reads as it did. -/
def fnExactTrackOfUptoRow : OpenClaim := { program := "ytnfcalegnijobaa", sum := "4cd585a90d045615556c2d33e8cb729b8f469fd6b44517f7a69b9e4a63212bd8", func := "loop.example/g00899/laws.FnExactTrackOf", spec := "fnExactTrackOf", inPlace := ["internal/abi.NoEscape", "internal/bytealg.MakeNoZero"], unfollowed := true, recurses := true, plainKeys := false, apart := false, narrowed := true }
def FnExactTrackOfUptoSaid : Prop := fnExactTrackOfUptoRow.holds Try.pinned (OpenSpec.upto fnExactTrackOfSpec)

/-- 'laws.FnExactPlainTrack', WHERE WHAT IT READS IS OF BULK AT MOST 1048576: true; the input reads as it did. -/
def fnExactPlainTrackUptoRow : OpenClaim := { program := "ytnfcalegnijobaa", sum := "4cd585a90d045615556c2d33e8cb729b8f469fd6b44517f7a69b9e4a63212bd8", func := "loop.example/g00899/laws.FnExactPlainTrack", spec := "fnExactPlainTrack", unfollowed := true, recurses := true, plainKeys := false, apart := false, narrowed := true }
def FnExactPlainTrackUptoSaid : Prop := fnExactPlainTrackUptoRow.holds Try.pinned (OpenSpec.upto fnExactPlainTrackSpec)

/-- 'laws.FnExactSameVoted', WHERE WHAT IT READS IS OF BULK AT MOST 1048576: true; the input reads as it did. -/
def fnExactSameVotedUptoRow : OpenClaim := { program := "ytnfcalegnijobaa", sum := "4cd585a90d045615556c2d33e8cb729b8f469fd6b44517f7a69b9e4a63212bd8", func := "loop.example/g00899/laws.FnExactSameVoted", spec := "fnExactSameVoted", unfollowed := true, recurses := true, plainKeys := false, apart := false, narrowed := true }
def FnExactSameVotedUptoSaid : Prop := fnExactSameVotedUptoRow.holds Try.pinned (OpenSpec.upto fnExactSameVotedSpec)

/-- 'laws.FnExactValidNoise', WHERE WHAT IT READS IS OF BULK AT MOST 1048576: true; the input reads as it did. -/
def fnExactValidNoiseUptoRow : OpenClaim := { program := "ytnfcalegnijobaa", sum := "4cd585a90d045615556c2d33e8cb729b8f469fd6b44517f7a69b9e4a63212bd8", func := "loop.example/g00899/laws.FnExactValidNoise", spec := "fnExactValidNoise", plainKeys := false, apart := false, narrowed := true }
def FnExactValidNoiseUptoSaid : Prop := fnExactValidNoiseUptoRow.holds Try.pinned (OpenSpec.upto fnExactValidNoiseSpec)

/-- 'laws.FnExactRotateFlux', WHERE WHAT IT READS IS OF BULK AT MOST 1048576: true; the input reads as it did. -/
def fnExactRotateFluxUptoRow : OpenClaim := { program := "ytnfcalegnijobaa", sum := "4cd585a90d045615556c2d33e8cb729b8f469fd6b44517f7a69b9e4a63212bd8", func := "loop.example/g00899/laws.FnExactRotateFlux", spec := "fnExactRotateFlux", unfollowed := true, recurses := true, plainKeys := false, apart := false, narrowed := true }
def FnExactRotateFluxUptoSaid : Prop := fnExactRotateFluxUptoRow.holds Try.pinned (OpenSpec.upto fnExactRotateFluxSpec)

/-- 'laws.FnExactWeakenFlux', WHERE WHAT IT READS IS OF BULK AT MOST 1048576: true; the input reads as it did. -/
def fnExactWeakenFluxUptoRow : OpenClaim := { program := "ytnfcalegnijobaa", sum := "4cd585a90d045615556c2d33e8cb729b8f469fd6b44517f7a69b9e4a63212bd8", func := "loop.example/g00899/laws.FnExactWeakenFlux", spec := "fnExactWeakenFlux", inPlace := ["slices.overlaps[int64]"], unfollowed := true, recurses := true, plainKeys := false, apart := false, narrowed := true }
def FnExactWeakenFluxUptoSaid : Prop := fnExactWeakenFluxUptoRow.holds Try.pinned (OpenSpec.upto fnExactWeakenFluxSpec)

/-- 'laws.FnExactSectorFeatures', WHERE WHAT IT READS IS OF BULK AT MOST 1048576: true; the input reads as it did. -/
def fnExactSectorFeaturesUptoRow : OpenClaim := { program := "ytnfcalegnijobaa", sum := "4cd585a90d045615556c2d33e8cb729b8f469fd6b44517f7a69b9e4a63212bd8", func := "loop.example/g00899/laws.FnExactSectorFeatures", spec := "fnExactSectorFeatures", unfollowed := true, recurses := true, plainKeys := false, apart := false, narrowed := true }
def FnExactSectorFeaturesUptoSaid : Prop := fnExactSectorFeaturesUptoRow.holds Try.pinned (OpenSpec.upto fnExactSectorFeaturesSpec)

/-- 'laws.FnExactProtectTrack', WHERE WHAT IT READS IS OF BULK AT MOST 1048576: true; the input reads as it did. -/
def fnExactProtectTrackUptoRow : OpenClaim := { program := "ytnfcalegnijobaa", sum := "4cd585a90d045615556c2d33e8cb729b8f469fd6b44517f7a69b9e4a63212bd8", func := "loop.example/g00899/laws.FnExactProtectTrack", spec := "fnExactProtectTrack", unfollowed := true, recurses := true, plainKeys := false, apart := false, narrowed := true }
def FnExactProtectTrackUptoSaid : Prop := fnExactProtectTrackUptoRow.holds Try.pinned (OpenSpec.upto fnExactProtectTrackSpec)

/-- 'laws.FnExactNewDevice', WHERE WHAT IT READS IS OF BULK AT MOST 1048576: true; the input reads as it did. -/
def fnExactNewDeviceUptoRow : OpenClaim := { program := "ytnfcalegnijobaa", sum := "4cd585a90d045615556c2d33e8cb729b8f469fd6b44517f7a69b9e4a63212bd8", func := "loop.example/g00899/laws.FnExactNewDevice", spec := "fnExactNewDevice", inPlace := ["internal/abi.NoEscape", "internal/bytealg.MakeNoZero"], unfollowed := true, recurses := true, plainKeys := false, apart := false, narrowed := true }
def FnExactNewDeviceUptoSaid : Prop := fnExactNewDeviceUptoRow.holds Try.pinned (OpenSpec.upto fnExactNewDeviceSpec)

/-- 'laws.FnExactReplaceBlock', WHERE WHAT IT READS IS OF BULK AT MOST 1048576: true; the input reads as it did. -/
def fnExactReplaceBlockUptoRow : OpenClaim := { program := "ytnfcalegnijobaa", sum := "4cd585a90d045615556c2d33e8cb729b8f469fd6b44517f7a69b9e4a63212bd8", func := "loop.example/g00899/laws.FnExactReplaceBlock", spec := "fnExactReplaceBlock", inPlace := ["internal/abi.NoEscape", "internal/bytealg.MakeNoZero"], unfollowed := true, recurses := true, plainKeys := false, apart := false, narrowed := true }
def FnExactReplaceBlockUptoSaid : Prop := fnExactReplaceBlockUptoRow.holds Try.pinned (OpenSpec.upto fnExactReplaceBlockSpec)

/-- 'laws.FnExactAllBlocks', WHERE WHAT IT READS IS OF BULK AT MOST 1048576: true; the input reads as it did. -/
def fnExactAllBlocksUptoRow : OpenClaim := { program := "ytnfcalegnijobaa", sum := "4cd585a90d045615556c2d33e8cb729b8f469fd6b44517f7a69b9e4a63212bd8", func := "loop.example/g00899/laws.FnExactAllBlocks", spec := "fnExactAllBlocks", inPlace := ["internal/abi.NoEscape", "internal/bytealg.MakeNoZero"], unfollowed := true, recurses := true, plainKeys := false, apart := false, narrowed := true }
def FnExactAllBlocksUptoSaid : Prop := fnExactAllBlocksUptoRow.holds Try.pinned (OpenSpec.upto fnExactAllBlocksSpec)

end Rows
end Go.Proofs.Ytnfcalegnijobaa
