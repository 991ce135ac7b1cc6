/-
  No cell of these rows narrows 'for every input' (looked for: loops, veiled, ifaces, maps, wideKeys, modest, calm, conditions, laid).
  DERIVED. THE GIVEN ROWS OF THIS SEAT. 11 by the template 'for every input the law returns true; each argument reads behind the call as it read before'; 0 by the template 'total and deterministic' (their statements: YtpcfhfnlpcpofabTotals.lean).
  GIVEN WITH THE SEED: the statements are not yours to turn. If you find one false, say at which input.
  Laid BY PROGRAM, IN A SANDBOX (cutbox-rows.mjs): the forced cells as the released guide's own fill.sh prints them over the translation 09ec6ad977437157… (all of the seat's roots in one cut). By AI agents, Wed Nov 11 2026. No macro, syntax, notation, axiom, sorry.
-/
import Derived.Test.YtpcfhfnlpcpofabChecked
import GoSem.Claim
import GoSem.ClaimJoined
import GoSem.ClaimMapViews
import Derived.JoinedTies
import Derived.KernelRfl
namespace Go.Proofs.Ytpcfhfnlpcpofab
/- THE CELL 'sum', in the pinned program and in every row, IS THE sha256 OF THE DUMP (.gsa) THAT YtpcfhfnlpcpofabProg.lean LOADS. Nothing in Lean hashes anything: it is a label: what it is worth is what the hold of that sum in a sandbox is worth. -/
noncomputable def Try.pinned : Pinned := { name := "ytpcfhfnlpcpofab", sum := "09ec6ad9774371579e87ad58ca26272e3ee05cd485f5b2f61c3f627ffdabe847", checked := Try.checked }
namespace Rows
def none {H : Type} : Left H := { results := [], args := [] }

/-- 'laws.FnExactValidFeature': WHATEVER THE INPUT: true; the input reads as it did. -/
def fnExactValidFeatureSpec : ChangeSpec := { name := "fnExactValidFeature", fn := fun _ => fun
  | [d] => { results := [.lit (.bool true)], args := [d] }
  | _ => none }
def fnExactValidFeatureRow : OpenClaim := { program := "ytpcfhfnlpcpofab", sum := "09ec6ad9774371579e87ad58ca26272e3ee05cd485f5b2f61c3f627ffdabe847", func := "loop.example/g00899/laws.FnExactValidFeature", spec := "fnExactValidFeature", unfollowed := true, recurses := true, plainKeys := false, apart := false }
def FnExactValidFeatureSaid : Prop := fnExactValidFeatureRow.holds Try.pinned (OpenSpec.ofChange fnExactValidFeatureSpec)

/-- ITS FALSE NEIGHBOUR: 'it returns false'. Refute it at one input. -/
def fnExactValidFeatureWrong : ChangeSpec := { name := "fnExactValidFeature", fn := fun _ => fun
  | [d] => { results := [.lit (.bool false)], args := [d] }
  | _ => none }
def FnExactValidFeatureWrongFalsely : Prop := fnExactValidFeatureRow.holds Try.pinned (OpenSpec.ofChange fnExactValidFeatureWrong)

/-- 'laws.FnExactFeatureText': WHATEVER THE INPUT: true; the input reads as it did. -/
def fnExactFeatureTextSpec : ChangeSpec := { name := "fnExactFeatureText", fn := fun _ => fun
  | [d] => { results := [.lit (.bool true)], args := [d] }
  | _ => none }
def fnExactFeatureTextRow : OpenClaim := { program := "ytpcfhfnlpcpofab", sum := "09ec6ad9774371579e87ad58ca26272e3ee05cd485f5b2f61c3f627ffdabe847", func := "loop.example/g00899/laws.FnExactFeatureText", spec := "fnExactFeatureText", unfollowed := true, recurses := true, plainKeys := false, apart := false }
def FnExactFeatureTextSaid : Prop := fnExactFeatureTextRow.holds Try.pinned (OpenSpec.ofChange fnExactFeatureTextSpec)

/-- ITS FALSE NEIGHBOUR: 'it returns false'. Refute it at one input. -/
def fnExactFeatureTextWrong : ChangeSpec := { name := "fnExactFeatureText", fn := fun _ => fun
  | [d] => { results := [.lit (.bool false)], args := [d] }
  | _ => none }
def FnExactFeatureTextWrongFalsely : Prop := fnExactFeatureTextRow.holds Try.pinned (OpenSpec.ofChange fnExactFeatureTextWrong)

/-- 'laws.FnExactSectorFeatures': WHATEVER THE INPUT: true; the input reads as it did. -/
def fnExactSectorFeaturesSpec : ChangeSpec := { name := "fnExactSectorFeatures", fn := fun _ => fun
  | [d1, d2, d3] => { results := [.lit (.bool true)], args := [d1, d2, d3] }
  | _ => none }
def fnExactSectorFeaturesRow : OpenClaim := { program := "ytpcfhfnlpcpofab", sum := "09ec6ad9774371579e87ad58ca26272e3ee05cd485f5b2f61c3f627ffdabe847", func := "loop.example/g00899/laws.FnExactSectorFeatures", spec := "fnExactSectorFeatures", unfollowed := true, recurses := true, plainKeys := false, apart := false }
def FnExactSectorFeaturesSaid : Prop := fnExactSectorFeaturesRow.holds Try.pinned (OpenSpec.ofChange fnExactSectorFeaturesSpec)

/-- ITS FALSE NEIGHBOUR: 'it returns false'. Refute it at one input. -/
def fnExactSectorFeaturesWrong : ChangeSpec := { name := "fnExactSectorFeatures", fn := fun _ => fun
  | [d1, d2, d3] => { results := [.lit (.bool false)], args := [d1, d2, d3] }
  | _ => none }
def FnExactSectorFeaturesWrongFalsely : Prop := fnExactSectorFeaturesRow.holds Try.pinned (OpenSpec.ofChange fnExactSectorFeaturesWrong)

/-- 'laws.FnExactLongFeature': WHATEVER THE INPUT: true; the input reads as it did. -/
def fnExactLongFeatureSpec : ChangeSpec := { name := "fnExactLongFeature", fn := fun _ => fun
  | [d1, d2] => { results := [.lit (.bool true)], args := [d1, d2] }
  | _ => none }
def fnExactLongFeatureRow : OpenClaim := { program := "ytpcfhfnlpcpofab", sum := "09ec6ad9774371579e87ad58ca26272e3ee05cd485f5b2f61c3f627ffdabe847", func := "loop.example/g00899/laws.FnExactLongFeature", spec := "fnExactLongFeature", plainKeys := false, apart := false }
def FnExactLongFeatureSaid : Prop := fnExactLongFeatureRow.holds Try.pinned (OpenSpec.ofChange fnExactLongFeatureSpec)

/-- ITS FALSE NEIGHBOUR: 'it returns false'. Refute it at one input. -/
def fnExactLongFeatureWrong : ChangeSpec := { name := "fnExactLongFeature", fn := fun _ => fun
  | [d1, d2] => { results := [.lit (.bool false)], args := [d1, d2] }
  | _ => none }
def FnExactLongFeatureWrongFalsely : Prop := fnExactLongFeatureRow.holds Try.pinned (OpenSpec.ofChange fnExactLongFeatureWrong)

/-- 'laws.FnExactWeakFeatures': WHATEVER THE INPUT: true; the input reads as it did. -/
def fnExactWeakFeaturesSpec : ChangeSpec := { name := "fnExactWeakFeatures", fn := fun _ => fun
  | [d] => { results := [.lit (.bool true)], args := [d] }
  | _ => none }
def fnExactWeakFeaturesRow : OpenClaim := { program := "ytpcfhfnlpcpofab", sum := "09ec6ad9774371579e87ad58ca26272e3ee05cd485f5b2f61c3f627ffdabe847", func := "loop.example/g00899/laws.FnExactWeakFeatures", spec := "fnExactWeakFeatures", unfollowed := true, recurses := true, plainKeys := false, apart := false }
def FnExactWeakFeaturesSaid : Prop := fnExactWeakFeaturesRow.holds Try.pinned (OpenSpec.ofChange fnExactWeakFeaturesSpec)

/-- ITS FALSE NEIGHBOUR: 'it returns false'. Refute it at one input. -/
def fnExactWeakFeaturesWrong : ChangeSpec := { name := "fnExactWeakFeatures", fn := fun _ => fun
  | [d] => { results := [.lit (.bool false)], args := [d] }
  | _ => none }
def FnExactWeakFeaturesWrongFalsely : Prop := fnExactWeakFeaturesRow.holds Try.pinned (OpenSpec.ofChange fnExactWeakFeaturesWrong)

/-- 'laws.FnExactProtectTrack': WHATEVER THE INPUT: true; the input reads as it did. -/
def fnExactProtectTrackSpec : ChangeSpec := { name := "fnExactProtectTrack", fn := fun _ => fun
  | [d1, d2] => { results := [.lit (.bool true)], args := [d1, d2] }
  | _ => none }
def fnExactProtectTrackRow : OpenClaim := { program := "ytpcfhfnlpcpofab", sum := "09ec6ad9774371579e87ad58ca26272e3ee05cd485f5b2f61c3f627ffdabe847", func := "loop.example/g00899/laws.FnExactProtectTrack", spec := "fnExactProtectTrack", unfollowed := true, recurses := true, plainKeys := false, apart := false }
def FnExactProtectTrackSaid : Prop := fnExactProtectTrackRow.holds Try.pinned (OpenSpec.ofChange fnExactProtectTrackSpec)

/-- ITS FALSE NEIGHBOUR: 'it returns false'. Refute it at one input. -/
def fnExactProtectTrackWrong : ChangeSpec := { name := "fnExactProtectTrack", fn := fun _ => fun
  | [d1, d2] => { results := [.lit (.bool false)], args := [d1, d2] }
  | _ => none }
def FnExactProtectTrackWrongFalsely : Prop := fnExactProtectTrackRow.holds Try.pinned (OpenSpec.ofChange fnExactProtectTrackWrong)

/-- 'laws.FnExactPlainTrack': WHATEVER THE INPUT: true; the input reads as it did. -/
def fnExactPlainTrackSpec : ChangeSpec := { name := "fnExactPlainTrack", fn := fun _ => fun
  | [d1, d2, d3] => { results := [.lit (.bool true)], args := [d1, d2, d3] }
  | _ => none }
def fnExactPlainTrackRow : OpenClaim := { program := "ytpcfhfnlpcpofab", sum := "09ec6ad9774371579e87ad58ca26272e3ee05cd485f5b2f61c3f627ffdabe847", func := "loop.example/g00899/laws.FnExactPlainTrack", spec := "fnExactPlainTrack", unfollowed := true, recurses := true, plainKeys := false, apart := false }
def FnExactPlainTrackSaid : Prop := fnExactPlainTrackRow.holds Try.pinned (OpenSpec.ofChange fnExactPlainTrackSpec)

/-- ITS FALSE NEIGHBOUR: 'it returns false'. Refute it at one input. -/
def fnExactPlainTrackWrong : ChangeSpec := { name := "fnExactPlainTrack", fn := fun _ => fun
  | [d1, d2, d3] => { results := [.lit (.bool false)], args := [d1, d2, d3] }
  | _ => none }
def FnExactPlainTrackWrongFalsely : Prop := fnExactPlainTrackRow.holds Try.pinned (OpenSpec.ofChange fnExactPlainTrackWrong)

/-- 'laws.FnExactSpecFeatures': WHATEVER THE INPUT: true; the input reads as it did. -/
def fnExactSpecFeaturesSpec : ChangeSpec := { name := "fnExactSpecFeatures", fn := fun _ => fun
  | [d1, d2, d3] => { results := [.lit (.bool true)], args := [d1, d2, d3] }
  | _ => none }
def fnExactSpecFeaturesRow : OpenClaim := { program := "ytpcfhfnlpcpofab", sum := "09ec6ad9774371579e87ad58ca26272e3ee05cd485f5b2f61c3f627ffdabe847", func := "loop.example/g00899/laws.FnExactSpecFeatures", spec := "fnExactSpecFeatures", unfollowed := true, recurses := true, plainKeys := false, apart := false }
def FnExactSpecFeaturesSaid : Prop := fnExactSpecFeaturesRow.holds Try.pinned (OpenSpec.ofChange fnExactSpecFeaturesSpec)

/-- ITS FALSE NEIGHBOUR: 'it returns false'. Refute it at one input. -/
def fnExactSpecFeaturesWrong : ChangeSpec := { name := "fnExactSpecFeatures", fn := fun _ => fun
  | [d1, d2, d3] => { results := [.lit (.bool false)], args := [d1, d2, d3] }
  | _ => none }
def FnExactSpecFeaturesWrongFalsely : Prop := fnExactSpecFeaturesRow.holds Try.pinned (OpenSpec.ofChange fnExactSpecFeaturesWrong)

/-- 'laws.FnExactValidVoted': WHATEVER THE INPUT: true; the input reads as it did. -/
def fnExactValidVotedSpec : ChangeSpec := { name := "fnExactValidVoted", fn := fun _ => fun
  | [d] => { results := [.lit (.bool true)], args := [d] }
  | _ => none }
def fnExactValidVotedRow : OpenClaim := { program := "ytpcfhfnlpcpofab", sum := "09ec6ad9774371579e87ad58ca26272e3ee05cd485f5b2f61c3f627ffdabe847", func := "loop.example/g00899/laws.FnExactValidVoted", spec := "fnExactValidVoted", plainKeys := false, apart := false }
def FnExactValidVotedSaid : Prop := fnExactValidVotedRow.holds Try.pinned (OpenSpec.ofChange fnExactValidVotedSpec)

/-- ITS FALSE NEIGHBOUR: 'it returns false'. Refute it at one input. -/
def fnExactValidVotedWrong : ChangeSpec := { name := "fnExactValidVoted", fn := fun _ => fun
  | [d] => { results := [.lit (.bool false)], args := [d] }
  | _ => none }
def FnExactValidVotedWrongFalsely : Prop := fnExactValidVotedRow.holds Try.pinned (OpenSpec.ofChange fnExactValidVotedWrong)

/-- 'laws.FnExactValidTrackSpec': WHATEVER THE INPUT: true; the input reads as it did. -/
def fnExactValidTrackSpecSpec : ChangeSpec := { name := "fnExactValidTrackSpec", fn := fun _ => fun
  | [d] => { results := [.lit (.bool true)], args := [d] }
  | _ => none }
def fnExactValidTrackSpecRow : OpenClaim := { program := "ytpcfhfnlpcpofab", sum := "09ec6ad9774371579e87ad58ca26272e3ee05cd485f5b2f61c3f627ffdabe847", func := "loop.example/g00899/laws.FnExactValidTrackSpec", spec := "fnExactValidTrackSpec", unfollowed := true, recurses := true, plainKeys := false, apart := false }
def FnExactValidTrackSpecSaid : Prop := fnExactValidTrackSpecRow.holds Try.pinned (OpenSpec.ofChange fnExactValidTrackSpecSpec)

/-- ITS FALSE NEIGHBOUR: 'it returns false'. Refute it at one input. -/
def fnExactValidTrackSpecWrong : ChangeSpec := { name := "fnExactValidTrackSpec", fn := fun _ => fun
  | [d] => { results := [.lit (.bool false)], args := [d] }
  | _ => none }
def FnExactValidTrackSpecWrongFalsely : Prop := fnExactValidTrackSpecRow.holds Try.pinned (OpenSpec.ofChange fnExactValidTrackSpecWrong)

/-- 'laws.FnExactValidSectorSpec': WHATEVER THE INPUT: true; the input reads as it did. -/
def fnExactValidSectorSpecSpec : ChangeSpec := { name := "fnExactValidSectorSpec", fn := fun _ => fun
  | [d] => { results := [.lit (.bool true)], args := [d] }
  | _ => none }
def fnExactValidSectorSpecRow : OpenClaim := { program := "ytpcfhfnlpcpofab", sum := "09ec6ad9774371579e87ad58ca26272e3ee05cd485f5b2f61c3f627ffdabe847", func := "loop.example/g00899/laws.FnExactValidSectorSpec", spec := "fnExactValidSectorSpec", plainKeys := false, apart := false }
def FnExactValidSectorSpecSaid : Prop := fnExactValidSectorSpecRow.holds Try.pinned (OpenSpec.ofChange fnExactValidSectorSpecSpec)

/-- ITS FALSE NEIGHBOUR: 'it returns false'. Refute it at one input. -/
def fnExactValidSectorSpecWrong : ChangeSpec := { name := "fnExactValidSectorSpec", fn := fun _ => fun
  | [d] => { results := [.lit (.bool false)], args := [d] }
  | _ => none }
def FnExactValidSectorSpecWrongFalsely : Prop := fnExactValidSectorSpecRow.holds Try.pinned (OpenSpec.ofChange fnExactValidSectorSpecWrong)

/- THE SECOND FORM. 'bulk': how many values and letters a reading holds, each counted each time it is reached (what is shared counts as often as it is met; a slice's spare places count too). A statement '..UptoSaid' is the law's where the arguments, and the package variables that the reading takes, are together of bulk at most 1048576: NARROWER than '..Said'. Prove '..Said' where nothing that the law and all that it calls make is longer than what came in: it says more and counts as full. Else prove '..UptoSaid'. A law counts once. -/
mutual
def uptoBulk {H : Type} : DataW H → Nat
  | .lit (.string bytes) => bytes.length + 1
  | .lit _ => 1
  | .nil => 1
  | .ptr d => uptoBulk d + 1
  | .slice elems spare => uptoBulkAll elems + uptoBulkAll spare + 1
  | .agg parts => uptoBulkAll parts + 1
  | .iface _ d => uptoBulk d + 1
  | .map entries => uptoBulkEntries entries + 1
  | .held _ => 1
def uptoBulkAll {H : Type} : List (DataW H) → Nat
  | [] => 0
  | d :: r => uptoBulk d + uptoBulkAll r
def uptoBulkEntries {H : Type} : List (Lit × DataW H) → Nat
  | [] => 0
  | x :: r => uptoBulkEntry x + uptoBulkEntries r
def uptoBulkEntry {H : Type} : Lit × DataW H → Nat
  | (.string bytes, d) => bytes.length + uptoBulk d + 1
  | (_, d) => uptoBulk d + 1
 end
def uptoSmall : (H : Type) → List (DataW H) → Bool := fun _ ds => decide (uptoBulkAll ds ≤ 1048576)
def OpenSpec.upto (s : _root_.Go.ChangeSpec) : _root_.Go.OpenSpec := { _root_.Go.OpenSpec.ofChange s with cond := some uptoSmall }

/-- 'laws.FnExactValidFeature', WHERE WHAT IT READS IS OF BULK AT MOST 1048576: true; the input reads as it did. -/
def fnExactValidFeatureUptoRow : OpenClaim := { program := "ytpcfhfnlpcpofab", sum := "09ec6ad9774371579e87ad58ca26272e3ee05cd485f5b2f61c3f627ffdabe847", func := "loop.example/g00899/laws.FnExactValidFeature", spec := "fnExactValidFeature", unfollowed := true, recurses := true, plainKeys := false, apart := false, narrowed := true }
def FnExactValidFeatureUptoSaid : Prop := fnExactValidFeatureUptoRow.holds Try.pinned (OpenSpec.upto fnExactValidFeatureSpec)

/-- 'laws.FnExactFeatureText', WHERE WHAT IT READS IS OF BULK AT MOST 1048576: true; the input reads as it did. -/
def fnExactFeatureTextUptoRow : OpenClaim := { program := "ytpcfhfnlpcpofab", sum := "09ec6ad9774371579e87ad58ca26272e3ee05cd485f5b2f61c3f627ffdabe847", func := "loop.example/g00899/laws.FnExactFeatureText", spec := "fnExactFeatureText", unfollowed := true, recurses := true, plainKeys := false, apart := false, narrowed := true }
def FnExactFeatureTextUptoSaid : Prop := fnExactFeatureTextUptoRow.holds Try.pinned (OpenSpec.upto fnExactFeatureTextSpec)

/-- 'laws.FnExactSectorFeatures', WHERE WHAT IT READS IS OF BULK AT MOST 1048576: true; the input reads as it did. -/
def fnExactSectorFeaturesUptoRow : OpenClaim := { program := "ytpcfhfnlpcpofab", sum := "09ec6ad9774371579e87ad58ca26272e3ee05cd485f5b2f61c3f627ffdabe847", func := "loop.example/g00899/laws.FnExactSectorFeatures", spec := "fnExactSectorFeatures", unfollowed := true, recurses := true, plainKeys := false, apart := false, narrowed := true }
def FnExactSectorFeaturesUptoSaid : Prop := fnExactSectorFeaturesUptoRow.holds Try.pinned (OpenSpec.upto fnExactSectorFeaturesSpec)

/-- 'laws.FnExactLongFeature', WHERE WHAT IT READS IS OF BULK AT MOST 1048576: true; the input reads as it did. -/
def fnExactLongFeatureUptoRow : OpenClaim := { program := "ytpcfhfnlpcpofab", sum := "09ec6ad9774371579e87ad58ca26272e3ee05cd485f5b2f61c3f627ffdabe847", func := "loop.example/g00899/laws.FnExactLongFeature", spec := "fnExactLongFeature", plainKeys := false, apart := false, narrowed := true }
def FnExactLongFeatureUptoSaid : Prop := fnExactLongFeatureUptoRow.holds Try.pinned (OpenSpec.upto fnExactLongFeatureSpec)

/-- 'laws.FnExactWeakFeatures', WHERE WHAT IT READS IS OF BULK AT MOST 1048576: true; the input reads as it did. -/
def fnExactWeakFeaturesUptoRow : OpenClaim := { program := "ytpcfhfnlpcpofab", sum := "09ec6ad9774371579e87ad58ca26272e3ee05cd485f5b2f61c3f627ffdabe847", func := "loop.example/g00899/laws.FnExactWeakFeatures", spec := "fnExactWeakFeatures", unfollowed := true, recurses := true, plainKeys := false, apart := false, narrowed := true }
def FnExactWeakFeaturesUptoSaid : Prop := fnExactWeakFeaturesUptoRow.holds Try.pinned (OpenSpec.upto fnExactWeakFeaturesSpec)

/-- 'laws.FnExactProtectTrack', WHERE WHAT IT READS IS OF BULK AT MOST 1048576: true; the input reads as it did. -/
def fnExactProtectTrackUptoRow : OpenClaim := { program := "ytpcfhfnlpcpofab", sum := "09ec6ad9774371579e87ad58ca26272e3ee05cd485f5b2f61c3f627ffdabe847", func := "loop.example/g00899/laws.FnExactProtectTrack", spec := "fnExactProtectTrack", unfollowed := true, recurses := true, plainKeys := false, apart := false, narrowed := true }
def FnExactProtectTrackUptoSaid : Prop := fnExactProtectTrackUptoRow.holds Try.pinned (OpenSpec.upto fnExactProtectTrackSpec)

/-- 'laws.FnExactPlainTrack', WHERE WHAT IT READS IS OF BULK AT MOST 1048576: true; the input reads as it did. -/
def fnExactPlainTrackUptoRow : OpenClaim := { program := "ytpcfhfnlpcpofab", sum := "09ec6ad9774371579e87ad58ca26272e3ee05cd485f5b2f61c3f627ffdabe847", func := "loop.example/g00899/laws.FnExactPlainTrack", spec := "fnExactPlainTrack", unfollowed := true, recurses := true, plainKeys := false, apart := false, narrowed := true }
def FnExactPlainTrackUptoSaid : Prop := fnExactPlainTrackUptoRow.holds Try.pinned (OpenSpec.upto fnExactPlainTrackSpec)

/-- 'laws.FnExactSpecFeatures', WHERE WHAT IT READS IS OF BULK AT MOST 1048576: true; the input reads as it did. -/
def fnExactSpecFeaturesUptoRow : OpenClaim := { program := "ytpcfhfnlpcpofab", sum := "09ec6ad9774371579e87ad58ca26272e3ee05cd485f5b2f61c3f627ffdabe847", func := "loop.example/g00899/laws.FnExactSpecFeatures", spec := "fnExactSpecFeatures", unfollowed := true, recurses := true, plainKeys := false, apart := false, narrowed := true }
def FnExactSpecFeaturesUptoSaid : Prop := fnExactSpecFeaturesUptoRow.holds Try.pinned (OpenSpec.upto fnExactSpecFeaturesSpec)

/-- 'laws.FnExactValidVoted', WHERE WHAT IT READS IS OF BULK AT MOST 1048576: true; the input reads as it did. -/
def fnExactValidVotedUptoRow : OpenClaim := { program := "ytpcfhfnlpcpofab", sum := "09ec6ad9774371579e87ad58ca26272e3ee05cd485f5b2f61c3f627ffdabe847", func := "loop.example/g00899/laws.FnExactValidVoted", spec := "fnExactValidVoted", plainKeys := false, apart := false, narrowed := true }
def FnExactValidVotedUptoSaid : Prop := fnExactValidVotedUptoRow.holds Try.pinned (OpenSpec.upto fnExactValidVotedSpec)

/-- 'laws.FnExactValidTrackSpec', WHERE WHAT IT READS IS OF BULK AT MOST 1048576: true; the input reads as it did. -/
def fnExactValidTrackSpecUptoRow : OpenClaim := { program := "ytpcfhfnlpcpofab", sum := "09ec6ad9774371579e87ad58ca26272e3ee05cd485f5b2f61c3f627ffdabe847", func := "loop.example/g00899/laws.FnExactValidTrackSpec", spec := "fnExactValidTrackSpec", unfollowed := true, recurses := true, plainKeys := false, apart := false, narrowed := true }
def FnExactValidTrackSpecUptoSaid : Prop := fnExactValidTrackSpecUptoRow.holds Try.pinned (OpenSpec.upto fnExactValidTrackSpecSpec)

/-- 'laws.FnExactValidSectorSpec', WHERE WHAT IT READS IS OF BULK AT MOST 1048576: true; the input reads as it did. -/
def fnExactValidSectorSpecUptoRow : OpenClaim := { program := "ytpcfhfnlpcpofab", sum := "09ec6ad9774371579e87ad58ca26272e3ee05cd485f5b2f61c3f627ffdabe847", func := "loop.example/g00899/laws.FnExactValidSectorSpec", spec := "fnExactValidSectorSpec", plainKeys := false, apart := false, narrowed := true }
def FnExactValidSectorSpecUptoSaid : Prop := fnExactValidSectorSpecUptoRow.holds Try.pinned (OpenSpec.upto fnExactValidSectorSpecSpec)

end Rows
end Go.Proofs.Ytpcfhfnlpcpofab
