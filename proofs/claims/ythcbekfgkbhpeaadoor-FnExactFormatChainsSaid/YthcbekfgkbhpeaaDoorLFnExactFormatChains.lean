/- FnExactFormatChains: whatever the input, the law returns true and its input reads as before: the row's step from its walk. -/
import Derived.Test.YthcbekfgkbhpeaaDoorRows
import Derived.Test.YthcbekfgkbhpeaaDoorPkFormatChainsWFnExactFormatChains
import Derived.Test.YthcbekfgkbhpeaaDoorPkFormatChainsCardKit
import Derived.OpenVars
import Derived.ProofKit
import Derived.OpenShut
import Derived.ShutString
import Derived.ChangeOld
namespace Go.Proofs.YthcbekfgkbhpeaaDoor.fnExactFormatChains
open Go.ChangeShapes Go.WideShapes Go.ChangeAt Go.RowKit
open Go.ChangeMaps (open_string shut_string)
set_option linter.unusedVariables false

theorem own : ownKnob Tryd.prog.godebug = none := by kernel_rfl
theorem laidOut : laidOutB Tryd.prog = true := by kernel_rfl

set_option maxRecDepth 100000 in
theorem lifted (os : Os) (started : os.Started) (H : Type) (enc : TypeId × Value → H) :
    ReturnsInHanded {} Tryd.checked os 4 .any (Rows.fnExactFormatChainsSpec.pre6 enc Tryd.prog Tryd.f4 Rows.fnExactFormatChainsRow.domain false) (Rows.fnExactFormatChainsSpec.post enc Tryd.prog Tryd.f4 false true false false) := by
  refine returnsInHanded_of_change (C := Tryd.checked) own started (by kernel_rfl) Tryd.func4
    (ChangeSpec.witness6 (enc := enc) (C := Tryd.checked) false ⟨#[], #[.int .i64 0, .int .i64 0], []⟩ 8 (by kernel_rfl) (by kernel_rfl) (by kernel_rfl) (by kernel_rfl)) ?_
  intro W base args ds gs before hval0 hW hcnd _
  have hval : ∀ (j : Nat) t v, Tryd.f4.params[j]? = some t → args[j]? = some v → Value.okWide Tryd.prog W .any base t v := hval0
  have hW' := hW
  obtain ⟨p, q, hA0, hV, rfl, hfz, hnd⟩ := hW
  have hA : DataW.TrodAll enc Tryd.prog W 0 (fun _ => true) true Tryd.f4.params.toList args.toList ds p := hA0
  rw [Tryd.params4] at hA hval
  obtain ⟨v0, vs0, d0, ds0, p0, q0, hargs, rfl, rfl, h0, r0⟩ := trodAll_cons hA
  obtain ⟨v1, vs1, d1, ds1, p1, q1, rfl, rfl, rfl, h1, r1⟩ := trodAll_cons r0
  obtain ⟨rfl, rfl, rfl⟩ := trodAll_nil r1
  obtain rfl : args = #[v0, v1] := by cases args; simp_all
  have hVA := hV
  have hV0 := hV
  obtain ⟨gv, tv, csv, fuelv, dq0, yv0, esv0, zzv0, rfl, hg, ht, hv, htr, hV1, rfl⟩ := trodVars_c hV0
  clear hg ht hv htr
  obtain ⟨gv, tv, csv, fuelv, dq1, yv1, esv1, zzv1, rfl, hg, ht, hv, htr, hV2, rfl⟩ := trodVars_c hV1
  clear hg ht hv htr
  obtain ⟨rfl, rfl⟩ := trodVars_n hV2
  obtain ⟨a0, rfl, rfl, rfl, w0⟩ := open_int Tryd.underlying2 (hval 0 2 v0 rfl rfl) h0
  obtain ⟨a1, rfl, rfl, rfl, w1⟩ := open_int Tryd.underlying2 (hval 1 2 v1 rfl rfl) h1
  clear hA0 hval0
  refine (walk a0 a1 W w0 w1).mono fun e W' ⟨he, bel⟩ => ?_
  subst he
  exact ⟨_, rfl, _, _, _, [], _, _, hW', trodAll_mk1 (shut_bool Tryd.underlying4 _), (trodAll_cons_mk (shut_int Tryd.underlying2 w0) (trodAll_cons_mk (shut_int Tryd.underlying2 w1) trodAll_mk0)), Below.trodVars laidOut bel (by kernel_rfl) hVA, bel.frame _, fun h => by cases h⟩

theorem c_inPlace : (Rows.fnExactFormatChainsRow.inPlace == Tryd.pinned.checked.prog.inPlace 4) = true := by kernel_rfl
theorem c_unfollowed : (Rows.fnExactFormatChainsRow.unfollowed == Tryd.pinned.checked.prog.unfollowed 4) = true := by kernel_rfl
theorem c_recurses : (Rows.fnExactFormatChainsRow.recurses == Tryd.pinned.checked.prog.recurses 4) = true := by kernel_rfl
theorem c_named : (Rows.fnExactFormatChainsRow.named == Tryd.pinned.checked.prog.varsNamed 4) = true := by kernel_rfl
theorem c_plainKeys : (Rows.fnExactFormatChainsRow.plainKeys == Tryd.pinned.checked.prog.plainKeys) = true := by kernel_rfl
theorem c_laid : laidOutB Tryd.pinned.checked.prog = true := laidOut
theorem c_maps : mapsRowed Tryd.pinned.checked.prog = true := by kernel_rfl
theorem closed : joinedFacts Tryd.pinned.checked.prog 4 Tryd.f4 Rows.fnExactFormatChainsSpec Rows.fnExactFormatChainsRow = true := by
  unfold joinedFacts
  rw [c_inPlace, c_unfollowed, c_recurses, c_named, c_plainKeys, c_laid, c_maps]
  kernel_rfl

theorem over : Rows.fnExactFormatChainsRow.holds Tryd.pinned (OpenSpec.ofChange Rows.fnExactFormatChainsSpec) :=
  OpenClaim.holds_of_wide 4 Tryd.f4 rfl rfl rfl rfl rfl rfl rfl ⟨rfl, rfl, rfl, rfl, rfl⟩ rfl rfl rfl rfl rfl (by kernel_rfl) Tryd.func4 closed
    (of_decide_eq_true (by kernel_rfl)) (by unfold Func.isWrapper; first | (rw [if_pos (by decide +kernel)]; kernel_rfl) | (rw [if_neg (by decide +kernel)]; exact ⟨rfl, rfl⟩))
    (fun os started H enc _ => lifted os started H enc)

theorem proved : Rows.FnExactFormatChainsSaid := over
end Go.Proofs.YthcbekfgkbhpeaaDoor.fnExactFormatChains
