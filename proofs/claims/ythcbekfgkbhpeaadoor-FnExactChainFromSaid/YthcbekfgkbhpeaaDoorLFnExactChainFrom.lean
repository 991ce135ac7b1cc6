/- FnExactChainFrom: whatever the input, the law returns true and its input reads as before: the row's step from its walk. -/
import Derived.Test.YthcbekfgkbhpeaaDoorRows
import Derived.Test.YthcbekfgkbhpeaaDoorPkChainFromWFnExactChainFrom
import Derived.Test.YthcbekfgkbhpeaaDoorPkChainFromC
import Derived.Test.YthcbekfgkbhpeaaDoorPkChainFromCardKit
import Derived.OpenVars
import Derived.ProofKit
import Derived.OpenShut
import Derived.ShutString
import Derived.ChangeOld
namespace Go.Proofs.YthcbekfgkbhpeaaDoor.fnExactChainFrom
open Go.ChangeShapes Go.WideShapes Go.ChangeAt Go.RowKit
open Go.ChangeMaps (open_string shut_string)
set_option linter.unusedVariables false

theorem own : ownKnob Tryd.prog.godebug = none := by kernel_rfl
theorem laidOut : laidOutB Tryd.prog = true := by kernel_rfl

set_option maxRecDepth 100000 in
theorem lifted (os : Os) (started : os.Started) (H : Type) (enc : TypeId × Value → H) :
    ReturnsInHanded {} Tryd.checked os 7 .any (Rows.fnExactChainFromSpec.pre6 enc Tryd.prog Tryd.f7 Rows.fnExactChainFromRow.domain false) (Rows.fnExactChainFromSpec.post enc Tryd.prog Tryd.f7 false true false false) := by
  refine returnsInHanded_of_change (C := Tryd.checked) own started (by kernel_rfl) Tryd.func7
    (ChangeSpec.witness6 (enc := enc) (C := Tryd.checked) false ⟨#[], #[.slice none 0 0, .int .i64 0], []⟩ 8 (by kernel_rfl) (by kernel_rfl) (by kernel_rfl) (by kernel_rfl)) ?_
  intro W base args ds gs before hval0 hW hcnd _
  have hval : ∀ (j : Nat) t v, Tryd.f7.params[j]? = some t → args[j]? = some v → Value.okWide Tryd.prog W .any base t v := hval0
  have hW' := hW
  obtain ⟨p, q, hA0, hV, rfl, hfz, hnd⟩ := hW
  have hA : DataW.TrodAll enc Tryd.prog W 0 (fun _ => true) true Tryd.f7.params.toList args.toList ds p := hA0
  rw [Tryd.params7] at hA hval
  obtain ⟨v0, vs0, d0, ds0, p0, q0, hargs, rfl, rfl, h0, r0⟩ := trodAll_cons hA
  obtain ⟨v1, vs1, d1, ds1, p1, q1, rfl, rfl, rfl, h1, r1⟩ := trodAll_cons r0
  obtain ⟨rfl, rfl, rfl⟩ := trodAll_nil r1
  obtain rfl : args = #[v0, v1] := by cases args; simp_all
  have hVA := hV
  have hV0 := hV
  obtain ⟨gv, tv, csv, fuelv, dq0, yv0, esv0, zzv0, rfl, hg, ht, hv, htr, hV1, rfl⟩ := trodVars_c hV0
  clear hg ht hv htr
  obtain ⟨gv, tv, csv, fuelv, dq1, yv1, esv1, zzv1, rfl, hg, ht, hv, htr, hV2, rfl⟩ := trodVars_c hV1
  clear hg ht hv htr
  obtain ⟨rfl, rfl⟩ := trodVars_n hV2
  have k0 := h0
  have lt0 : ∀ x ∈ p0, x.block < W.heap.size := by obtain ⟨m, hm⟩ := k0; exact DataW.trod_lt m _ _ _ hm
  obtain ⟨s0, xs0, cap0, rfl, w0, u0⟩ := open_StringS (hval 0 22 v0 rfl rfl) h0
  obtain ⟨a1, rfl, rfl, rfl, w1⟩ := open_int Tryd.underlying2 (hval 1 2 v1 rfl rfl) h1
  clear hA0 hval0
  refine (walk s0 xs0 cap0 a1 W w0 u0 w1).mono fun e W' ⟨he, bel⟩ => ?_
  subst he
  exact ⟨_, rfl, _, _, _, [], _, _, hW', trodAll_mk1 (shut_bool Tryd.underlying4 _), (trodAll_cons_mk (Below.trod laidOut (by kernel_rfl) (of_decide_eq_true (by kernel_rfl)) k0 bel lt0) (trodAll_cons_mk (shut_int Tryd.underlying2 w1) trodAll_mk0)), Below.trodVars laidOut bel (by kernel_rfl) hVA, bel.frame _, fun h => by cases h⟩

theorem c_inPlace : (Rows.fnExactChainFromRow.inPlace == Tryd.pinned.checked.prog.inPlace 7) = true := by kernel_rfl
theorem c_unfollowed : (Rows.fnExactChainFromRow.unfollowed == Tryd.pinned.checked.prog.unfollowed 7) = true := by kernel_rfl
theorem c_recurses : (Rows.fnExactChainFromRow.recurses == Tryd.pinned.checked.prog.recurses 7) = true := by kernel_rfl
theorem c_named : (Rows.fnExactChainFromRow.named == Tryd.pinned.checked.prog.varsNamed 7) = true := by kernel_rfl
theorem c_plainKeys : (Rows.fnExactChainFromRow.plainKeys == Tryd.pinned.checked.prog.plainKeys) = true := by kernel_rfl
theorem c_laid : laidOutB Tryd.pinned.checked.prog = true := laidOut
theorem c_maps : mapsRowed Tryd.pinned.checked.prog = true := by kernel_rfl
theorem closed : joinedFacts Tryd.pinned.checked.prog 7 Tryd.f7 Rows.fnExactChainFromSpec Rows.fnExactChainFromRow = true := by
  unfold joinedFacts
  rw [c_inPlace, c_unfollowed, c_recurses, c_named, c_plainKeys, c_laid, c_maps]
  kernel_rfl

theorem over : Rows.fnExactChainFromRow.holds Tryd.pinned (OpenSpec.ofChange Rows.fnExactChainFromSpec) :=
  OpenClaim.holds_of_wide 7 Tryd.f7 rfl rfl rfl rfl rfl rfl rfl ⟨rfl, rfl, rfl, rfl, rfl⟩ rfl rfl rfl rfl rfl (by kernel_rfl) Tryd.func7 closed
    (of_decide_eq_true (by kernel_rfl)) (by unfold Func.isWrapper; first | (rw [if_pos (by decide +kernel)]; kernel_rfl) | (rw [if_neg (by decide +kernel)]; exact ⟨rfl, rfl⟩))
    (fun os started H enc _ => lifted os started H enc)

theorem proved : Rows.FnExactChainFromSaid := over
end Go.Proofs.YthcbekfgkbhpeaaDoor.fnExactChainFrom
