/- FnExactReadProblem: the tied card. Whatever the input, the law returns true and its input and the listed variables read as before, in every world that holds these variables as the program's text lays them. -/
import Derived.Test.YtbckicdjbgfofaaDoorCards
import Derived.Test.YtbckicdjbgfofaaDoorTie
import Derived.Test.YtbckicdjbgfofaaDoorWFnExactReadProblem
import Derived.Test.YtbckicdjbgfofaaDoorCardStr
import Derived.WalkKit
import Derived.ProofKit
import Derived.OpenShut
import Derived.ShutString
import Derived.ChangeVars
import Derived.ChangeArms
import Derived.LaidMore
import Derived.Deep.DeepHandedRow
import Derived.MakeChecks
namespace Go.Proofs.YtbckicdjbgfofaaDoor.fnExactReadProblem
open Go.ChangeShapes Go.WideShapes Go.ChangeAt Go.RowKit
open Go.ChangeMaps (open_string shut_string)
set_option linter.unusedVariables false

theorem own : ownKnob Tryd.prog.godebug = none := by kernel_rfl
theorem gNames2 : Tryd.prog.globalNamed "internal/strconv.uint64pow10" = some 2 := by kernel_rfl
theorem tNames2 : (Tryd.prog.globals[2]?).map (·.type) = some 75 := by kernel_rfl
def varD2 {H : Type} : DataW H := .agg (pow10L.map fun (s : Nat) => .lit (.int .u64 (s : Int)))
def varV2 : List Value := pow10L.map fun (s : Nat) => .int .u64 (s : Int)
theorem laid_is2 {H : Type} : (Rows.laid_internal_strconv_uint64pow10 : DataW H) = varD2 := rfl
theorem cells_is2 {H : Type} {enc : TypeId × Value → H} {w : World} {base : Nat} {sp : Nat → Bool} {held : Bool} {fuel : Nat} {cs : List Value} {q : List MemPlace} (h : DataW.trod enc Tryd.prog w base sp held fuel 75 cs = some (varD2, q)) : cs = varV2 :=
  cells_of_ints (show Tryd.prog.underlying 75 = some (.array pow10L.length 69) by kernel_rfl) Tryd.underlying69 (show Tryd.prog.cellsOf 69 = 1 by kernel_rfl) (show Tryd.prog.cellsOf 75 = pow10L.length by kernel_rfl) h
theorem tab_of_var2 {W : World} (h : W.var? Tryd.prog "internal/strconv.uint64pow10" = some varV2.toArray) : PowTab W := by
  simp only [World.var?, gNames2, Option.bind_some] at h
  split at h
  · next cs T fr hc =>
    obtain rfl := Option.some.inj h
    exact ⟨T, fr, hc⟩
  · cases h
theorem hlt_of_tab2 {W : World} (h : PowTab W) : 2 < W.heap.size := by
  obtain ⟨T, fr, h⟩ := h
  exact (Array.getElem?_eq_some_iff.1 h).1
theorem var_below2 {W W' : World} (hg : 2 < W.heap.size) (hb : Below W.heap.size W W') (h : W.var? Tryd.prog "internal/strconv.uint64pow10" = some varV2.toArray) : W'.var? Tryd.prog "internal/strconv.uint64pow10" = some varV2.toArray := by
  simp only [World.var?, gNames2, Option.bind_some] at h ⊢
  rw [hb.block _ hg]
  exact h
theorem gNames3 : Tryd.prog.globalNamed "loop.example/g00899/impl.problemWords" = some 0 := by kernel_rfl
theorem tNames3 : (Tryd.prog.globals[0]?).map (·.type) = some 43 := by kernel_rfl
def varD3 {H : Type} : DataW H := .agg (problemStrings.map fun s => .lit (.string s.data.toList))
def varV3 : List Value := problemStrings.map fun s => Value.string s
theorem laid_is3 {H : Type} : (Rows.laid_loop_example_g00899_impl_problemWords : DataW H) = varD3 := rfl
theorem cells_is3 {H : Type} {enc : TypeId × Value → H} {w : World} {base : Nat} {sp : Nat → Bool} {held : Bool} {fuel : Nat} {cs : List Value} {q : List MemPlace} (h : DataW.trod enc Tryd.prog w base sp held fuel 43 cs = some (varD3, q)) : cs = varV3 :=
  cells_of_strings Tryd.underlying43 Tryd.underlying9 (show Tryd.prog.cellsOf 9 = 1 by kernel_rfl) (show Tryd.prog.cellsOf 43 = problemStrings.length by kernel_rfl) h
theorem tab_of_var3 {W : World} (h : W.var? Tryd.prog "loop.example/g00899/impl.problemWords" = some varV3.toArray) : ProbWords W := by
  simp only [World.var?, gNames3, Option.bind_some] at h
  split at h
  · next cs T fr hc =>
    obtain rfl := Option.some.inj h
    exact ⟨T, fr, hc⟩
  · cases h
theorem hlt_of_tab3 {W : World} (h : ProbWords W) : 0 < W.heap.size := by
  obtain ⟨T, fr, h⟩ := h
  exact (Array.getElem?_eq_some_iff.1 h).1
theorem var_below3 {W W' : World} (hg : 0 < W.heap.size) (hb : Below W.heap.size W W') (h : W.var? Tryd.prog "loop.example/g00899/impl.problemWords" = some varV3.toArray) : W'.var? Tryd.prog "loop.example/g00899/impl.problemWords" = some varV3.toArray := by
  simp only [World.var?, gNames3, Option.bind_some] at h ⊢
  rw [hb.block _ hg]
  exact h
theorem trod_var3 {H : Type} (enc : TypeId × Value → H) (W : World) (sp : Nat → Bool) : DataW.trod enc Tryd.prog W 0 sp true 6 43 varV3 = some (varD3, []) := by kernel_rfl
theorem vars_of_laid {W : World} (h : laidMetH Tryd.prog Rows.fnExactReadProblemRow.laid W) : W.var? Tryd.prog "internal/strconv.uint64pow10" = some varV2.toArray ∧ W.var? Tryd.prog "loop.example/g00899/impl.problemWords" = some varV3.toArray := by
  rw [MakeChecks.laidMetH_plain _ _ _ (by kernel_rfl)] at h
  obtain ⟨ps, hl, _⟩ := h
  obtain ⟨g0, t0, cs0, fuel0, p0, q0, hg0, ht0, hvar0, hd0, hl, _⟩ := hl
  clear hg0 ht0 hvar0 hd0
  obtain ⟨g1, t1, cs1, fuel1, p1, q1, hg1, ht1, hvar1, hd1, hl, _⟩ := hl
  clear hg1 ht1 hvar1 hd1
  obtain ⟨g, t, cs, fuel, p2, q2, hg, ht, hvar2, hd2, hl, _⟩ := hl
  obtain rfl := Option.some.inj (gNames2.symm.trans hg)
  obtain rfl := Option.some.inj (tNames2.symm.trans ht)
  rw [laid_is2] at hd2
  replace hvar2 := hvar2.trans (congrArg some (congrArg List.toArray (cells_is2 hd2)))
  obtain ⟨g, t, cs, fuel, p3, q3, hg, ht, hvar3, hd3, hl, _⟩ := hl
  obtain rfl := Option.some.inj (gNames3.symm.trans hg)
  obtain rfl := Option.some.inj (tNames3.symm.trans ht)
  rw [laid_is3] at hd3
  replace hvar3 := hvar3.trans (congrArg some (congrArg List.toArray (cells_is3 hd3)))
  exact ⟨hvar2, hvar3⟩

set_option maxRecDepth 100000 in
theorem contract (H : Type) (enc : TypeId × Value → H) (W : World) (base : Nat) (args : Array Value) (ds gs : List (DataW H)) (before : List MemPlace)
    (hval : ∀ (j : Nat) t v, Tryd.f3.params[j]? = some t → args[j]? = some v → Value.okWide Tryd.prog W .any base t v)
    (hW : DataW.Whole enc Tryd.prog Tryd.f3.params.toList Rows.fnExactReadProblemSpec.vars false W args.toList ds gs before) (hL : laidMetH Tryd.prog Rows.fnExactReadProblemRow.laid W) :
    Calls Tryd.prog 3 args W fun e W' => ∃ v, e = .returned v ∧ Rows.fnExactReadProblemSpec.post enc Tryd.prog Tryd.f3 false true false false W args v W' := by
  have hW' := hW
  obtain ⟨p, q, hA0, hV, rfl, hfz, hnd⟩ := hW
  have hA : DataW.TrodAll enc Tryd.prog W 0 (fun _ => true) true Tryd.f3.params.toList args.toList ds p := hA0
  rw [Tryd.params3] at hA hval
  obtain ⟨v0, vs0, d0, ds0, p0, q0, hargs, rfl, rfl, h0, r0⟩ := trodAll_cons hA
  obtain ⟨rfl, rfl, rfl⟩ := trodAll_nil r0
  obtain rfl : args = #[v0] := by cases args; simp_all
  obtain ⟨a0, rfl, rfl, rfl, w0⟩ := open_string Tryd.underlying9 (hval 0 9 v0 rfl rfl) h0
  obtain ⟨hvar2, hvar3⟩ := vars_of_laid hL
  have hV0 := hV
  obtain ⟨g, t, cs, fuel, dv3, y3, es3, z3, rfl, hg, ht, hv, htr, hV1, rfl⟩ := trodVars_c hV0
  obtain rfl := Option.some.inj (gNames3.symm.trans hg)
  obtain rfl := Option.some.inj (tNames3.symm.trans ht)
  obtain rfl := Option.some.inj (hv.symm.trans hvar3)
  have e1 := DataW.trod_le (Nat.le_max_left fuel 6) htr
  have e2 := DataW.trod_le (Nat.le_max_right fuel 6) (trod_var3 enc W (fun _ => true))
  obtain ⟨rfl, rfl⟩ : dv3 = varD3 ∧ y3 = [] := by
    have := Option.some.inj (e1.symm.trans e2)
    simpa using this
  clear e1 e2 htr hg ht hv
  obtain ⟨rfl, rfl⟩ := trodVars_n hV1
  clear hA0
  have tab2 := tab_of_var2 hvar2
  have hlt2 := hlt_of_tab2 tab2
  have tab3 := tab_of_var3 hvar3
  have hlt3 := hlt_of_tab3 tab3
  refine (walk a0 W hlt3 ⟨tab3, tab2⟩ w0).mono fun e W' ⟨he, bel⟩ => ?_
  subst he
  exact ⟨_, rfl, _, _, _, [], [], _, hW', trodAll_mk1 (shut_bool Tryd.underlying4 _), (trodAll_cons_mk (shut_string Tryd.underlying9 w0) trodAll_mk0),
    (trodVars_mkc gNames3 tNames3 (var_below3 hlt3 bel hvar3) (trod_var3 enc W' _) trodVars_mk0), bel.frame _, fun h => by cases h⟩

theorem laid_met (os : Os) : laidMetH Tryd.prog Rows.fnExactReadProblemRow.laid ((World.doorLaid Tryd.prog 4000 os).forCall (fun _ _ => 0) ⟨#[], #[.string ByteArray.empty], []⟩).memory := by
  rw [MakeChecks.laidMetH_plain _ _ _ (by kernel_rfl)]
  exact laidMet_of_run' 8 (by kernel_rfl) (by kernel_rfl)
theorem reads (os : Os) {H : Type} (enc : TypeId × Value → H) : ∃ places, DataW.whole enc Tryd.prog ((World.doorLaid Tryd.prog 4000 os).forCall (fun _ _ => 0) ⟨#[], #[.string ByteArray.empty], []⟩).memory Tryd.f3.params.toList Rows.fnExactReadProblemSpec.vars false (#[.string ByteArray.empty] : Array Value).toList 8 = some ([.lit (.string [])], [varD3], places) :=
  ⟨MemPlace.row ⟨0, 0, none⟩ varV3.length, by kernel_rfl⟩

set_option maxRecDepth 100000 in
theorem lifted (os : Os) (started : os.Started) (H : Type) (enc : TypeId × Value → H) (F : Stop.Interp) :
    ReturnsInHanded {} Tryd.checked os 3 .any ((OpenSpec.ofChange Rows.fnExactReadProblemSpec).preRow enc Tryd.prog Tryd.f3 Rows.fnExactReadProblemRow.domain false Rows.fnExactReadProblemRow.laid) (((OpenSpec.ofChange Rows.fnExactReadProblemSpec).at F).post enc Tryd.prog Tryd.f3 false true false false) := by
  obtain ⟨places, hx⟩ := reads os enc
  refine returnsInHanded_of_row (C := Tryd.checked) (s := OpenSpec.ofChange Rows.fnExactReadProblemSpec) own started (by kernel_rfl) Tryd.func3
    (witness_row_at (enc := enc) (C := Tryd.checked) false (World.doorLaid Tryd.prog 4000 os) #[.string ByteArray.empty] rfl (by kernel_rfl) (by kernel_rfl) (by kernel_rfl)
      (OpenSpec.preRow_of_cond 8 hx (by kernel_rfl) (fun k hk => by cases hk) (by kernel_rfl) (laid_met os))) ?_
  intro W base args ds gs before hval hW _ _ _ hL _ _
  exact contract H enc W base args ds gs before hval hW hL

theorem said : Rows.FnExactReadProblemSaid :=
  OpenClaim.holds_of_cond 3 Tryd.f3 rfl rfl rfl rfl rfl rfl rfl ⟨rfl, rfl, rfl, rfl, rfl⟩ rfl rfl rfl rfl rfl (by kernel_rfl) Tryd.func3 (by kernel_rfl)
    (of_decide_eq_true (by kernel_rfl)) (by unfold Func.isWrapper; first | (rw [if_pos (by decide +kernel)]; kernel_rfl) | (rw [if_neg (by decide +kernel)]; exact ⟨rfl, rfl⟩))
    (fun os started H enc _ F => by rw [OpenClaim.pre_eq_preRow]; exact lifted os started H enc F)

/-- No parameter wants a stand-in; the program's own looks are off. -/
theorem plain (f : FuncId) (fn : Func) (hf : Tryd.pinned.checked.prog.funcNamed "loop.example/g00899/laws.FnExactReadProblem" = some f) (hfn : Tryd.pinned.checked.prog.funcs[f]? = some fn) :
    false = Tryd.pinned.checked.prog.looks [] ∧ ∀ (j : Nat) t, fn.params[j]? = some t → Tryd.pinned.checked.prog.wantsStandIn t = false := by
  obtain rfl : f = 3 := Option.some.inj ((show Tryd.prog.funcNamed "loop.example/g00899/laws.FnExactReadProblem" = some 3 by kernel_rfl).symm.trans hf) |>.symm
  obtain rfl : fn = Tryd.f3 := (Option.some.inj (Tryd.func3.symm.trans hfn)).symm
  refine ⟨by kernel_rfl, fun j t ht => ?_⟩
  rw [Tryd.params3] at ht
  obtain rfl : t = 9 := by simpa using Array.mem_of_getElem? ht
  exact (show Tryd.prog.wantsStandIn 9 = false by kernel_rfl)

theorem proved : Rows.FnExactReadProblemCardSaid :=
  Claim7.holds_tied_plain_at .later [] _ _ _ _ said (fun _ h => by cases h) (by kernel_rfl) (fun _ h => by cases h) fnExactReadProblem_row_tie rfl ⟨rfl, rfl⟩ (by kernel_rfl) rfl plain (by kernel_rfl)
end Go.Proofs.YtbckicdjbgfofaaDoor.fnExactReadProblem
