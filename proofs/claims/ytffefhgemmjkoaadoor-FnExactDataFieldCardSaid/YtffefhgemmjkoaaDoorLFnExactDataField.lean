/- FnExactDataField: the tied card. Whatever the input, the law returns true and its input and the listed variables read as before, in every world that holds these variables as the program's text lays them. -/
import Derived.Test.YtffefhgemmjkoaaDoorCards
import Derived.Test.YtffefhgemmjkoaaDoorTie
import Derived.Test.YtffefhgemmjkoaaDoorWFnExactDataField
import Derived.Test.YtffefhgemmjkoaaDoorCardKit
import Derived.WalkKit
import Derived.ProofKit
import Derived.OpenShut
import Derived.ShutString
import Derived.ChangeVars
import Derived.ChangeArms
import Derived.LaidMore
import Derived.Deep.DeepHandedRow
import Derived.MakeChecks
import Derived.OpenVars
namespace Go.Proofs.YtffefhgemmjkoaaDoor.fnExactDataField
open Go.ChangeShapes Go.WideShapes Go.ChangeAt Go.RowKit
open Go.ChangeMaps (open_string shut_string)
set_option linter.unusedVariables false

theorem own : ownKnob Tryd.prog.godebug = none := by kernel_rfl
theorem laidOut : laidOutB Tryd.prog = true := by kernel_rfl
theorem gNames0 : Tryd.prog.globalNamed "loop.example/g00899/impl.clockedBytes" = some 2 := by kernel_rfl
theorem tNames0 : (Tryd.prog.globals[2]?).map (·.type) = some 80 := by kernel_rfl
def varD0 {H : Type} : DataW H := .agg (clkL.map fun (s : Nat) => .lit (.int .i64 (s : Int)))
def varV0 : List Value := clkL.map fun (s : Nat) => .int .i64 (s : Int)
theorem laid_is0 {H : Type} : (Rows.laid_loop_example_g00899_impl_clockedBytes : DataW H) = varD0 := rfl
theorem cells_is0 {H : Type} {enc : TypeId × Value → H} {w : World} {base : Nat} {sp : Nat → Bool} {held : Bool} {fuel : Nat} {cs : List Value} {q : List MemPlace} (h : DataW.trod enc Tryd.prog w base sp held fuel 80 cs = some (varD0, q)) : cs = varV0 :=
  cells_of_ints (show Tryd.prog.underlying 80 = some (.array clkL.length 2) by kernel_rfl) Tryd.underlying2 (show Tryd.prog.cellsOf 2 = 1 by kernel_rfl) (show Tryd.prog.cellsOf 80 = clkL.length by kernel_rfl) h
theorem tab_of_var0 {W : World} (h : W.var? Tryd.prog "loop.example/g00899/impl.clockedBytes" = some varV0.toArray) : ClkTab W := by
  simp only [World.var?, gNames0, Option.bind_some] at h
  split at h
  · next cs T fr hc =>
    obtain rfl := Option.some.inj h
    exact ⟨T, fr, hc⟩
  · cases h
theorem var_below0 {W W' : World} (hg : 2 < W.heap.size) (hb : Below W.heap.size W W') (h : W.var? Tryd.prog "loop.example/g00899/impl.clockedBytes" = some varV0.toArray) : W'.var? Tryd.prog "loop.example/g00899/impl.clockedBytes" = some varV0.toArray := by
  simp only [World.var?, gNames0, Option.bind_some] at h ⊢
  rw [hb.block _ hg]
  exact h
theorem trod_var0 {H : Type} (enc : TypeId × Value → H) (W : World) (sp : Nat → Bool) : DataW.trod enc Tryd.prog W 0 sp true 6 80 varV0 = some (varD0, []) := by kernel_rfl
theorem gNames1 : Tryd.prog.globalNamed "loop.example/g00899/impl.groupedBytes" = some 1 := by kernel_rfl
theorem tNames1 : (Tryd.prog.globals[1]?).map (·.type) = some 80 := by kernel_rfl
def varD1 {H : Type} : DataW H := .agg (gpbL.map fun (s : Nat) => .lit (.int .i64 (s : Int)))
def varV1 : List Value := gpbL.map fun (s : Nat) => .int .i64 (s : Int)
theorem laid_is1 {H : Type} : (Rows.laid_loop_example_g00899_impl_groupedBytes : DataW H) = varD1 := rfl
theorem cells_is1 {H : Type} {enc : TypeId × Value → H} {w : World} {base : Nat} {sp : Nat → Bool} {held : Bool} {fuel : Nat} {cs : List Value} {q : List MemPlace} (h : DataW.trod enc Tryd.prog w base sp held fuel 80 cs = some (varD1, q)) : cs = varV1 :=
  cells_of_ints (show Tryd.prog.underlying 80 = some (.array gpbL.length 2) by kernel_rfl) Tryd.underlying2 (show Tryd.prog.cellsOf 2 = 1 by kernel_rfl) (show Tryd.prog.cellsOf 80 = gpbL.length by kernel_rfl) h
theorem tab_of_var1 {W : World} (h : W.var? Tryd.prog "loop.example/g00899/impl.groupedBytes" = some varV1.toArray) : GpbTab W := by
  simp only [World.var?, gNames1, Option.bind_some] at h
  split at h
  · next cs T fr hc =>
    obtain rfl := Option.some.inj h
    exact ⟨T, fr, hc⟩
  · cases h
theorem var_below1 {W W' : World} (hg : 1 < W.heap.size) (hb : Below W.heap.size W W') (h : W.var? Tryd.prog "loop.example/g00899/impl.groupedBytes" = some varV1.toArray) : W'.var? Tryd.prog "loop.example/g00899/impl.groupedBytes" = some varV1.toArray := by
  simp only [World.var?, gNames1, Option.bind_some] at h ⊢
  rw [hb.block _ hg]
  exact h
theorem trod_var1 {H : Type} (enc : TypeId × Value → H) (W : World) (sp : Nat → Bool) : DataW.trod enc Tryd.prog W 0 sp true 6 80 varV1 = some (varD1, []) := by kernel_rfl
theorem gNames2 : Tryd.prog.globalNamed "loop.example/g00899/impl.layouts" = some 3 := by kernel_rfl
theorem tNames2 : (Tryd.prog.globals[3]?).map (·.type) = some 112 := by kernel_rfl
def varD2 {H : Type} : DataW H := layD
def varV2 : List Value := layV
theorem laid_is2 {H : Type} : (Rows.laid_loop_example_g00899_impl_layouts : DataW H) = varD2 := rfl
theorem cells_is2 {H : Type} {enc : TypeId × Value → H} {w : World} {base : Nat} {sp : Nat → Bool} {held : Bool} {fuel : Nat} {cs : List Value} {q : List MemPlace} (h : DataW.trod enc Tryd.prog w base sp held fuel 112 cs = some (varD2, q)) : cs = varV2 := layCells h
theorem tab_of_var2 {W : World} (h : W.var? Tryd.prog "loop.example/g00899/impl.layouts" = some varV2.toArray) : LayTab W := by
  simp only [World.var?, gNames2, Option.bind_some] at h
  split at h
  · next cs T fr hc =>
    obtain rfl := Option.some.inj h
    exact ⟨T, fr, hc⟩
  · cases h
theorem var_below2 {W W' : World} (hg : 3 < W.heap.size) (hb : Below W.heap.size W W') (h : W.var? Tryd.prog "loop.example/g00899/impl.layouts" = some varV2.toArray) : W'.var? Tryd.prog "loop.example/g00899/impl.layouts" = some varV2.toArray := by
  simp only [World.var?, gNames2, Option.bind_some] at h ⊢
  rw [hb.block _ hg]
  exact h
theorem trod_var2 {H : Type} (enc : TypeId × Value → H) (W : World) (sp : Nat → Bool) : DataW.trod enc Tryd.prog W 0 sp true 6 112 varV2 = some (varD2, []) := by kernel_rfl
theorem vars_of_laid {W : World} (h : laidMetH Tryd.prog Rows.fnExactDataFieldRow.laid W) : W.var? Tryd.prog "loop.example/g00899/impl.clockedBytes" = some varV0.toArray ∧ W.var? Tryd.prog "loop.example/g00899/impl.groupedBytes" = some varV1.toArray ∧ W.var? Tryd.prog "loop.example/g00899/impl.layouts" = some varV2.toArray := by
  rw [MakeChecks.laidMetH_plain _ _ _ (by kernel_rfl)] at h
  obtain ⟨ps, hl, _⟩ := h
  obtain ⟨g, t, cs, fuel, p0, q0, hg, ht, hvar0, hd0, hl, _⟩ := hl
  obtain rfl := Option.some.inj (gNames0.symm.trans hg)
  obtain rfl := Option.some.inj (tNames0.symm.trans ht)
  rw [laid_is0] at hd0
  replace hvar0 := hvar0.trans (congrArg some (congrArg List.toArray (cells_is0 hd0)))
  obtain ⟨g, t, cs, fuel, p1, q1, hg, ht, hvar1, hd1, hl, _⟩ := hl
  obtain rfl := Option.some.inj (gNames1.symm.trans hg)
  obtain rfl := Option.some.inj (tNames1.symm.trans ht)
  rw [laid_is1] at hd1
  replace hvar1 := hvar1.trans (congrArg some (congrArg List.toArray (cells_is1 hd1)))
  obtain ⟨g, t, cs, fuel, p2, q2, hg, ht, hvar2, hd2, hl, _⟩ := hl
  obtain rfl := Option.some.inj (gNames2.symm.trans hg)
  obtain rfl := Option.some.inj (tNames2.symm.trans ht)
  rw [laid_is2] at hd2
  replace hvar2 := hvar2.trans (congrArg some (congrArg List.toArray (cells_is2 hd2)))
  exact ⟨hvar0, hvar1, hvar2⟩

set_option maxRecDepth 100000 in
theorem contract (H : Type) (enc : TypeId × Value → H) (W : World) (base : Nat) (args : Array Value) (ds gs : List (DataW H)) (before : List MemPlace)
    (hval : ∀ (j : Nat) t v, Tryd.f5.params[j]? = some t → args[j]? = some v → Value.okWide Tryd.prog W .any base t v)
    (hW : DataW.Whole enc Tryd.prog Tryd.f5.params.toList Rows.fnExactDataFieldSpec.vars false W args.toList ds gs before) (hL : laidMetH Tryd.prog Rows.fnExactDataFieldRow.laid W) :
    Calls Tryd.prog 5 args W fun e W' => ∃ v, e = .returned v ∧ Rows.fnExactDataFieldSpec.post enc Tryd.prog Tryd.f5 false true false false W args v W' := by
  have hW' := hW
  obtain ⟨p, q, hA0, hV, rfl, hfz, hnd⟩ := hW
  have hA : DataW.TrodAll enc Tryd.prog W 0 (fun _ => true) true Tryd.f5.params.toList args.toList ds p := hA0
  rw [Tryd.params5] at hA hval
  obtain ⟨v0, vs0, d0, ds0, p0, q0, hargs, rfl, rfl, h0, r0⟩ := trodAll_cons hA
  obtain ⟨v1, vs1, d1, ds1, p1, q1, rfl, rfl, rfl, h1, r1⟩ := trodAll_cons r0
  obtain ⟨rfl, rfl, rfl⟩ := trodAll_nil r1
  obtain rfl : args = #[v0, v1] := by cases args; simp_all
  obtain ⟨a0, rfl, rfl, rfl, w0⟩ := open_int Tryd.underlying2 (hval 0 2 v0 rfl rfl) h0
  have k1 := h1
  have lt1 : ∀ x ∈ p1, x.block < W.heap.size := by obtain ⟨m, hm⟩ := k1; exact DataW.trod_lt m _ _ _ hm
  obtain ⟨c1, hd1, nu1, sz1, da1, de1, bi1, bd1, rfl, w1⟩ := open_sector (hval 1 26 v1 rfl rfl) h1
  obtain ⟨hvar0, hvar1, hvar2⟩ := vars_of_laid hL
  have hVA := hV
  have hV0 := hV
  obtain ⟨g, t, cs, fuel, dq0, y0, es0, z0, rfl, hg, ht, hv, htr, hV1, rfl⟩ := trodVars_c hV0
  clear hg ht hv htr
  obtain ⟨g, t, cs, fuel, dq1, y1, es1, z1, rfl, hg, ht, hv, htr, hV2, rfl⟩ := trodVars_c hV1
  clear hg ht hv htr
  obtain ⟨g, t, cs, fuel, dq2, y2, es2, z2, rfl, hg, ht, hv, htr, hV3, rfl⟩ := trodVars_c hV2
  clear hg ht hv htr
  obtain ⟨g, t, cs, fuel, dq3, y3, es3, z3, rfl, hg, ht, hv, htr, hV4, rfl⟩ := trodVars_c hV3
  clear hg ht hv htr
  obtain ⟨g, t, cs, fuel, dq4, y4, es4, z4, rfl, hg, ht, hv, htr, hV5, rfl⟩ := trodVars_c hV4
  clear hg ht hv htr
  obtain ⟨rfl, rfl⟩ := trodVars_n hV5
  clear hA0
  have tab0 := tab_of_var0 hvar0
  have hlt0 : 2 < W.heap.size := World.block_lt_of_cell? W ⟨2, 0, none⟩ (tab0.cell 0 (by decide))
  have tab1 := tab_of_var1 hvar1
  have hlt1 : 1 < W.heap.size := World.block_lt_of_cell? W ⟨1, 0, none⟩ (tab1.cell 0 (by decide))
  have tab2 := tab_of_var2 hvar2
  have hlt2 : 3 < W.heap.size := World.block_lt_of_cell? W ⟨3, 0, none⟩ (tab2.cell 0 (by decide))
  refine (walk a0 c1 hd1 nu1 sz1 da1 de1 bi1 bd1 W hlt0 tab0 hlt1 tab1 hlt2 tab2 w0 w1).mono fun e W' ⟨he, bel⟩ => ?_
  subst he
  exact ⟨_, rfl, _, _, _, [], _, _, hW', trodAll_mk1 (shut_bool Tryd.underlying4 _), (trodAll_cons_mk (shut_int Tryd.underlying2 w0) (trodAll_cons_mk (Below.trod laidOut (by kernel_rfl) (of_decide_eq_true (by kernel_rfl)) k1 bel lt1) trodAll_mk0)),
    (Below.trodVars laidOut bel (by kernel_rfl) hVA), bel.frame _, fun h => by cases h⟩

theorem laid_met (os : Os) : laidMetH Tryd.prog Rows.fnExactDataFieldRow.laid ((World.doorLaid Tryd.prog 4000 os).forCall (fun _ _ => 0) ⟨#[], #[.int .i64 0, .agg #[.int .i64 0, .int .i64 0, .int .i64 0, .int .i64 0, .string ByteArray.empty, .bool false, .bool false, .bool false]], []⟩).memory := by
  rw [MakeChecks.laidMetH_plain _ _ _ (by kernel_rfl)]
  exact laidMet_of_run' 8 (by kernel_rfl) (by kernel_rfl)
theorem reads (os : Os) {H : Type} (enc : TypeId × Value → H) : ∃ places, DataW.whole enc Tryd.prog ((World.doorLaid Tryd.prog 4000 os).forCall (fun _ _ => 0) ⟨#[], #[.int .i64 0, .agg #[.int .i64 0, .int .i64 0, .int .i64 0, .int .i64 0, .string ByteArray.empty, .bool false, .bool false, .bool false]], []⟩).memory Tryd.f5.params.toList Rows.fnExactDataFieldSpec.vars false (#[.int .i64 0, .agg #[.int .i64 0, .int .i64 0, .int .i64 0, .int .i64 0, .string ByteArray.empty, .bool false, .bool false, .bool false]] : Array Value).toList 8 = some ([.lit (.int .i64 0), .agg [.lit (.int .i64 0), .lit (.int .i64 0), .lit (.int .i64 0), .lit (.int .i64 0), .lit (.string []), .lit (.bool false), .lit (.bool false), .lit (.bool false)]], [varD2, varD1, varD0, .agg [.agg [], .agg [.agg [], .lit (.int .u32 0)], .agg [.agg [], .agg [.lit (.int .i32 0), .lit (.int .u32 0)]]], .agg (List.replicate 16 (.lit (.int .i64 0)))], places) :=
  ⟨MemPlace.row ⟨3, 0, none⟩ varV2.length ++ MemPlace.row ⟨1, 0, none⟩ varV1.length ++ MemPlace.row ⟨2, 0, none⟩ varV0.length ++ MemPlace.row ⟨4, 0, none⟩ 3 ++ MemPlace.row ⟨6, 0, none⟩ 16, by kernel_rfl⟩

set_option maxRecDepth 100000 in
theorem lifted (os : Os) (started : os.Started) (H : Type) (enc : TypeId × Value → H) (F : Stop.Interp) :
    ReturnsInHanded {} Tryd.checked os 5 .any ((OpenSpec.ofChange Rows.fnExactDataFieldSpec).preRow enc Tryd.prog Tryd.f5 Rows.fnExactDataFieldRow.domain false Rows.fnExactDataFieldRow.laid) (((OpenSpec.ofChange Rows.fnExactDataFieldSpec).at F).post enc Tryd.prog Tryd.f5 false true false false) := by
  obtain ⟨places, hx⟩ := reads os enc
  refine returnsInHanded_of_row (C := Tryd.checked) (s := OpenSpec.ofChange Rows.fnExactDataFieldSpec) own started (by kernel_rfl) Tryd.func5
    (witness_row_at (enc := enc) (C := Tryd.checked) false (World.doorLaid Tryd.prog 4000 os) #[.int .i64 0, .agg #[.int .i64 0, .int .i64 0, .int .i64 0, .int .i64 0, .string ByteArray.empty, .bool false, .bool false, .bool false]] rfl (by kernel_rfl) (by kernel_rfl) (by kernel_rfl)
      (OpenSpec.preRow_of_cond 8 hx (by kernel_rfl) (fun k hk => by cases hk) (by kernel_rfl) (laid_met os))) ?_
  intro W base args ds gs before hval hW _ _ _ hL _ _
  exact contract H enc W base args ds gs before hval hW hL

theorem said : Rows.FnExactDataFieldSaid :=
  OpenClaim.holds_of_cond 5 Tryd.f5 rfl rfl rfl rfl rfl rfl rfl ⟨rfl, rfl, rfl, rfl, rfl⟩ rfl rfl rfl rfl rfl (by kernel_rfl) Tryd.func5 (by kernel_rfl)
    (of_decide_eq_true (by kernel_rfl)) (by unfold Func.isWrapper; first | (rw [if_pos (by decide +kernel)]; kernel_rfl) | (rw [if_neg (by decide +kernel)]; exact ⟨rfl, rfl⟩))
    (fun os started H enc _ F => by rw [OpenClaim.pre_eq_preRow]; exact lifted os started H enc F)

/-- No parameter wants a stand-in; the program's own looks are off. -/
theorem plain (f : FuncId) (fn : Func) (hf : Tryd.pinned.checked.prog.funcNamed "loop.example/g00899/laws.FnExactDataField" = some f) (hfn : Tryd.pinned.checked.prog.funcs[f]? = some fn) :
    false = Tryd.pinned.checked.prog.looks [] ∧ ∀ (j : Nat) t, fn.params[j]? = some t → Tryd.pinned.checked.prog.wantsStandIn t = false := by
  obtain rfl : f = 5 := Option.some.inj ((show Tryd.prog.funcNamed "loop.example/g00899/laws.FnExactDataField" = some 5 by kernel_rfl).symm.trans hf) |>.symm
  obtain rfl : fn = Tryd.f5 := (Option.some.inj (Tryd.func5.symm.trans hfn)).symm
  refine ⟨by kernel_rfl, fun j t ht => ?_⟩
  rw [Tryd.params5] at ht
  have hm : t = 2 ∨ t = 26 := by simpa using Array.mem_of_getElem? ht
  rcases hm with rfl | rfl
  · exact (show Tryd.prog.wantsStandIn 2 = false by kernel_rfl)
  · exact (show Tryd.prog.wantsStandIn 26 = false by kernel_rfl)

theorem proved : Rows.FnExactDataFieldCardSaid :=
  Claim7.holds_tied_plain_at .later [] _ _ _ _ said (fun _ h => by cases h) (by kernel_rfl) (fun _ h => by cases h) fnExactDataField_row_tie rfl ⟨rfl, rfl⟩ (by kernel_rfl) rfl plain (by kernel_rfl)
end Go.Proofs.YtffefhgemmjkoaaDoor.fnExactDataField
