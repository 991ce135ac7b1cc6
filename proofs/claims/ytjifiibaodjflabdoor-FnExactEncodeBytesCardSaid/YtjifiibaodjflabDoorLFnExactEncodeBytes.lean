/- FnExactEncodeBytes: the tied card. Whatever the input, the law returns true and its input and the listed variables read as before, in every world that holds these variables as the program's text lays them. -/
import Derived.Test.YtjifiibaodjflabDoorCards
import Derived.Test.YtjifiibaodjflabDoorTie
import Derived.Test.YtjifiibaodjflabDoorWFnExactEncodeBytes
import Derived.Test.YtjifiibaodjflabDoorCardKit
import Derived.WalkKit
import Derived.ProofKit
import Derived.OpenShut
import Derived.ShutString
import Derived.ChangeVars
import Derived.ChangeArms
import Derived.LaidMore
import Derived.Deep.DeepHandedRow
import Derived.MakeChecks
namespace Go.Proofs.YtjifiibaodjflabDoor.fnExactEncodeBytes
open Go.ChangeShapes Go.WideShapes Go.ChangeAt Go.RowKit
open Go.ChangeMaps (open_string shut_string)
set_option linter.unusedVariables false

theorem own : ownKnob Tryd.prog.godebug = none := by kernel_rfl
theorem gNames0 : Tryd.prog.globalNamed "loop.example/g00899/impl.groupCodes" = some 1 := by kernel_rfl
theorem tNames0 : (Tryd.prog.globals[1]?).map (·.type) = some 85 := by kernel_rfl
def varD0 {H : Type} : DataW H := .agg (gcrL.map fun (s : Nat) => .lit (.int .u8 (s : Int)))
def varV0 : List Value := gcrL.map fun (s : Nat) => .int .u8 (s : Int)
theorem laid_is0 {H : Type} : (Rows.laid_loop_example_g00899_impl_groupCodes : DataW H) = varD0 := rfl
theorem cells_is0 {H : Type} {enc : TypeId × Value → H} {w : World} {base : Nat} {sp : Nat → Bool} {held : Bool} {fuel : Nat} {cs : List Value} {q : List MemPlace} (h : DataW.trod enc Tryd.prog w base sp held fuel 85 cs = some (varD0, q)) : cs = varV0 :=
  cells_of_ints (show Tryd.prog.underlying 85 = some (.array gcrL.length 5) by kernel_rfl) Tryd.underlying5 (show Tryd.prog.cellsOf 5 = 1 by kernel_rfl) (show Tryd.prog.cellsOf 85 = gcrL.length by kernel_rfl) h
theorem tab_of_var0 {W : World} (h : W.var? Tryd.prog "loop.example/g00899/impl.groupCodes" = some varV0.toArray) : GrpTab W := by
  simp only [World.var?, gNames0, Option.bind_some] at h
  split at h
  · next cs T fr hc =>
    obtain rfl := Option.some.inj h
    exact ⟨T, fr, hc⟩
  · cases h
theorem var_below0 {W W' : World} (hg : 1 < W.heap.size) (hb : Below W.heap.size W W') (h : W.var? Tryd.prog "loop.example/g00899/impl.groupCodes" = some varV0.toArray) : W'.var? Tryd.prog "loop.example/g00899/impl.groupCodes" = some varV0.toArray := by
  simp only [World.var?, gNames0, Option.bind_some] at h ⊢
  rw [hb.block _ hg]
  exact h
theorem trod_var0 {H : Type} (enc : TypeId × Value → H) (W : World) (sp : Nat → Bool) : DataW.trod enc Tryd.prog W 0 sp true 6 85 varV0 = some (varD0, []) := by kernel_rfl
theorem gNames1 : Tryd.prog.globalNamed "loop.example/g00899/impl.layouts" = some 0 := by kernel_rfl
theorem tNames1 : (Tryd.prog.globals[0]?).map (·.type) = some 59 := by kernel_rfl
def varD1 {H : Type} : DataW H := layD
def varV1 : List Value := layV
theorem laid_is1 {H : Type} : (Rows.laid_loop_example_g00899_impl_layouts : DataW H) = varD1 := rfl
theorem cells_is1 {H : Type} {enc : TypeId × Value → H} {w : World} {base : Nat} {sp : Nat → Bool} {held : Bool} {fuel : Nat} {cs : List Value} {q : List MemPlace} (h : DataW.trod enc Tryd.prog w base sp held fuel 59 cs = some (varD1, q)) : cs = varV1 := layCells h
theorem tab_of_var1 {W : World} (h : W.var? Tryd.prog "loop.example/g00899/impl.layouts" = some varV1.toArray) : LayTab W := by
  simp only [World.var?, gNames1, Option.bind_some] at h
  split at h
  · next cs T fr hc =>
    obtain rfl := Option.some.inj h
    exact ⟨T, fr, hc⟩
  · cases h
theorem var_below1 {W W' : World} (hg : 0 < W.heap.size) (hb : Below W.heap.size W W') (h : W.var? Tryd.prog "loop.example/g00899/impl.layouts" = some varV1.toArray) : W'.var? Tryd.prog "loop.example/g00899/impl.layouts" = some varV1.toArray := by
  simp only [World.var?, gNames1, Option.bind_some] at h ⊢
  rw [hb.block _ hg]
  exact h
theorem trod_var1 {H : Type} (enc : TypeId × Value → H) (W : World) (sp : Nat → Bool) : DataW.trod enc Tryd.prog W 0 sp true 6 59 varV1 = some (varD1, []) := by kernel_rfl
theorem vars_of_laid {W : World} (h : laidMetH Tryd.prog Rows.fnExactEncodeBytesRow.laid W) : W.var? Tryd.prog "loop.example/g00899/impl.groupCodes" = some varV0.toArray ∧ W.var? Tryd.prog "loop.example/g00899/impl.layouts" = some varV1.toArray := by
  rw [MakeChecks.laidMetH_plain _ _ _ (by kernel_rfl)] at h
  obtain ⟨ps, hl, _⟩ := h
  obtain ⟨g, t, cs, fuel, p0, q0, hg, ht, hvar0, hd0, hl, _⟩ := hl
  obtain rfl := Option.some.inj (gNames0.symm.trans hg)
  obtain rfl := Option.some.inj (tNames0.symm.trans ht)
  rw [laid_is0] at hd0
  replace hvar0 := hvar0.trans (congrArg some (congrArg List.toArray (cells_is0 hd0)))
  obtain ⟨g, t, cs, fuel, p1, q1, hg, ht, hvar1, hd1, hl, _⟩ := hl
  obtain rfl := Option.some.inj (gNames1.symm.trans hg)
  obtain rfl := Option.some.inj (tNames1.symm.trans ht)
  rw [laid_is1] at hd1
  replace hvar1 := hvar1.trans (congrArg some (congrArg List.toArray (cells_is1 hd1)))
  exact ⟨hvar0, hvar1⟩

set_option maxRecDepth 100000 in
theorem contract (H : Type) (enc : TypeId × Value → H) (W : World) (base : Nat) (args : Array Value) (ds gs : List (DataW H)) (before : List MemPlace)
    (hval : ∀ (j : Nat) t v, Tryd.f4.params[j]? = some t → args[j]? = some v → Value.okWide Tryd.prog W .any base t v)
    (hW : DataW.Whole enc Tryd.prog Tryd.f4.params.toList Rows.fnExactEncodeBytesSpec.vars false W args.toList ds gs before) (hL : laidMetH Tryd.prog Rows.fnExactEncodeBytesRow.laid W) :
    Calls Tryd.prog 4 args W fun e W' => ∃ v, e = .returned v ∧ Rows.fnExactEncodeBytesSpec.post enc Tryd.prog Tryd.f4 false true false false W args v W' := by
  have hW' := hW
  obtain ⟨p, q, hA0, hV, rfl, hfz, hnd⟩ := hW
  have hA : DataW.TrodAll enc Tryd.prog W 0 (fun _ => true) true Tryd.f4.params.toList args.toList ds p := hA0
  rw [Tryd.params4] at hA hval
  obtain ⟨v0, vs0, d0, ds0, p0, q0, hargs, rfl, rfl, h0, r0⟩ := trodAll_cons hA
  obtain ⟨v1, vs1, d1, ds1, p1, q1, rfl, rfl, rfl, h1, r1⟩ := trodAll_cons r0
  obtain ⟨v2, vs2, d2, ds2, p2, q2, rfl, rfl, rfl, h2, r2⟩ := trodAll_cons r1
  obtain ⟨rfl, rfl, rfl⟩ := trodAll_nil r2
  obtain rfl : args = #[v0, v1, v2] := by cases args; simp_all
  obtain ⟨a0, rfl, rfl, rfl, w0⟩ := open_int Tryd.underlying2 (hval 0 2 v0 rfl rfl) h0
  obtain ⟨a1, rfl, rfl, rfl, w1⟩ := open_string Tryd.underlying9 (hval 1 9 v1 rfl rfl) h1
  obtain ⟨a2, rfl, rfl, rfl⟩ := open_bool Tryd.underlying4 (hval 2 4 v2 rfl rfl) h2
  obtain ⟨hvar0, hvar1⟩ := vars_of_laid hL
  have hV0 := hV
  obtain ⟨g, t, cs, fuel, dv1, y1, es1, z1, rfl, hg, ht, hv, htr, hV1, rfl⟩ := trodVars_c hV0
  obtain rfl := Option.some.inj (gNames1.symm.trans hg)
  obtain rfl := Option.some.inj (tNames1.symm.trans ht)
  obtain rfl := Option.some.inj (hv.symm.trans hvar1)
  have e1 := DataW.trod_le (Nat.le_max_left fuel 6) htr
  have e2 := DataW.trod_le (Nat.le_max_right fuel 6) (trod_var1 enc W (fun _ => true))
  obtain ⟨rfl, rfl⟩ : dv1 = varD1 ∧ y1 = [] := by
    have := Option.some.inj (e1.symm.trans e2)
    simpa using this
  clear e1 e2 htr hg ht hv
  obtain ⟨g, t, cs, fuel, dv0, y0, es0, z0, rfl, hg, ht, hv, htr, hV2, rfl⟩ := trodVars_c hV1
  obtain rfl := Option.some.inj (gNames0.symm.trans hg)
  obtain rfl := Option.some.inj (tNames0.symm.trans ht)
  obtain rfl := Option.some.inj (hv.symm.trans hvar0)
  have e1 := DataW.trod_le (Nat.le_max_left fuel 6) htr
  have e2 := DataW.trod_le (Nat.le_max_right fuel 6) (trod_var0 enc W (fun _ => true))
  obtain ⟨rfl, rfl⟩ : dv0 = varD0 ∧ y0 = [] := by
    have := Option.some.inj (e1.symm.trans e2)
    simpa using this
  clear e1 e2 htr hg ht hv
  obtain ⟨rfl, rfl⟩ := trodVars_n hV2
  clear hA0
  have tab0 := tab_of_var0 hvar0
  have hlt0 : 1 < W.heap.size := World.block_lt_of_cell? W ⟨1, 0, none⟩ (tab0.cell 0 (by decide))
  have tab1 := tab_of_var1 hvar1
  have hlt1 : 0 < W.heap.size := World.block_lt_of_cell? W ⟨0, 0, none⟩ (tab1.cell 0 (by decide))
  refine (walk a0 a1 a2 W hlt0 tab0 hlt1 tab1 w0 w1).mono fun e W' ⟨he, bel⟩ => ?_
  subst he
  exact ⟨_, rfl, _, _, _, [], [], _, hW', trodAll_mk1 (shut_bool Tryd.underlying4 _), (trodAll_cons_mk (shut_int Tryd.underlying2 w0) (trodAll_cons_mk (shut_string Tryd.underlying9 w1) (trodAll_cons_mk (shut_bool Tryd.underlying4 _) trodAll_mk0))),
    (trodVars_mkc gNames1 tNames1 (var_below1 hlt1 bel hvar1) (trod_var1 enc W' _) (trodVars_mkc gNames0 tNames0 (var_below0 hlt0 bel hvar0) (trod_var0 enc W' _) trodVars_mk0)), bel.frame _, fun h => by cases h⟩

theorem laid_met (os : Os) : laidMetH Tryd.prog Rows.fnExactEncodeBytesRow.laid ((World.doorLaid Tryd.prog 4000 os).forCall (fun _ _ => 0) ⟨#[], #[.int .i64 0, .string ByteArray.empty, .bool false], []⟩).memory := by
  rw [MakeChecks.laidMetH_plain _ _ _ (by kernel_rfl)]
  exact laidMet_of_run' 8 (by kernel_rfl) (by kernel_rfl)
theorem reads (os : Os) {H : Type} (enc : TypeId × Value → H) : ∃ places, DataW.whole enc Tryd.prog ((World.doorLaid Tryd.prog 4000 os).forCall (fun _ _ => 0) ⟨#[], #[.int .i64 0, .string ByteArray.empty, .bool false], []⟩).memory Tryd.f4.params.toList Rows.fnExactEncodeBytesSpec.vars false (#[.int .i64 0, .string ByteArray.empty, .bool false] : Array Value).toList 8 = some ([.lit (.int .i64 0), .lit (.string []), .lit (.bool false)], [varD1, varD0], places) :=
  ⟨MemPlace.row ⟨0, 0, none⟩ varV1.length ++ MemPlace.row ⟨1, 0, none⟩ varV0.length, by kernel_rfl⟩

set_option maxRecDepth 100000 in
theorem lifted (os : Os) (started : os.Started) (H : Type) (enc : TypeId × Value → H) (F : Stop.Interp) :
    ReturnsInHanded {} Tryd.checked os 4 .any ((OpenSpec.ofChange Rows.fnExactEncodeBytesSpec).preRow enc Tryd.prog Tryd.f4 Rows.fnExactEncodeBytesRow.domain false Rows.fnExactEncodeBytesRow.laid) (((OpenSpec.ofChange Rows.fnExactEncodeBytesSpec).at F).post enc Tryd.prog Tryd.f4 false true false false) := by
  obtain ⟨places, hx⟩ := reads os enc
  refine returnsInHanded_of_row (C := Tryd.checked) (s := OpenSpec.ofChange Rows.fnExactEncodeBytesSpec) own started (by kernel_rfl) Tryd.func4
    (witness_row_at (enc := enc) (C := Tryd.checked) false (World.doorLaid Tryd.prog 4000 os) #[.int .i64 0, .string ByteArray.empty, .bool false] rfl (by kernel_rfl) (by kernel_rfl) (by kernel_rfl)
      (OpenSpec.preRow_of_cond 8 hx (by kernel_rfl) (fun k hk => by cases hk) (by kernel_rfl) (laid_met os))) ?_
  intro W base args ds gs before hval hW _ _ _ hL _ _
  exact contract H enc W base args ds gs before hval hW hL

theorem said : Rows.FnExactEncodeBytesSaid :=
  OpenClaim.holds_of_cond 4 Tryd.f4 rfl rfl rfl rfl rfl rfl rfl ⟨rfl, rfl, rfl, rfl, rfl⟩ rfl rfl rfl rfl rfl (by kernel_rfl) Tryd.func4 (by kernel_rfl)
    (of_decide_eq_true (by kernel_rfl)) (by unfold Func.isWrapper; first | (rw [if_pos (by decide +kernel)]; kernel_rfl) | (rw [if_neg (by decide +kernel)]; exact ⟨rfl, rfl⟩))
    (fun os started H enc _ F => by rw [OpenClaim.pre_eq_preRow]; exact lifted os started H enc F)

/-- No parameter wants a stand-in; the program's own looks are off. -/
theorem plain (f : FuncId) (fn : Func) (hf : Tryd.pinned.checked.prog.funcNamed "loop.example/g00899/laws.FnExactEncodeBytes" = some f) (hfn : Tryd.pinned.checked.prog.funcs[f]? = some fn) :
    false = Tryd.pinned.checked.prog.looks [] ∧ ∀ (j : Nat) t, fn.params[j]? = some t → Tryd.pinned.checked.prog.wantsStandIn t = false := by
  obtain rfl : f = 4 := Option.some.inj ((show Tryd.prog.funcNamed "loop.example/g00899/laws.FnExactEncodeBytes" = some 4 by kernel_rfl).symm.trans hf) |>.symm
  obtain rfl : fn = Tryd.f4 := (Option.some.inj (Tryd.func4.symm.trans hfn)).symm
  refine ⟨by kernel_rfl, fun j t ht => ?_⟩
  rw [Tryd.params4] at ht
  have hm : t = 2 ∨ t = 9 ∨ t = 4 := by simpa using Array.mem_of_getElem? ht
  rcases hm with rfl | rfl | rfl
  · exact (show Tryd.prog.wantsStandIn 2 = false by kernel_rfl)
  · exact (show Tryd.prog.wantsStandIn 9 = false by kernel_rfl)
  · exact (show Tryd.prog.wantsStandIn 4 = false by kernel_rfl)

theorem proved : Rows.FnExactEncodeBytesCardSaid :=
  Claim7.holds_tied_plain_at .later [] _ _ _ _ said (fun _ h => by cases h) (by kernel_rfl) (fun _ h => by cases h) fnExactEncodeBytes_row_tie rfl ⟨rfl, rfl⟩ (by kernel_rfl) rfl plain (by kernel_rfl)
end Go.Proofs.YtjifiibaodjflabDoor.fnExactEncodeBytes
