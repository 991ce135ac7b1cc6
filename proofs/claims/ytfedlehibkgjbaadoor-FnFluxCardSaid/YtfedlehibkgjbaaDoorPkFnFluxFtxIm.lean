/- impl.FluxText -/
import Derived.Test.YtfedlehibkgjbaaDoorPkFnFluxFtxSp
import Derived.Test.YtfedlehibkgjbaaDoorPkFnFluxA
import Derived.Deep.AppendSrc
namespace Go.Proofs.YtfedlehibkgjbaaDoor
open Go.RowKit
set_option linter.unusedVariables false
set_option linter.unusedSimpArgs false
set_option maxRecDepth 20000
/-- 'append(times{x, y}, zs...)': there is no room, so a new row. -/
theorem run_appendTwo (w : World) (g : Nat) (x y : Int) (hg : ∀ j u, [Value.int .i64 x, Value.int .i64 y][j]? = some u → w.cell? ⟨g, j, none⟩ = some u) (b off c : Nat) (zs : List Int) (hz : Ints w b off zs) (h1 : 1 ≤ zs.length) (hl : zs.length ≤ 1048576) (ty : TypeId) :
    ∃ cap w', (Builtin.append_ #[50, 22] ty #[.slice (some ⟨g, 0, none⟩) 2 2, .slice (some ⟨b, off, none⟩) zs.length c]).run Tryd.prog w = .ok (.slice (some ⟨w.heap.size, 0, none⟩) (2 + zs.length) cap) w' ∧ SlA w' (some ⟨w.heap.size, 0, none⟩) (x :: y :: zs) ∧ Below w.heap.size w w' := by
  obtain ⟨i0, hi, hz0, hz1, hz2⟩ := info_parts i64info
  have hn : ¬ (2 + zs.length ≤ 2) := by omega
  have h63' : ¬ (9223372036854775807 < ((2 : Int) + (zs.length : Int))) := by omega
  have hnews : ∀ j u, (zs.map (Value.int .i64))[j]? = some u → w.drew.cell? ((⟨b, off, none⟩ : Addr).add j) = some u := by
    intro j u hu
    simp only [List.getElem?_map, Option.map_eq_some_iff] at hu
    obtain ⟨z, hz', rfl⟩ := hu
    have e : (⟨b, off, none⟩ : Addr).add j = ⟨b, off + j, none⟩ := by unfold Addr.add; split <;> simp_all
    rw [e]
    exact hz j z hz'
  have holds : ∀ j u, [Value.int .i64 x, Value.int .i64 y][j]? = some u → w.drew.cell? ((⟨g, 0, none⟩ : Addr).add j) = some u := by
    intro j u hu
    rw [add0]
    exact hg j u hu
  have hf := run_firstCells_some (P := Tryd.prog) w.drew i0.size zs.length ⟨b, off, none⟩ zs.length c (zs.map (Value.int .i64)) (by rw [hz1]; simp) hnews
  have hfo := run_firstCells_some (P := Tryd.prog) w.drew i0.size 2 ⟨g, 0, none⟩ 2 2 [Value.int .i64 x, Value.int .i64 y] (by rw [hz1]; rfl) holds
  have h48' : ¬ (281474976710656 < Builtin.nextslicecap (2 + zs.length) 2 * i0.bytes) := by
    have := growslice_fits (need := 2 + zs.length) (old := 2) (bytes := i0.bytes) (by omega) (by rw [hz2]; omega)
    omega
  refine ⟨grownCap w (2 + zs.length) 2 2, w.drew.alloc (.cells (([Value.int .i64 x, Value.int .i64 y] ++ zs.map (Value.int .i64)).toArray ++ Builtin.zeroCells (Value.int IntKind.i64 0).cells (grownCap w (2 + zs.length) 2 2 - (2 + zs.length))) 2), ?_, ?_, Below.alloc (Below.refl _ w).drew (Nat.le_refl _) _⟩
  · simp [Builtin.append_, run_underlying Tryd.underlying50, run_underlying Tryd.underlying22, sizeOf, typeInfo, zeroValue, hi, hz0, Builtin.lenOf, hn, h63', h48', Question.forced, hf, hfo, newRow, grownCap]
    congr 2
    apply Array.ext'
    simp
  · refine .inr ⟨w.heap.size, 0, rfl, by simp, ?_⟩
    intro j u hu
    rw [Nat.zero_add]
    have e := heap_alloc_new w.drew (.cells (([Value.int .i64 x, Value.int .i64 y] ++ zs.map (Value.int .i64)).toArray ++ Builtin.zeroCells (Value.int IntKind.i64 0).cells (grownCap w (2 + zs.length) 2 2 - (2 + zs.length))) 2)
    have e2 : w.drew.heap.size = w.heap.size := rfl
    rw [e2] at e
    simp only [World.cell?, e]
    have hj : j < (([Value.int .i64 x, Value.int .i64 y] ++ zs.map (Value.int .i64)).toArray).size := by
      have := (List.getElem?_eq_some_iff.1 hu).1
      simp at this ⊢
      omega
    rw [Array.getElem?_append_left hj]
    have e3 : ([Value.int .i64 x, Value.int .i64 y] ++ zs.map (Value.int .i64)) = (x :: y :: zs).map (Value.int .i64) := by simp
    rw [e3]
    have e4 : (((x :: y :: zs).map (Value.int .i64)).toArray)[j]? = some (Value.int .i64 u) := by
      simp only [List.getElem?_toArray, List.getElem?_map, hu]
      rfl
    exact e4
section
variable {ops : Array Oper} {o : Oper} {a : Act} {Q : Exit → Act → World → Prop} {w : World}
theorem wpList_appendTwo {rest : List Oper} (hgd : o.guard = none) (s t : Operand) (ho : o.op = .call { callee := .builtin .append, args := #[s, t], argTypes := #[50, 22] })
    (g : Nat) (x y : Int) (hs : a.eval s = .slice (some ⟨g, 0, none⟩) 2 2) (hg : ∀ j u, [Value.int .i64 x, Value.int .i64 y][j]? = some u → w.cell? ⟨g, j, none⟩ = some u)
    (b off c : Nat) (zs : List Int) (ht : a.eval t = .slice (some ⟨b, off, none⟩) zs.length c) (hz : Ints w b off zs) (h1 : 1 ≤ zs.length) (hl : zs.length ≤ 1048576)
    (h : ∀ cap w', SlA w' (some ⟨w.heap.size, 0, none⟩) (x :: y :: zs) → Below w.heap.size w w' → wpList Tryd.prog ops Q rest (a.put o.dst (.slice (some ⟨w.heap.size, 0, none⟩) (2 + zs.length) cap)) w') : wpList Tryd.prog ops Q (o :: rest) a w := by
  refine wpList_plain hgd fun K hK => ?_
  obtain ⟨cap, w', hr, h2, h3⟩ := run_appendTwo w g x y hg b off c zs hz h1 hl o.type
  unfold Oper.wp execOp
  simp only [ho, resolve, invoke, builtin, Sem.run_bind, Sem.run_pure, Result.andThen_ok, List.map_toArray, List.map_cons, List.map_nil, hs, ht, hr]
  exact hK _ _ (h cap w' h2 h3)
end
set_option maxHeartbeats 4000000 in
theorem fluxText_any (c f : Int) (a : Option Addr) (cap : Nat) (zs : List Int) (hl : zs.length ≤ 1048576) (w : World) (h : SlA w a zs) (hw : 0 < w.heap.size) (htab : PowTab w) :
    Calls Tryd.prog 16 #[.agg #[.int .i64 c, .int .i64 f, .slice a zs.length cap]] w fun e w' => e = .returned (.string (fluxT c f zs)) ∧ Below w.heap.size w w' := by
  have c1 := fun w' (hb : Below w.heap.size w w') => validFlux_any c f a zs cap w' hl (h.below hb (Nat.le_refl _))
  have BX := Lib.hid (BoxAt.new w #[.int .i64 c, .int .i64 f, .slice a zs.length cap] 24 w.heap.size rfl)
  unfold fluxT
  by_cases hv : fluxOk c f zs = true
  case neg =>
    have hvf : fluxOk c f zs = false := by simpa using hv
    rw [if_neg hv]
    rw [hvf] at c1
    have C1 := Lib.hid c1
    clear c1 hv hvf h
    go_enter Tryd.func16, Tryd.ntmps16
    go_wp2_with fail
    refine (C1.out _ ((Below.refl _ _).alloc (Nat.le_refl _) _)).mono ?_
    rintro e w1 ⟨rfl, hb1⟩
    go_wp2
    go_ret
    exact ⟨rfl, Below.trans ((Below.refl _ _).alloc (Nat.le_refl _) _) (hb1.mono (by simp))⟩
  case pos =>
    have hx := fluxOk_bds hv
    obtain ⟨_, ⟨hn1, hn2⟩, _⟩ := fluxOk_iff.1 hv
    rw [if_pos hv]
    rw [hv] at c1
    have C1 := Lib.hid c1
    obtain ⟨b, off, rfl, hbw, hints⟩ : ∃ b off, a = some ⟨b, off, none⟩ ∧ b < w.heap.size ∧ Ints w b off zs := by
      rcases h with rfl | h
      · simp at hn1
      · exact h
    have HI := Lib.hid hints
    have TX := Lib.hid (fun W d (hb : Below w.heap.size w W) (g : Nat) (hs : SlA W (some ⟨g, 0, none⟩) (c :: f :: zs)) => timesText8_any (c :: f :: zs) (some ⟨g, 0, none⟩) d (by simp; omega) hx W hs (htab.below hb))
    have hlen : (c :: f :: zs).length = 2 + zs.length := by simp; omega
    rw [hlen] at TX
    have hlen2 : zs.length + 2 = 2 + zs.length := by omega
    rw [hlen2]
    clear c1 hv h hints hx htab hlen hlen2
    go_enter Tryd.func16, Tryd.ntmps16
    go_wp2_with fail
    refine (C1.out _ ((Below.refl _ _).alloc (Nat.le_refl _) _)).mono ?_
    rintro e w1 ⟨rfl, hb1⟩
    have F1 := Lib.hid (show Below w.heap.size w w1 from Below.trans ((Below.refl _ _).alloc (Nat.le_refl _) _) (hb1.mono (by simp)))
    have hlt : w.heap.size < w1.heap.size := by have := hb1.size; simp at this; omega
    replace BX := Lib.hid (BX.out.below hb1 (by simp))
    clear hb1
    have q0 := BX.out 0 _ rfl
    have q1 := BX.out 1 _ rfl
    have q2 := BX.out 2 _ rfl
    have BB := Lib.hid ((Below.refl w1.heap.size w1).alloc (Nat.le_refl _) (.cells #[.int .i64 c, .int .i64 f] 2))
    have q2' := (BX.out.below BB.out hlt) 2 _ rfl
    have F2 := Lib.hid (F1.out.trans (BB.out.mono F1.out.size))
    have HG := Lib.hid (show ∀ j u, [Value.int .i64 c, Value.int .i64 f][j]? = some u → (w1.alloc (.cells #[.int .i64 c, .int .i64 f] 2)).cell? ⟨w1.heap.size, j, none⟩ = some u from by
      intro j u hu
      simp only [World.cell?, heap_alloc_new]
      simpa using hu)
    have HZ2 := Lib.hid (HI.out.below F2.out hbw)
    go_wp2_with (at_builtin; refine wpList_appendTwo rfl _ _ rfl w1.heap.size c f rfl HG.out b off cap zs rfl HZ2.out hn1 hl ?_)
    intro cap2 w2 hs2 hb2
    have F3 := Lib.hid (F2.out.trans (hb2.mono (by have := F2.out.size; simp at this ⊢; omega)))
    have HS2 := Lib.hid hs2
    clear q0 q1 q2 q2' hs2 hb2
    generalize w1.heap.size + 1 = g2 at HS2 ⊢
    go_wp2_with fail
    refine (TX.out _ _ F3.out _ HS2.out).mono ?_
    rintro e w3 ⟨rfl, hb3⟩
    have F4 := Lib.hid (F3.out.trans (hb3.mono F3.out.size))
    clear hb3
    go_wp2
    go_ret
    exact ⟨rfl, F4.out⟩
end Go.Proofs.YtfedlehibkgjbaaDoor
