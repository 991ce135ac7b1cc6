/- impl.RotateFlux -/
import Derived.RangeFuncBox
import Derived.Laws.CopyOwn
import Derived.Laws.CopyRow
import Derived.Laws.MakeOwn
import Derived.Test.YtfedlehibkgjbaaDoorPkFnFluxC
import Derived.Test.YtfedlehibkgjbaaDoorPkFnFluxSliceCells
import Derived.Test.YtfedlehibkgjbaaDoorPkFnFluxSpecRotFlux
namespace Go.Proofs.YtfedlehibkgjbaaDoor
open Go.RowKit
open Go.Shelf
set_option linter.unusedVariables false
set_option linter.unusedSimpArgs false
theorem boxB {B p : Nat} {w w' : World} {t : TypeId} {v : Value} (h : Boxed w p t v) (hb : Below B w w') (hp : p < B) : Boxed w' p t v := (hb.block p hp).trans h
set_option maxHeartbeats 2000000 in
theorem rotateFlux_no1 (c f : Int) (a : Option Addr) (cap : Nat) (zs : List Int) (b : Int) (hl : zs.length ≤ 1048576) (hv : fluxOk c f zs = false) (w : World) (h : SlA w a zs) :
    Calls Tryd.prog 19 #[.agg #[.int .i64 c, .int .i64 f, .slice a zs.length cap], .int .i64 b] w (FluxRes (.none 1) w) := by
  have c1 := fun w' (hb : Below w.heap.size w w') => validFlux_any c f a zs cap w' hl (h.below hb (Nat.le_refl _))
  rw [hv] at c1
  have C1 := Lib.hid c1; clear c1 h hv
  go_enter Tryd.func19, Tryd.ntmps19
  go_wp2_with fail
  refine (C1.out _ (by go_grown)).mono ?_
  rintro e w1 ⟨rfl, hb1⟩
  have hb2 : Below w.heap.size w w1 := Below.trans (by go_grown) (hb1.mono (by simp; omega))
  have hz : ZeroAt w1 (w.heap.size + 2) := (ZeroAt.new _ (w.heap.size + 2) (by simp)).below hb1 (by simp)
  obtain ⟨z0, z1, z2, y0, y1, y2⟩ := hz.facts
  clear hb1 hz
  go_wp2
  refine bodyPost_ret (v := .tuple #[.agg #[.int .i64 0, .int .i64 0, .slice none 0 0], .int .i64 1]) (by simp [results, Tryd.results19, go_sem, z0, z1, z2]) rfl ⟨none, 0, rfl, .inl rfl, below_set3 hb2 (by omega) _ _ _⟩
set_option maxHeartbeats 2000000 in
theorem rotateFlux_no2 (c f : Int) (a : Option Addr) (cap : Nat) (zs : List Int) (b : Int) (hl : zs.length ≤ 1048576) (hv : fluxOk c f zs = true) (hn : inB 0 (zs.sum - 1) b = false) (w : World) (h : SlA w a zs) :
    Calls Tryd.prog 19 #[.agg #[.int .i64 c, .int .i64 f, .slice a zs.length cap], .int .i64 b] w (FluxRes (.none 2) w) := by
  have c1 := fun w' (hb : Below w.heap.size w w') => validFlux_any c f a zs cap w' hl (h.below hb (Nat.le_refl _))
  have c2 := fun w' (hb : Below w.heap.size w w') => revolutionOf_any c f a zs cap w' hl (h.below hb (Nat.le_refl _))
  have er : revOf c f zs = zs.sum := by unfold revOf; rw [if_pos hv]
  rw [hv] at c1
  rw [er] at c2
  obtain ⟨_, ⟨hz1, hz4⟩, hz, hsum, hf0, hf1⟩ := fluxOk_iff.1 hv
  have hsum0 : 0 ≤ zs.sum := by have := (sum_bd hz zs.length).1; rwa [List.take_length] at this
  have c3 := fun w T x hx => within_b 0 (zs.sum - 1) b w T x hx
  rw [hn] at c3
  have ew : wrap64 (zs.sum - 1) = zs.sum - 1 := by unfold wrap64; omega
  have C1 := Lib.hid c1; have C2 := Lib.hid c2; have C3 := Lib.hid c3; clear c1 c2 c3 h hv hz hn er
  go_enter Tryd.func19, Tryd.ntmps19
  go_wp2_with fail
  refine (C1.out _ (by go_grown)).mono ?_
  rintro e w1 ⟨rfl, hb1⟩
  obtain ⟨W, hW⟩ : ∃ W, (((w.alloc (.cells #[.int .i64 c, .int .i64 f, .slice a zs.length cap] 24)).alloc (.cells #[.int .i64 b] 2)).alloc (.cells #[.int .i64 0, .int .i64 0, .slice none 0 0] 24)) = W := ⟨_, rfl⟩
  have hb2 : Below w.heap.size w w1 := Below.trans (by go_grown) (hb1.mono (by simp; omega))
  have hz : ZeroAt w1 (w.heap.size + 2) := (ZeroAt.new _ (w.heap.size + 2) (by simp)).below hb1 (by simp)
  have hfl : FluxAt w1 w.heap.size c f a zs.length cap := ((FluxAt.new w c f a zs.length cap 24 w.heap.size rfl).below (B := w.heap.size + 1) (Below.alloc (Below.alloc (Below.refl _ _) (by simp) _) (by simp) _) (by omega)).below hb1 (by simp; omega)
  have hbo : Boxed w1 (w.heap.size + 1) 2 (.int .i64 b) := boxB (by unfold Boxed; rw [Below.heap_alloc _ _ _ (by simp)]; exact heap_alloc_new' _ _ _ (by simp)) hb1 (by simp)
  clear hW
  have q0 := hbo.cell
  obtain ⟨x0, x1, x2⟩ := hfl
  have HA := Lib.hid (And.intro hz (And.intro hb2 (And.intro hbo (show FluxAt w1 w.heap.size c f a zs.length cap from ⟨x0, x1, x2⟩)))); clear hb1 hz hb2 hbo
  go_wp2_with fail
  refine (C2.out _ HA.out.2.1).mono ?_
  rintro e w2 ⟨rfl, hb3⟩
  have hb4 : Below w.heap.size w w2 := HA.out.2.1.trans (hb3.mono HA.out.2.1.size)
  have hlt := HA.out.1.lt
  have q1 := (boxB HA.out.2.2.1 hb3 (by omega)).cell
  have HZ := Lib.hid (And.intro (HA.out.1.below hb3 hlt) hb4); clear hb3 hb4
  go_wp2_with fail
  refine (C3.out _ _ _ (by simp)).mono ?_
  rintro e w3 ⟨rfl, hb5⟩
  have hb6 : Below w.heap.size w w3 := HZ.out.2.trans (hb5.mono HZ.out.2.size)
  have hlt2 := HZ.out.1.lt
  obtain ⟨z0, z1, z2, y0, y1, y2⟩ := (HZ.out.1.below hb5 hlt2).facts
  clear hb5
  go_wp2
  refine bodyPost_ret (v := .tuple #[.agg #[.int .i64 0, .int .i64 0, .slice none 0 0], .int .i64 2]) (by simp [results, Tryd.results19, go_sem, z0, z1, z2]) rfl ⟨none, 0, rfl, .inl rfl, below_set3 hb6 (by omega) _ _ _⟩
theorem two_boxes (w : World) (o1 o2 : Obj) : ((w.alloc o1).alloc o2).drew.heap[w.heap.size]? = some o1 ∧ ((w.alloc o1).alloc o2).drew.heap[w.heap.size + 1]? = some o2 ∧ Below w.heap.size w ((w.alloc o1).alloc o2).drew ∧ ((w.alloc o1).alloc o2).drew.heap.size = w.heap.size + 2 := by
  refine ⟨?_, ?_, (((Below.refl _ w).alloc (Nat.le_refl _) _).alloc (by simp) _).drew, by simp [World.drew]⟩
  · show ((w.alloc o1).alloc o2).heap[w.heap.size]? = some o1
    rw [Below.heap_alloc _ _ _ (by simp)]; exact heap_alloc_new w o1
  · show ((w.alloc o1).alloc o2).heap[w.heap.size + 1]? = some o2
    exact heap_alloc_new' _ _ _ (by simp)
end Go.Proofs.YtfedlehibkgjbaaDoor
