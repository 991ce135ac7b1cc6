/- Own copies of a device: slices.Clone over int64, spec.l00Own, (impl.Device).clone, spec.l15Own -/
import Derived.Test.YtllcbiafghhcmaaPkFnDeviceOrderNestDevice
import Derived.Test.YtllcbiafghhcmaaPkFnDeviceOrderDiscOwn
import Derived.Test.YtllcbiafghhcmaaPkFnDeviceOrderMadeAt
import Derived.Deep.RegionLaw
import Derived.Deep.DeepCutAuto
namespace Go.Proofs.Ytllcbiafghhcmaa
open Go.RowKit
set_option linter.unusedVariables false
set_option linter.unusedSimpArgs false
set_option maxRecDepth 20000
/-- Block g, from B on, begins with these numbers. -/
def OwnBlkI (w : World) (B g : Nat) (zs : List Int) : Prop := ∃ rest : Array Value, B ≤ g ∧ w.heap[g]? = some (.cells ((zs.map (Value.int .i64)).toArray ++ rest) 2 (0, 0))
theorem OwnBlkI.lt {w : World} {B g : Nat} {zs : List Int} (h : OwnBlkI w B g zs) : g < w.heap.size := by
  obtain ⟨rest, _, hh⟩ := h
  exact (Array.getElem?_eq_some_iff.1 hh).1
theorem OwnBlkI.below {w w' : World} {B C g : Nat} {zs : List Int} (h : OwnBlkI w B g zs) (hb : Below C w w') (hC : g < C) : OwnBlkI w' B g zs := by
  obtain ⟨rest, h1, hh⟩ := h
  exact ⟨rest, h1, by rw [hb.block g hC]; exact hh⟩
theorem OwnBlkI.keep {w w' : World} {B g : Nat} {zs : List Int} (h : OwnBlkI w B g zs) (hk : w'.heap[g]? = w.heap[g]?) : OwnBlkI w' B g zs := by
  obtain ⟨rest, h1, hh⟩ := h
  exact ⟨rest, h1, by rw [hk]; exact hh⟩
theorem OwnBlkI.mono {w : World} {B B' g : Nat} {zs : List Int} (h : OwnBlkI w B g zs) (hB : B' ≤ B) : OwnBlkI w B' g zs := by
  obtain ⟨rest, h1, hh⟩ := h
  exact ⟨rest, by omega, hh⟩
theorem OwnBlkI.sli {w : World} {B g : Nat} {zs : List Int} (h : OwnBlkI w B g zs) : SlI w B w.heap.size (some ⟨g, 0, none⟩) zs := by
  have hl := h.lt
  obtain ⟨rest, h1, hh⟩ := h
  exact .inr ⟨g, rest, rfl, h1, hl, hh⟩
theorem OwnBlkI.cell {w : World} {B g : Nat} {zs : List Int} (h : OwnBlkI w B g zs) {k : Nat} {z : Int} (hk : zs[k]? = some z) : w.cell? ⟨g, k, none⟩ = some (.int .i64 z) := by
  obtain ⟨rest, h1, hh⟩ := h
  have hi : k < zs.length := (List.getElem?_eq_some_iff.1 hk).1
  obtain ⟨_, e⟩ := List.getElem?_eq_some_iff.1 hk
  simp [World.cell?, hh, Array.getElem?_append, hi, e]
theorem OwnBlkI.free {w : World} {B g : Nat} {zs : List Int} (h : OwnBlkI w B g zs) (i : Nat) : w.frozen? ⟨g, i, none⟩ = false := by
  obtain ⟨rest, h1, hh⟩ := h
  simp [World.frozen?, hh]
theorem OwnBlkI.put {w : World} {B g : Nat} {zs : List Int} (h : OwnBlkI w B g zs) (i : Nat) (z : Int) (hi : i < zs.length) : OwnBlkI (w.setCell ⟨g, i, none⟩ (.int .i64 z)) B g (zs.set i z) := by
  obtain ⟨rest, h1, hh⟩ := h
  refine ⟨rest, h1, ?_⟩
  rw [heap_set_row w g i _ _ _ hh]
  congr 2
  apply Array.ext'
  simp only [Array.toList_setIfInBounds, Array.toList_append]
  rw [List.set_append_left _ _ (by simpa using hi)]
  simp [List.map_set]
theorem OwnBlkI.ofO {w : World} {B g : Nat} {zs : List Int} (hne : zs ≠ []) (h : SlO w B (some ⟨g, 0, none⟩) zs) : OwnBlkI w B g zs := by
  rcases h with h0 | ⟨g', rest, hg, h1, hh⟩
  · exact absurd h0 hne
  · cases hg
    exact ⟨rest, h1, hh⟩
theorem eqlNilInt (a : Option Addr) (l c : Nat) (w : World) : (binOp .eql 29 (.slice a l c) (.slice none 0 0)).run Try.prog w = .ok (.bool a.isNone) w := by
  have h := run_equal_slice_nil (P := Try.prog) w 29 2 a l c Try.underlying29
  simp only [binOp, Sem.run_bind, h, Result.andThen_ok, Sem.run_pure]
theorem ints_one (zs : List Int) : ∀ u ∈ zs.map (Value.int .i64), u.oneCell' = true := by
  intro u hu
  obtain ⟨z, _, rfl⟩ := List.mem_map.1 hu
  rfl
set_option maxHeartbeats 4000000 in
theorem clone64_any (a : Option Addr) (zs : List Int) (c : Nat) (w : World) (hm : zs.length ≤ 1048576) (hne : zs ≠ []) (h : SlA w a zs) :
    Calls Try.prog 73 #[.slice a zs.length c] w fun e w' => ∃ g cap, e = .returned (.slice (some ⟨g, 0, none⟩) zs.length cap) ∧ OwnBlkI w' w.heap.size g zs ∧ Below w.heap.size w w' := by
  obtain ⟨i0, hi, hz0, hz1, hz2⟩ := info_parts i64info
  rcases h with h0 | ⟨b, off, rfl, hbl, hc⟩
  · exact absurd h0 hne
  have HCE := Lib.hid (show ∀ w', Below w.heap.size w w' → ∀ (j : Nat) (u : Value), (zs.map (Value.int .i64))[j]? = some u → w'.cell? ⟨b, off + j, none⟩ = some u from fun w' hb j u hu => by
    obtain ⟨z, hz, rfl⟩ := by simpa using hu
    rw [hb.cell (p := ⟨b, off + j, none⟩) hbl]
    exact hc j z hz); clear hc
  have hpos : 0 < zs.length := List.length_pos_iff.2 hne
  have HI := Lib.hid (And.intro hi (And.intro hz0 (And.intro hz1 hz2))); clear hi hz0 hz1 hz2
  have HNE := Lib.hid hne; clear hne
  have hnil : ∀ w, (binOp .eql 29 (.slice (some ⟨b, off, none⟩) zs.length c) (.slice none 0 0)).run Try.prog w = .ok (.bool false) w := fun w => eqlNilInt _ _ _ w
  go_enter Try.func73, Try.ntmps73
  go_wp2_with (at_builtin; go_must (refine wpList_append_lies _ rfl _ _ 29 rfl w.heap.size 2 i0 (.int .i64 0) 1 8 Try.underlying29 HI.out.1 HI.out.2.1 HI.out.2.2.1 HI.out.2.2.2 rfl (by decide) _ 0 [] rfl (OwnI.empty w w.heap.size (Nat.le_refl _)) ⟨b, off, none⟩ zs.length c (zs.map (Value.int .i64)) rfl ?c1 ?c2 ?c3 ?c4 ?c5 ?c6 ?c7 _ rfl ?_))
  case c1 => simp
  case c2 => exact fun j u hu => by rw [add_plain]; exact HCE.out _ ((Below.refl _ _).alloc (Nat.le_refl _) _) j u hu
  case c3 => exact ints_one zs
  case c4 => exact hpos
  case c5 => unfold maxLen; omega
  case c6 => omega
  case c7 => simp
  intro g cap w3 hown hgrow hg hgl
  try simp only [Nat.zero_add]
  have hb3 : Below w.heap.size w w3 := Below.trans ((Below.refl _ _).alloc (Nat.le_refl _) _) (OwnI.belowOf (OwnI.empty w w.heap.size (Nat.le_refl _)) (by simp) hgrow)
  have HO := Lib.hid (show OwnBlkI w3 w.heap.size g zs from by
    have h1 : OwnI w3 w.heap.size (.slice (some ⟨g, 0, none⟩) zs.length cap) zs := by unfold OwnI; simpa using hown
    obtain ⟨a', c', hv, hs⟩ := h1.slO
    cases hv
    exact OwnBlkI.ofO HNE.out hs)
  clear hown hgrow hg
  go_wp2
  go_ret
  exact ⟨g, cap, rfl, HO.out, hb3⟩
set_option maxHeartbeats 4000000 in
theorem l00Own_any (a : Option Addr) (zs : List Int) (c : Nat) (w : World) (hm : zs.length ≤ 1048576) (hne : zs ≠ []) (h : SlA w a zs) :
    Calls Try.prog 98 #[.slice a zs.length c] w fun e w' => ∃ g cap, e = .returned (.slice (some ⟨g, 0, none⟩) zs.length cap) ∧ OwnBlkI w' w.heap.size g zs ∧ Below w.heap.size w w' := by
  obtain ⟨i0, hi, hz0, hz1, hz2⟩ := info_parts i64info
  rcases h with h0 | ⟨b, off, rfl, hbl, hc⟩
  · exact absurd h0 hne
  have HCE := Lib.hid (show ∀ w', Below w.heap.size w w' → ∀ (j : Nat) (u : Value), (zs.map (Value.int .i64))[j]? = some u → w'.cell? ⟨b, off + j, none⟩ = some u from fun w' hb j u hu => by
    obtain ⟨z, hz, rfl⟩ := by simpa using hu
    rw [hb.cell (p := ⟨b, off + j, none⟩) hbl]
    exact hc j z hz); clear hc
  have hpos : 0 < zs.length := List.length_pos_iff.2 hne
  have HI := Lib.hid (And.intro hi (And.intro hz0 (And.intro hz1 hz2))); clear hi hz0 hz1 hz2
  have HNE := Lib.hid hne; clear hne
  go_enter Try.func98, Try.ntmps98
  go_wp2_with (at_builtin; go_must (refine wpList_append_lies _ rfl _ _ 29 rfl w.heap.size 2 i0 (.int .i64 0) 1 8 Try.underlying29 HI.out.1 HI.out.2.1 HI.out.2.2.1 HI.out.2.2.2 rfl (by decide) _ 0 [] rfl (OwnI.empty w w.heap.size (Nat.le_refl _)) ⟨b, off, none⟩ zs.length c (zs.map (Value.int .i64)) rfl ?c1 ?c2 ?c3 ?c4 ?c5 ?c6 ?c7 _ rfl ?_))
  case c1 => simp
  case c2 => exact fun j u hu => by rw [add_plain]; exact HCE.out _ ((Below.refl _ _).alloc (Nat.le_refl _) _) j u hu
  case c3 => exact ints_one zs
  case c4 => exact hpos
  case c5 => unfold maxLen; omega
  case c6 => omega
  case c7 => simp
  intro g cap w3 hown hgrow hg hgl
  try simp only [Nat.zero_add]
  have hb3 : Below w.heap.size w w3 := Below.trans ((Below.refl _ _).alloc (Nat.le_refl _) _) (OwnI.belowOf (OwnI.empty w w.heap.size (Nat.le_refl _)) (by simp) hgrow)
  have HO := Lib.hid (show OwnBlkI w3 w.heap.size g zs from by
    have h1 : OwnI w3 w.heap.size (.slice (some ⟨g, 0, none⟩) zs.length cap) zs := by unfold OwnI; simpa using hown
    obtain ⟨a', c', hv, hs⟩ := h1.slO
    cases hv
    exact OwnBlkI.ofO HNE.out hs)
  clear hown hgrow hg
  go_wp2
  go_ret
  exact ⟨g, cap, rfl, HO.out, hb3⟩
/-- A copy of a device whose two rows are the call's own. -/
def DevOwn (x : DeviceV) (w : World) (e : Ending) (w' : World) : Prop := ∃ g0 g1 d0 d1, e = .returned (.agg #[.int .i64 x.f0.f0, .int .i64 x.f0.f1, .int .i64 x.f0.f2, .int .i64 x.f0.f3, .slice (some ⟨g0, 0, none⟩) x.f0.f4.length d0, .int .i64 x.f1, .int .i64 x.f2, .slice (some ⟨g1, 0, none⟩) x.f3.length d1]) ∧ OwnBlk w' w.heap.size g0 x.f0.f4 ∧ OwnBlkI w' w.heap.size g1 x.f3 ∧ Below w.heap.size w w'
set_option maxHeartbeats 8000000 in
theorem cloneDev_any (x : DeviceV) (s0 s1 : Option Addr) (c0 c1 : Nat) (w : World) (hL : LenDevice 1048576 x) (h0 : x.f0.f4 ≠ []) (h1 : x.f3 ≠ []) (h : SlDevice w s0 s1 x) :
    Calls Try.prog 38 #[.agg #[.int .i64 x.f0.f0, .int .i64 x.f0.f1, .int .i64 x.f0.f2, .int .i64 x.f0.f3, .slice s0 x.f0.f4.length c0, .int .i64 x.f1, .int .i64 x.f2, .slice s1 x.f3.length c1]] w (DevOwn x w) := by
  have CS := Lib.hid (fun w' (hb : Below w.heap.size w w') => clone_any s0 x.f0.f4 c0 w' hL.1 h0 (h.1.below hb (Nat.le_refl _)))
  have CM := Lib.hid (fun w' (hb : Below w.heap.size w w') => clone64_any s1 x.f3 c1 w' hL.2 h1 (h.2.below hb (Nat.le_refl _)))
  clear h hL h0 h1
  go_enter Try.func38, Try.ntmps38
  go_wp2
  go_region_law (first
    | (go_simp; go_at_call 51; (with_reducible refine (CS.out _ (by go_grown)).mono ?_); rintro e w1 ⟨g0, d0, rfl, ho0, hb1⟩; go_wp2_with fail; have m0 : w1.cell? ⟨w.heap.size, 0, none⟩ = some (.int .i64 x.f0.f0) := by { rw [hb1.cell (p := ⟨w.heap.size, 0, none⟩) (by simp <;> omega)]; simp [go_sem] }; have n0 : w1.frozen? ⟨w.heap.size, 0, none⟩ = false := by { rw [hb1.frozen (p := ⟨w.heap.size, 0, none⟩) (by simp <;> omega)]; simp [go_sem] }; have r0 : w1.cell? ⟨w.heap.size + 1, 0, none⟩ = some (.int .i64 0) := by { rw [hb1.cell (p := ⟨w.heap.size + 1, 0, none⟩) (by simp <;> omega)]; simp [go_sem] }; have y0 : w1.frozen? ⟨w.heap.size + 1, 0, none⟩ = false := by { rw [hb1.frozen (p := ⟨w.heap.size + 1, 0, none⟩) (by simp <;> omega)]; simp [go_sem] }; have m1 : w1.cell? ⟨w.heap.size, 1, none⟩ = some (.int .i64 x.f0.f1) := by { rw [hb1.cell (p := ⟨w.heap.size, 1, none⟩) (by simp <;> omega)]; simp [go_sem] }; have n1 : w1.frozen? ⟨w.heap.size, 1, none⟩ = false := by { rw [hb1.frozen (p := ⟨w.heap.size, 1, none⟩) (by simp <;> omega)]; simp [go_sem] }; have r1 : w1.cell? ⟨w.heap.size + 1, 1, none⟩ = some (.int .i64 0) := by { rw [hb1.cell (p := ⟨w.heap.size + 1, 1, none⟩) (by simp <;> omega)]; simp [go_sem] }; have y1 : w1.frozen? ⟨w.heap.size + 1, 1, none⟩ = false := by { rw [hb1.frozen (p := ⟨w.heap.size + 1, 1, none⟩) (by simp <;> omega)]; simp [go_sem] }; have m2 : w1.cell? ⟨w.heap.size, 2, none⟩ = some (.int .i64 x.f0.f2) := by { rw [hb1.cell (p := ⟨w.heap.size, 2, none⟩) (by simp <;> omega)]; simp [go_sem] }; have n2 : w1.frozen? ⟨w.heap.size, 2, none⟩ = false := by { rw [hb1.frozen (p := ⟨w.heap.size, 2, none⟩) (by simp <;> omega)]; simp [go_sem] }; have r2 : w1.cell? ⟨w.heap.size + 1, 2, none⟩ = some (.int .i64 0) := by { rw [hb1.cell (p := ⟨w.heap.size + 1, 2, none⟩) (by simp <;> omega)]; simp [go_sem] }; have y2 : w1.frozen? ⟨w.heap.size + 1, 2, none⟩ = false := by { rw [hb1.frozen (p := ⟨w.heap.size + 1, 2, none⟩) (by simp <;> omega)]; simp [go_sem] }; have m3 : w1.cell? ⟨w.heap.size, 3, none⟩ = some (.int .i64 x.f0.f3) := by { rw [hb1.cell (p := ⟨w.heap.size, 3, none⟩) (by simp <;> omega)]; simp [go_sem] }; have n3 : w1.frozen? ⟨w.heap.size, 3, none⟩ = false := by { rw [hb1.frozen (p := ⟨w.heap.size, 3, none⟩) (by simp <;> omega)]; simp [go_sem] }; have r3 : w1.cell? ⟨w.heap.size + 1, 3, none⟩ = some (.int .i64 0) := by { rw [hb1.cell (p := ⟨w.heap.size + 1, 3, none⟩) (by simp <;> omega)]; simp [go_sem] }; have y3 : w1.frozen? ⟨w.heap.size + 1, 3, none⟩ = false := by { rw [hb1.frozen (p := ⟨w.heap.size + 1, 3, none⟩) (by simp <;> omega)]; simp [go_sem] }; have m4 : w1.cell? ⟨w.heap.size, 4, none⟩ = some (.slice s0 x.f0.f4.length c0) := by { rw [hb1.cell (p := ⟨w.heap.size, 4, none⟩) (by simp <;> omega)]; simp [go_sem] }; have n4 : w1.frozen? ⟨w.heap.size, 4, none⟩ = false := by { rw [hb1.frozen (p := ⟨w.heap.size, 4, none⟩) (by simp <;> omega)]; simp [go_sem] }; have r4 : w1.cell? ⟨w.heap.size + 1, 4, none⟩ = some (.slice none 0 0) := by { rw [hb1.cell (p := ⟨w.heap.size + 1, 4, none⟩) (by simp <;> omega)]; simp [go_sem] }; have y4 : w1.frozen? ⟨w.heap.size + 1, 4, none⟩ = false := by { rw [hb1.frozen (p := ⟨w.heap.size + 1, 4, none⟩) (by simp <;> omega)]; simp [go_sem] }; have m5 : w1.cell? ⟨w.heap.size, 5, none⟩ = some (.int .i64 x.f1) := by { rw [hb1.cell (p := ⟨w.heap.size, 5, none⟩) (by simp <;> omega)]; simp [go_sem] }; have n5 : w1.frozen? ⟨w.heap.size, 5, none⟩ = false := by { rw [hb1.frozen (p := ⟨w.heap.size, 5, none⟩) (by simp <;> omega)]; simp [go_sem] }; have r5 : w1.cell? ⟨w.heap.size + 1, 5, none⟩ = some (.int .i64 0) := by { rw [hb1.cell (p := ⟨w.heap.size + 1, 5, none⟩) (by simp <;> omega)]; simp [go_sem] }; have y5 : w1.frozen? ⟨w.heap.size + 1, 5, none⟩ = false := by { rw [hb1.frozen (p := ⟨w.heap.size + 1, 5, none⟩) (by simp <;> omega)]; simp [go_sem] }; have m6 : w1.cell? ⟨w.heap.size, 6, none⟩ = some (.int .i64 x.f2) := by { rw [hb1.cell (p := ⟨w.heap.size, 6, none⟩) (by simp <;> omega)]; simp [go_sem] }; have n6 : w1.frozen? ⟨w.heap.size, 6, none⟩ = false := by { rw [hb1.frozen (p := ⟨w.heap.size, 6, none⟩) (by simp <;> omega)]; simp [go_sem] }; have r6 : w1.cell? ⟨w.heap.size + 1, 6, none⟩ = some (.int .i64 0) := by { rw [hb1.cell (p := ⟨w.heap.size + 1, 6, none⟩) (by simp <;> omega)]; simp [go_sem] }; have y6 : w1.frozen? ⟨w.heap.size + 1, 6, none⟩ = false := by { rw [hb1.frozen (p := ⟨w.heap.size + 1, 6, none⟩) (by simp <;> omega)]; simp [go_sem] }; have m7 : w1.cell? ⟨w.heap.size, 7, none⟩ = some (.slice s1 x.f3.length c1) := by { rw [hb1.cell (p := ⟨w.heap.size, 7, none⟩) (by simp <;> omega)]; simp [go_sem] }; have n7 : w1.frozen? ⟨w.heap.size, 7, none⟩ = false := by { rw [hb1.frozen (p := ⟨w.heap.size, 7, none⟩) (by simp <;> omega)]; simp [go_sem] }; have r7 : w1.cell? ⟨w.heap.size + 1, 7, none⟩ = some (.slice none 0 0) := by { rw [hb1.cell (p := ⟨w.heap.size + 1, 7, none⟩) (by simp <;> omega)]; simp [go_sem] }; have y7 : w1.frozen? ⟨w.heap.size + 1, 7, none⟩ = false := by { rw [hb1.frozen (p := ⟨w.heap.size + 1, 7, none⟩) (by simp <;> omega)]; simp [go_sem] }; have FB1 := Lib.hid (show Below w.heap.size w w1 from Below.trans (by go_grown) (hb1.mono (by simp <;> omega))); have hz1 : w.heap.size + 1 < w1.heap.size := Nat.lt_of_lt_of_le (by simp <;> omega) hb1.size; have HO0 := Lib.hid (ho0.mono (show w.heap.size ≤ _ by simp <;> omega)); have hg0 : w.heap.size + 1 < g0 := (by obtain ⟨_, hh, _⟩ := ho0; simp at hh; omega); clear hb1 ho0)
    | (go_simp; go_at_call 73; (with_reducible refine (CM.out _ FB1.out).mono ?_); rintro e w2 ⟨g1, d1, rfl, ho1, hb2⟩; go_wp2_with fail; replace m0 := (hb2.cell (p := ⟨w.heap.size, 0, none⟩) (by show w.heap.size < _; omega)).trans m0; replace n0 := (hb2.frozen (p := ⟨w.heap.size, 0, none⟩) (by show w.heap.size < _; omega)).trans n0; replace r0 := (hb2.cell (p := ⟨w.heap.size + 1, 0, none⟩) hz1).trans r0; replace y0 := (hb2.frozen (p := ⟨w.heap.size + 1, 0, none⟩) hz1).trans y0; replace m1 := (hb2.cell (p := ⟨w.heap.size, 1, none⟩) (by show w.heap.size < _; omega)).trans m1; replace n1 := (hb2.frozen (p := ⟨w.heap.size, 1, none⟩) (by show w.heap.size < _; omega)).trans n1; replace r1 := (hb2.cell (p := ⟨w.heap.size + 1, 1, none⟩) hz1).trans r1; replace y1 := (hb2.frozen (p := ⟨w.heap.size + 1, 1, none⟩) hz1).trans y1; replace m2 := (hb2.cell (p := ⟨w.heap.size, 2, none⟩) (by show w.heap.size < _; omega)).trans m2; replace n2 := (hb2.frozen (p := ⟨w.heap.size, 2, none⟩) (by show w.heap.size < _; omega)).trans n2; replace r2 := (hb2.cell (p := ⟨w.heap.size + 1, 2, none⟩) hz1).trans r2; replace y2 := (hb2.frozen (p := ⟨w.heap.size + 1, 2, none⟩) hz1).trans y2; replace m3 := (hb2.cell (p := ⟨w.heap.size, 3, none⟩) (by show w.heap.size < _; omega)).trans m3; replace n3 := (hb2.frozen (p := ⟨w.heap.size, 3, none⟩) (by show w.heap.size < _; omega)).trans n3; replace r3 := (hb2.cell (p := ⟨w.heap.size + 1, 3, none⟩) hz1).trans r3; replace y3 := (hb2.frozen (p := ⟨w.heap.size + 1, 3, none⟩) hz1).trans y3; replace m4 := (hb2.cell (p := ⟨w.heap.size, 4, none⟩) (by show w.heap.size < _; omega)).trans m4; replace n4 := (hb2.frozen (p := ⟨w.heap.size, 4, none⟩) (by show w.heap.size < _; omega)).trans n4; replace r4 := (hb2.cell (p := ⟨w.heap.size + 1, 4, none⟩) hz1).trans r4; replace y4 := (hb2.frozen (p := ⟨w.heap.size + 1, 4, none⟩) hz1).trans y4; replace m5 := (hb2.cell (p := ⟨w.heap.size, 5, none⟩) (by show w.heap.size < _; omega)).trans m5; replace n5 := (hb2.frozen (p := ⟨w.heap.size, 5, none⟩) (by show w.heap.size < _; omega)).trans n5; replace r5 := (hb2.cell (p := ⟨w.heap.size + 1, 5, none⟩) hz1).trans r5; replace y5 := (hb2.frozen (p := ⟨w.heap.size + 1, 5, none⟩) hz1).trans y5; replace m6 := (hb2.cell (p := ⟨w.heap.size, 6, none⟩) (by show w.heap.size < _; omega)).trans m6; replace n6 := (hb2.frozen (p := ⟨w.heap.size, 6, none⟩) (by show w.heap.size < _; omega)).trans n6; replace r6 := (hb2.cell (p := ⟨w.heap.size + 1, 6, none⟩) hz1).trans r6; replace y6 := (hb2.frozen (p := ⟨w.heap.size + 1, 6, none⟩) hz1).trans y6; replace m7 := (hb2.cell (p := ⟨w.heap.size, 7, none⟩) (by show w.heap.size < _; omega)).trans m7; replace n7 := (hb2.frozen (p := ⟨w.heap.size, 7, none⟩) (by show w.heap.size < _; omega)).trans n7; replace r7 := (hb2.cell (p := ⟨w.heap.size + 1, 7, none⟩) hz1).trans r7; replace y7 := (hb2.frozen (p := ⟨w.heap.size + 1, 7, none⟩) hz1).trans y7; have FB2 := Lib.hid (FB1.out.trans (hb2.mono FB1.out.size)); replace HO0 := Lib.hid (HO0.out.below hb2 HO0.out.lt); have HO1 := Lib.hid (ho1.mono FB1.out.size); have hg1 : w.heap.size + 1 < g1 := (by obtain ⟨_, hh, _⟩ := ho1; omega); clear hb2 ho1)
    | fail)
  all_goals
    go_wp2
    refine bodyPost_ret (v := .agg #[.int .i64 x.f0.f0, .int .i64 x.f0.f1, .int .i64 x.f0.f2, .int .i64 x.f0.f3, .slice (some ⟨g0, 0, none⟩) x.f0.f4.length d0, .int .i64 x.f1, .int .i64 x.f2, .slice (some ⟨g1, 0, none⟩) x.f3.length d1]) (by simp [results, Try.results38, go_sem, m0, m1, m2, m3, m4, m5, m6, m7, r0, r1, r2, r3, r4, r5, r6, r7, y0, y1, y2, y3, y4, y5, y6, y7]) rfl ⟨g0, g1, d0, d1, rfl, HO0.out.keep ?_, HO1.out.keep ?_, ?_⟩
    · simp only [World.setCell, Array.getElem?_modify]
      rw [if_neg (by omega), if_neg (by omega), if_neg (by omega), if_neg (by omega), if_neg (by omega), if_neg (by omega), if_neg (by omega), if_neg (by omega), if_neg (by omega), if_neg (by omega)]
    · simp only [World.setCell, Array.getElem?_modify]
      rw [if_neg (by omega), if_neg (by omega), if_neg (by omega), if_neg (by omega), if_neg (by omega), if_neg (by omega), if_neg (by omega), if_neg (by omega), if_neg (by omega), if_neg (by omega)]
    · exact ((((((((((FB2.out).setCell (by simp <;> omega) _).setCell (by simp <;> omega) _).setCell (by simp <;> omega) _).setCell (by simp <;> omega) _).setCell (by simp <;> omega) _).setCell (by simp <;> omega) _).setCell (by simp <;> omega) _).setCell (by simp <;> omega) _).setCell (by simp <;> omega) _).setCell (by simp <;> omega) _
set_option maxHeartbeats 8000000 in
theorem l15Own_any (x : DeviceV) (s0 s1 : Option Addr) (c0 c1 p : Nat) (w : World) (hL : LenDevice 1048576 x) (h0 : x.f0.f4 ≠ []) (h1 : x.f3 ≠ []) (hp : BoxAt w p #[.int .i64 x.f0.f0, .int .i64 x.f0.f1, .int .i64 x.f0.f2, .int .i64 x.f0.f3, .slice s0 x.f0.f4.length c0, .int .i64 x.f1, .int .i64 x.f2, .slice s1 x.f3.length c1]) (h : SlDevice w s0 s1 x) :
    Calls Try.prog 92 #[.pointer (some ⟨p, 0, none⟩)] w (DevOwn x w) := by
  have hplt := hp.lt (by simp)
  have hq4 : BoxAt w p #[.int .i64 x.f0.f0, .int .i64 x.f0.f1, .int .i64 x.f0.f2, .int .i64 x.f0.f3, .slice s0 x.f0.f4.length c0] := by
    intro i v hv
    match i, hv with
    | 0, hv => exact hp 0 v hv
    | 1, hv => exact hp 1 v hv
    | 2, hv => exact hp 2 v hv
    | 3, hv => exact hp 3 v hv
    | 4, hv => exact hp 4 v hv
    | n + 5, hv => simp at hv
  have CS := Lib.hid (fun w' (hb : Below w.heap.size w w') => l12Own_any x.f0 s0 c0 p w' hL.1 h0 (hq4.below hb hplt) (h.1.below hb (Nat.le_refl _)))
  have CM := Lib.hid (fun w' (hb : Below w.heap.size w w') => l00Own_any s1 x.f3 c1 w' hL.2 h1 (h.2.below hb (Nat.le_refl _)))
  have BX := Lib.hid hp
  clear h hL h0 h1 hp hq4
  go_enter Try.func92, Try.ntmps92
  go_upto_region 1 with (fail)
  have MD := MadeAt.new w (.cells #[.int .i64 0, .int .i64 0, .int .i64 0, .int .i64 0, .slice none 0 0, .int .i64 0, .int .i64 0, .slice none 0 0] 31)
  have FB := Lib.hid (show Below w.heap.size w (w.alloc (.cells #[.int .i64 0, .int .i64 0, .int .i64 0, .int .i64 0, .slice none 0 0, .int .i64 0, .int .i64 0, .slice none 0 0] 31)) by go_grown)
  have hsW : (w.alloc (.cells #[.int .i64 0, .int .i64 0, .int .i64 0, .int .i64 0, .slice none 0 0, .int .i64 0, .int .i64 0, .slice none 0 0] 31)).heap.size = w.heap.size + 1 := by simp
  generalize w.alloc (.cells #[.int .i64 0, .int .i64 0, .int .i64 0, .int .i64 0, .slice none 0 0, .int .i64 0, .int .i64 0, .slice none 0 0] 31) = W at *
  have BX2 := BX.out.below FB.out hplt
  have HS := Lib.hid hsW
  have hlt : p < W.heap.size := by omega
  have hlt0 : w.heap.size < W.heap.size := by omega
  clear hsW
  replace MD : MadeAt W.drew w.heap.size (.cells #[.int .i64 0, .int .i64 0, .int .i64 0, .int .i64 0, .slice none 0 0, .int .i64 0, .int .i64 0, .slice none 0 0] 31) := MD
  have KS := Lib.hid (fun w' (hb : Below W.heap.size W w') => (show w'.cell? ⟨p, 0, none⟩ = some (.int .i64 x.f0.f0) ∧ w'.cell? ⟨p, 1, none⟩ = some (.int .i64 x.f0.f1) ∧ w'.cell? ⟨p, 2, none⟩ = some (.int .i64 x.f0.f2) ∧ w'.cell? ⟨p, 3, none⟩ = some (.int .i64 x.f0.f3) ∧ w'.cell? ⟨p, 4, none⟩ = some (.slice s0 x.f0.f4.length c0) ∧ w'.cell? ⟨p, 5, none⟩ = some (.int .i64 x.f1) ∧ w'.cell? ⟨p, 6, none⟩ = some (.int .i64 x.f2) ∧ w'.cell? ⟨p, 7, none⟩ = some (.slice s1 x.f3.length c1) from ⟨(BX2.below hb hlt) 0 _ rfl, (BX2.below hb hlt) 1 _ rfl, (BX2.below hb hlt) 2 _ rfl, (BX2.below hb hlt) 3 _ rfl, (BX2.below hb hlt) 4 _ rfl, (BX2.below hb hlt) 5 _ rfl, (BX2.below hb hlt) 6 _ rfl, (BX2.below hb hlt) 7 _ rfl⟩))
  have HC := Lib.hid (show Below W.heap.size W W.drew from (Below.refl _ _).drew)
  refine wp_region_held_drew (S := (fun w' => w'.cell? ⟨p, 0, none⟩ = some (.int .i64 x.f0.f0) ∧ w'.cell? ⟨p, 1, none⟩ = some (.int .i64 x.f0.f1) ∧ w'.cell? ⟨p, 2, none⟩ = some (.int .i64 x.f0.f2) ∧ w'.cell? ⟨p, 3, none⟩ = some (.int .i64 x.f0.f3) ∧ w'.cell? ⟨p, 4, none⟩ = some (.slice s0 x.f0.f4.length c0) ∧ w'.cell? ⟨p, 5, none⟩ = some (.int .i64 x.f1) ∧ w'.cell? ⟨p, 6, none⟩ = some (.int .i64 x.f2) ∧ w'.cell? ⟨p, 7, none⟩ = some (.slice s1 x.f3.length c1))) (by kernel_rfl) (KS.out _ HC.out) (fun hHeld => ?_)
  refine wpAnyH_take (i := 0) (oi := { dst := some 3, op := Op.move (Operand.tmp 0), type := 82, pos := "l15_blocks.go:87", after := #[], guard := none }) (v := ?_) rfl (by kernel_rfl) (by kernel_rfl) (by kernel_rfl) (fun _ _ _ h => h) (Or.inl ⟨by rfl, ?hy⟩) hHeld ?_
  case hy => (intro w' hSw; (try dsimp only at hSw); go_simp; try with_reducible rfl)
  simp only [Act.put, List.setIfInBounds_toArray, List.set_cons_zero, List.set_cons_succ]
  refine wpAnyH_take (i := 1) (oi := { dst := some 4, op := Op.nilCheck (Operand.tmp 3), type := 0, pos := "l15_blocks.go:87", after := #[{ on := 0, ground := Ground.data }], guard := none }) (v := ?_) rfl (by kernel_rfl) (by kernel_rfl) (by kernel_rfl) (fun _ _ _ h => h) (Or.inl ⟨by rfl, ?hy⟩) hHeld ?_
  case hy => (intro w' hSw; (try dsimp only at hSw); go_simp; try with_reducible rfl)
  simp only [Act.put, List.setIfInBounds_toArray, List.set_cons_zero, List.set_cons_succ]
  refine wpAnyH_take (i := 2) (oi := { dst := some 5, op := Op.fieldAddr 31 (Operand.tmp 4) 0, type := 0, pos := "l15_blocks.go:87", after := #[{ on := 1, ground := Ground.data }], guard := none }) (v := ?_) rfl (by kernel_rfl) (by kernel_rfl) (by kernel_rfl) (fun _ _ _ h => h) (Or.inl ⟨by rfl, ?hy⟩) hHeld ?_
  case hy => (intro w' hSw; (try dsimp only at hSw); go_simp; try with_reducible rfl)
  simp only [Act.put, List.setIfInBounds_toArray, List.set_cons_zero, List.set_cons_succ]
  refine wpAnyH_take (i := 4) (oi := { dst := some 7, op := Op.move (Operand.tmp 0), type := 82, pos := "l15_blocks.go:87", after := #[], guard := none }) (v := ?_) rfl (by kernel_rfl) (by kernel_rfl) (by kernel_rfl) (fun _ _ _ h => h) (Or.inl ⟨by rfl, ?hy⟩) hHeld ?_
  case hy => (intro w' hSw; (try dsimp only at hSw); go_simp; try with_reducible rfl)
  simp only [Act.put, List.setIfInBounds_toArray, List.set_cons_zero, List.set_cons_succ]
  refine wpAnyH_take (i := 5) (oi := { dst := some 8, op := Op.nilCheck (Operand.tmp 7), type := 0, pos := "l15_blocks.go:87", after := #[{ on := 4, ground := Ground.data }], guard := none }) (v := ?_) rfl (by kernel_rfl) (by kernel_rfl) (by kernel_rfl) (fun _ _ _ h => h) (Or.inl ⟨by rfl, ?hy⟩) hHeld ?_
  case hy => (intro w' hSw; (try dsimp only at hSw); go_simp; try with_reducible rfl)
  simp only [Act.put, List.setIfInBounds_toArray, List.set_cons_zero, List.set_cons_succ]
  refine wpAnyH_take (i := 6) (oi := { dst := some 9, op := Op.fieldAddr 31 (Operand.tmp 8) 1, type := 0, pos := "l15_blocks.go:87", after := #[{ on := 5, ground := Ground.data }], guard := none }) (v := ?_) rfl (by kernel_rfl) (by kernel_rfl) (by kernel_rfl) (fun _ _ _ h => h) (Or.inl ⟨by rfl, ?hy⟩) hHeld ?_
  case hy => (intro w' hSw; (try dsimp only at hSw); go_simp; try with_reducible rfl)
  simp only [Act.put, List.setIfInBounds_toArray, List.set_cons_zero, List.set_cons_succ]
  refine wpAnyH_take (i := 7) (oi := { dst := some 10, op := Op.load 2 (Operand.tmp 9), type := 2, pos := "l15_blocks.go:87", after := #[{ on := 6, ground := Ground.data }], guard := none }) (v := ?_) rfl (by kernel_rfl) (by kernel_rfl) (by kernel_rfl) (fun _ _ _ h => h) (Or.inl ⟨by rfl, ?hy⟩) hHeld ?_
  case hy => (intro w' hSw; (try dsimp only at hSw); go_simp; try with_reducible rfl)
  simp only [Act.put, List.setIfInBounds_toArray, List.set_cons_zero, List.set_cons_succ]
  refine wpAnyH_take (i := 8) (oi := { dst := some 11, op := Op.move (Operand.tmp 0), type := 82, pos := "l15_blocks.go:87", after := #[], guard := none }) (v := ?_) rfl (by kernel_rfl) (by kernel_rfl) (by kernel_rfl) (fun _ _ _ h => h) (Or.inl ⟨by rfl, ?hy⟩) hHeld ?_
  case hy => (intro w' hSw; (try dsimp only at hSw); go_simp; try with_reducible rfl)
  simp only [Act.put, List.setIfInBounds_toArray, List.set_cons_zero, List.set_cons_succ]
  refine wpAnyH_take (i := 9) (oi := { dst := some 12, op := Op.nilCheck (Operand.tmp 11), type := 0, pos := "l15_blocks.go:87", after := #[{ on := 8, ground := Ground.data }], guard := none }) (v := ?_) rfl (by kernel_rfl) (by kernel_rfl) (by kernel_rfl) (fun _ _ _ h => h) (Or.inl ⟨by rfl, ?hy⟩) hHeld ?_
  case hy => (intro w' hSw; (try dsimp only at hSw); go_simp; try with_reducible rfl)
  simp only [Act.put, List.setIfInBounds_toArray, List.set_cons_zero, List.set_cons_succ]
  refine wpAnyH_take (i := 10) (oi := { dst := some 13, op := Op.fieldAddr 31 (Operand.tmp 12) 2, type := 0, pos := "l15_blocks.go:87", after := #[{ on := 9, ground := Ground.data }], guard := none }) (v := ?_) rfl (by kernel_rfl) (by kernel_rfl) (by kernel_rfl) (fun _ _ _ h => h) (Or.inl ⟨by rfl, ?hy⟩) hHeld ?_
  case hy => (intro w' hSw; (try dsimp only at hSw); go_simp; try with_reducible rfl)
  simp only [Act.put, List.setIfInBounds_toArray, List.set_cons_zero, List.set_cons_succ]
  refine wpAnyH_take (i := 11) (oi := { dst := some 14, op := Op.load 2 (Operand.tmp 13), type := 2, pos := "l15_blocks.go:87", after := #[{ on := 10, ground := Ground.data }], guard := none }) (v := ?_) rfl (by kernel_rfl) (by kernel_rfl) (by kernel_rfl) (fun _ _ _ h => h) (Or.inl ⟨by rfl, ?hy⟩) hHeld ?_
  case hy => (intro w' hSw; (try dsimp only at hSw); go_simp; try with_reducible rfl)
  simp only [Act.put, List.setIfInBounds_toArray, List.set_cons_zero, List.set_cons_succ]
  refine wpAnyH_take (i := 12) (oi := { dst := some 15, op := Op.move (Operand.tmp 0), type := 82, pos := "l15_blocks.go:87", after := #[], guard := none }) (v := ?_) rfl (by kernel_rfl) (by kernel_rfl) (by kernel_rfl) (fun _ _ _ h => h) (Or.inl ⟨by rfl, ?hy⟩) hHeld ?_
  case hy => (intro w' hSw; (try dsimp only at hSw); go_simp; try with_reducible rfl)
  simp only [Act.put, List.setIfInBounds_toArray, List.set_cons_zero, List.set_cons_succ]
  refine wpAnyH_take (i := 13) (oi := { dst := some 16, op := Op.nilCheck (Operand.tmp 15), type := 0, pos := "l15_blocks.go:87", after := #[{ on := 12, ground := Ground.data }], guard := none }) (v := ?_) rfl (by kernel_rfl) (by kernel_rfl) (by kernel_rfl) (fun _ _ _ h => h) (Or.inl ⟨by rfl, ?hy⟩) hHeld ?_
  case hy => (intro w' hSw; (try dsimp only at hSw); go_simp; try with_reducible rfl)
  simp only [Act.put, List.setIfInBounds_toArray, List.set_cons_zero, List.set_cons_succ]
  refine wpAnyH_take (i := 14) (oi := { dst := some 17, op := Op.fieldAddr 31 (Operand.tmp 16) 3, type := 0, pos := "l15_blocks.go:87", after := #[{ on := 13, ground := Ground.data }], guard := none }) (v := ?_) rfl (by kernel_rfl) (by kernel_rfl) (by kernel_rfl) (fun _ _ _ h => h) (Or.inl ⟨by rfl, ?hy⟩) hHeld ?_
  case hy => (intro w' hSw; (try dsimp only at hSw); go_simp; try with_reducible rfl)
  simp only [Act.put, List.setIfInBounds_toArray, List.set_cons_zero, List.set_cons_succ]
  refine wpAnyH_take (i := 15) (oi := { dst := some 18, op := Op.load 29 (Operand.tmp 17), type := 29, pos := "l15_blocks.go:87", after := #[{ on := 14, ground := Ground.data }], guard := none }) (v := ?_) rfl (by kernel_rfl) (by kernel_rfl) (by kernel_rfl) (fun _ _ _ h => h) (Or.inl ⟨by rfl, ?hy⟩) hHeld ?_
  case hy => (intro w' hSw; (try dsimp only at hSw); go_simp; try with_reducible rfl)
  simp only [Act.put, List.setIfInBounds_toArray, List.set_cons_zero, List.set_cons_succ]
  refine wpAnyH_ready (rs := [3]) (by kernel_rfl) (by simp) ?_
  refine AllReadyH.cons (o := { dst := some 6, op := Op.call { callee := Callee.value (Operand.func 88), args := #[Operand.tmp 5], argTypes := #[99] }, type := 26, pos := "l15_blocks.go:87", after := #[{ on := 2, ground := Ground.data }], guard := none }) rfl (fun K hK => ?_) AllReadyH.nil
  go_simp
  go_at_call 88; refine (CS.out _ (FB.out.trans (HC.out.mono FB.out.size))).mono ?_; rintro e w1 ⟨g0, d0, rfl, ho0, hb1⟩; replace HC := Lib.hid (HC.out.trans (hb1.mono HC.out.size)); replace MD := MD.below hb1; have hg0 : W.heap.size ≤ g0 := ho0.choose_spec.1; have HO0 := Lib.hid (ho0.mono (Nat.le_of_lt hlt0)); clear hb1 ho0
  go_wp2_with fail
  refine hK.out _ _ (KS.out _ HC.out) (fun hHeld => ?_)
  clear hK K
  try simp only [Act.put, List.setIfInBounds_toArray, List.set_cons_zero, List.set_cons_succ]
  refine wpAnyH_ready (rs := [16]) (by kernel_rfl) (by simp) ?_
  refine AllReadyH.cons (o := { dst := some 19, op := Op.call { callee := Callee.value (Operand.func 98), args := #[Operand.tmp 18], argTypes := #[29] }, type := 29, pos := "l15_blocks.go:87", after := #[{ on := 15, ground := Ground.data }, { on := 3, ground := Ground.chain }], guard := none }) rfl (fun K hK => ?_) AllReadyH.nil
  go_simp
  go_at_call 98; refine (CM.out _ (FB.out.trans (HC.out.mono FB.out.size))).mono ?_; rintro e w2 ⟨g1, d1, rfl, ho1, hb2⟩; have hg1 : W.heap.size ≤ g1 := Nat.le_trans HC.out.size ho1.choose_spec.1; replace HC := Lib.hid (HC.out.trans (hb2.mono HC.out.size)); replace MD := MD.below hb2; replace HO0 := Lib.hid (HO0.out.below hb2 HO0.out.lt); have HO1 := Lib.hid (show OwnBlkI w2 w.heap.size g1 x.f3 from (by obtain ⟨rest, h1, h2⟩ := ho1; exact ⟨rest, by omega, h2⟩)); clear hb2 ho1
  go_wp2_with fail
  refine hK.out _ _ (KS.out _ HC.out) (fun hHeld => ?_)
  clear hK K
  try simp only [Act.put, List.setIfInBounds_toArray, List.set_cons_zero, List.set_cons_succ]
  refine wpAnyH_take (i := 17) (oi := { dst := some 20, op := Op.build 31 #[(0, Operand.tmp 6), (1, Operand.tmp 10), (2, Operand.tmp 14), (3, Operand.tmp 19)], type := 31, pos := "l15_blocks.go:87", after := #[{ on := 3, ground := Ground.data }, { on := 7, ground := Ground.data }, { on := 11, ground := Ground.data }, { on := 16, ground := Ground.data }], guard := none }) (v := ?_) rfl (by kernel_rfl) (by kernel_rfl) (by kernel_rfl) (fun _ _ _ h => h) (Or.inl ⟨by rfl, ?hy⟩) hHeld ?_
  case hy => (intro w' hSw; (try dsimp only at hSw); go_simp; try with_reducible rfl)
  simp only [Act.put, List.setIfInBounds_toArray, List.set_cons_zero, List.set_cons_succ]
  refine wpAnyH_ready (rs := [18]) (by kernel_rfl) (by simp) ?_
  refine AllReadyH.cons (o := { dst := none, op := Op.store 31 (Operand.tmp 2) (Operand.tmp 20), type := 0, pos := "l15_blocks.go:87", after := #[{ on := 17, ground := Ground.data }, { on := 16, ground := Ground.chain }, { on := 0, ground := Ground.phase }, { on := 1, ground := Ground.phase }, { on := 2, ground := Ground.phase }, { on := 3, ground := Ground.phase }, { on := 4, ground := Ground.phase }, { on := 5, ground := Ground.phase }, { on := 6, ground := Ground.phase }, { on := 7, ground := Ground.phase }, { on := 8, ground := Ground.phase }, { on := 9, ground := Ground.phase }, { on := 10, ground := Ground.phase }, { on := 11, ground := Ground.phase }, { on := 12, ground := Ground.phase }, { on := 13, ground := Ground.phase }, { on := 14, ground := Ground.phase }, { on := 15, ground := Ground.phase }, { on := 16, ground := Ground.phase }, { on := 17, ground := Ground.phase }], guard := none }) rfl (fun K hK => ?_) AllReadyH.nil
  obtain ⟨m0, n0⟩ := MD.at 0 rfl
  obtain ⟨m1, n1⟩ := MD.at 1 rfl
  obtain ⟨m2, n2⟩ := MD.at 2 rfl
  obtain ⟨m3, n3⟩ := MD.at 3 rfl
  obtain ⟨m4, n4⟩ := MD.at 4 rfl
  obtain ⟨m5, n5⟩ := MD.at 5 rfl
  obtain ⟨m6, n6⟩ := MD.at 6 rfl
  obtain ⟨m7, n7⟩ := MD.at 7 rfl
  go_simp
  refine hK.out _ _ (by have h := KS.out _ HC.out; have hne : p ≠ w.heap.size := Nat.ne_of_lt hplt; have hne2 : w.heap.size ≠ p := fun e => hne e.symm; simpa [go_sem, hne, hne2] using h) (fun hHeld => ?_)
  clear hK K
  try simp only [Act.put, List.setIfInBounds_toArray, List.set_cons_zero, List.set_cons_succ]
  refine wpAnyH_done (by kernel_rfl) ?_ _
  go_wp2
  refine bodyPost_ret (v := .agg #[.int .i64 x.f0.f0, .int .i64 x.f0.f1, .int .i64 x.f0.f2, .int .i64 x.f0.f3, .slice (some ⟨g0, 0, none⟩) x.f0.f4.length d0, .int .i64 x.f1, .int .i64 x.f2, .slice (some ⟨g1, 0, none⟩) x.f3.length d1]) (by simp [results, Try.results92, go_sem, m0, m1, m2, m3, m4, m5, m6, m7, n0, n1, n2, n3, n4, n5, n6, n7]) rfl ⟨g0, g1, d0, d1, rfl, HO0.out.keep ?_, HO1.out.keep ?_, ?_⟩
  · simp only [World.setCell, Array.getElem?_modify]
    rw [if_neg (by omega), if_neg (by omega), if_neg (by omega), if_neg (by omega), if_neg (by omega), if_neg (by omega), if_neg (by omega), if_neg (by omega)]
  · simp only [World.setCell, Array.getElem?_modify]
    rw [if_neg (by omega), if_neg (by omega), if_neg (by omega), if_neg (by omega), if_neg (by omega), if_neg (by omega), if_neg (by omega), if_neg (by omega)]
  · exact ((((((((FB.out.trans (HC.out.mono FB.out.size)).setCell (by simp <;> omega) _).setCell (by simp <;> omega) _).setCell (by simp <;> omega) _).setCell (by simp <;> omega) _).setCell (by simp <;> omega) _).setCell (by simp <;> omega) _).setCell (by simp <;> omega) _).setCell (by simp <;> omega) _
end Go.Proofs.Ytllcbiafghhcmaa
