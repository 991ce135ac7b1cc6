/- Own copies of a disc's sectors: spec.l12Own, slices.Clone; (impl.geometry).disc; a sector replaced. -/
import Derived.Test.YtllcbiafghhcmaaPkFnDeviceOrderSectorAt
import Derived.Test.YtllcbiafghhcmaaPkFnDeviceOrderOwnR
import Derived.Deep.AppendLies
import Derived.Deep.DeepMust
import Derived.Laws.Cover3
namespace Go.Proofs.Ytllcbiafghhcmaa
open Go.RowKit
set_option linter.unusedVariables false
set_option linter.unusedSimpArgs false
set_option maxRecDepth 20000
/-- Block g, from B on, begins with these sectors. -/
def OwnBlk (w : World) (B g : Nat) (es : List SectorV) : Prop := ∃ rest : Array Value, B ≤ g ∧ w.heap[g]? = some (.cells ((es.map rowSector).flatten.toArray ++ rest) 39 (0, 0))
theorem OwnBlk.lt {w : World} {B g : Nat} {es : List SectorV} (h : OwnBlk w B g es) : g < w.heap.size := by
  obtain ⟨rest, _, hh⟩ := h
  exact (Array.getElem?_eq_some_iff.1 hh).1
theorem OwnBlk.below {w w' : World} {B C g : Nat} {es : List SectorV} (h : OwnBlk w B g es) (hb : Below C w w') (hC : g < C) : OwnBlk w' B g es := by
  obtain ⟨rest, h1, hh⟩ := h
  exact ⟨rest, h1, by rw [hb.block g hC]; exact hh⟩
theorem OwnBlk.keep {w w' : World} {B g : Nat} {es : List SectorV} (h : OwnBlk w B g es) (hk : w'.heap[g]? = w.heap[g]?) : OwnBlk w' B g es := by
  obtain ⟨rest, h1, hh⟩ := h
  exact ⟨rest, h1, by rw [hk]; exact hh⟩
theorem OwnBlk.mono {w : World} {B B' g : Nat} {es : List SectorV} (h : OwnBlk w B g es) (hB : B' ≤ B) : OwnBlk w B' g es := by
  obtain ⟨rest, h1, hh⟩ := h
  exact ⟨rest, by omega, hh⟩
theorem OwnBlk.so {w : World} {B g : Nat} {es : List SectorV} (h : OwnBlk w B g es) : SlSO rowSector 39 w B (some ⟨g, 0, none⟩) es := by
  obtain ⟨rest, h1, hh⟩ := h
  exact .inr ⟨g, rest, rfl, h1, (Array.getElem?_eq_some_iff.1 hh).1, hh⟩
theorem OwnBlk.cell {w : World} {B g : Nat} {es : List SectorV} (h : OwnBlk w B g es) {k : Nat} {e : SectorV} (hk : es[k]? = some e) : w.cell? ⟨g, k * 2, none⟩ = some (.string e.f0) ∧ w.cell? ⟨g, k * 2 + 1, none⟩ = some (.int .i64 e.f1) := by
  obtain ⟨b, off, hb, _, hc⟩ := SlS.at rowSector_len (SlSI.sl h.so) hk
  cases hb
  have h0 := hc 0 _ rfl
  have h1 := hc 1 _ rfl
  simp only [Nat.zero_add, Nat.add_zero] at h0 h1
  exact ⟨h0, h1⟩
theorem OwnBlk.free {w : World} {B g : Nat} {es : List SectorV} (h : OwnBlk w B g es) (i : Nat) : w.frozen? ⟨g, i, none⟩ = false := by
  obtain ⟨rest, h1, hh⟩ := h
  simp [World.frozen?, hh]
theorem setAll_row (es : List SectorV) (rest : List Value) (i : Nat) (s : SectorV) (hi : i < es.length) : setAll ((es.map rowSector).flatten ++ rest) (i * 2) (rowSector s) = ((es.set i s).map rowSector).flatten ++ rest := by
  have e1 : es = es.take i ++ es[i] :: es.drop (i + 1) := by rw [← List.drop_eq_getElem_cons hi, List.take_append_drop]
  have e2 : es.set i s = es.take i ++ s :: es.drop (i + 1) := by rw [List.set_eq_take_append_cons_drop, if_pos hi]
  rw [e2]
  have h := setAll_mid (rowSector s) ((es.take i).map rowSector).flatten (rowSector es[i]) (((es.drop (i + 1)).map rowSector).flatten ++ rest) (i * 2) (by rw [flatten_len (rows_len rowSector_len _), List.length_map, List.length_take, Nat.min_eq_left (by omega)]) (by rw [rowSector_len, rowSector_len])
  have e3 : (es.map rowSector).flatten ++ rest = ((es.take i).map rowSector).flatten ++ rowSector es[i] ++ (((es.drop (i + 1)).map rowSector).flatten ++ rest) := by
    have e4 : es.map rowSector = (es.take i).map rowSector ++ rowSector es[i] :: (es.drop (i + 1)).map rowSector := by
      conv => lhs; rw [e1]
      rw [List.map_append, List.map_cons]
    rw [e4, List.flatten_append, List.flatten_cons]
    simp only [List.append_assoc]
  rw [e3, h]
  simp
theorem OwnBlk.put {w : World} {B g : Nat} {es : List SectorV} (h : OwnBlk w B g es) (i : Nat) (s : SectorV) (hi : i < es.length) : OwnBlk ((w.setCell ⟨g, i * 2, none⟩ (.string s.f0)).setCell ⟨g, i * 2 + 1, none⟩ (.int .i64 s.f1)) B g (es.set i s) := by
  obtain ⟨rest, h1, hh⟩ := h
  refine ⟨rest, h1, ?_⟩
  have h2 := heap_setCells 39 g (rowSector s) (i * 2) w ((es.map rowSector).flatten ++ rest.toList) (by rw [hh]; congr 2; apply Array.ext'; simp)
  rw [setAll_row es rest.toList i s hi] at h2
  have h3 : (w.setCells g (i * 2) (rowSector s)).heap[g]? = ((w.setCell ⟨g, i * 2, none⟩ (.string s.f0)).setCell ⟨g, i * 2 + 1, none⟩ (.int .i64 s.f1)).heap[g]? := rfl
  rw [← h3, h2]
  congr 2
  apply Array.ext'
  simp
theorem OwnR.emptyAt (w : World) (B b : Nat) (hB : B ≤ w.heap.size) (hb : w.heap.size = b) : OwnR rowSector 39 2 (w.alloc (.cells #[] 39)) B (.slice (some ⟨b, 0, none⟩) 0 0) [] := by
  subst hb
  exact OwnR.empty w B hB
theorem row_one (es : List SectorV) : ∀ u ∈ (es.map rowSector).flatten, u.oneCell' = true := by
  intro u hu
  obtain ⟨r, hr, hur⟩ := List.mem_flatten.1 hu
  obtain ⟨e, _, rfl⟩ := List.mem_map.1 hr
  simp [rowSector] at hur
  rcases hur with rfl | rfl <;> rfl
theorem own_of {w : World} {B g cap : Nat} {es : List SectorV} (hne : es ≠ []) (h : OwnR rowSector 39 2 w B (.slice (some ⟨g, 0, none⟩) es.length cap) es) : OwnBlk w B g es := by
  obtain ⟨a, c, hv, hs⟩ := h.slSI
  cases hv
  rcases hs with h0 | ⟨g', rest, hg, h1, h2, hh⟩
  · exact absurd h0 hne
  · cases hg
    exact ⟨rest, h1, hh⟩
theorem eqlNilSector (a : Option Addr) (l c : Nat) (w : World) : (binOp .eql 24 (.slice a l c) (.slice none 0 0)).run Try.prog w = .ok (.bool a.isNone) w := by
  have h := run_equal_slice_nil (P := Try.prog) w 24 39 a l c Try.underlying24
  simp only [binOp, Sem.run_bind, h, Result.andThen_ok, Sem.run_pure]
set_option maxHeartbeats 4000000 in
theorem clone_any (a : Option Addr) (es : List SectorV) (c : Nat) (w : World) (hm : es.length ≤ 1048576) (hne : es ≠ []) (h : SlS rowSector w a es) :
    Calls Try.prog 51 #[.slice a es.length c] w fun e w' => ∃ g cap, e = .returned (.slice (some ⟨g, 0, none⟩) es.length cap) ∧ OwnBlk w' w.heap.size g es ∧ Below w.heap.size w w' := by
  obtain ⟨i0, hi, hz0, hz1, hz2⟩ := info_parts infoSector
  rcases h with h0 | ⟨b, off, rfl, hbl, hc⟩
  · exact absurd h0 hne
  have HCE := Lib.hid hc; clear hc
  have hpos : 0 < es.length := List.length_pos_iff.2 hne
  have HI := Lib.hid (And.intro hi (And.intro hz0 (And.intro hz1 hz2))); clear hi hz0 hz1 hz2
  have HNE := Lib.hid hne; clear hne
  have hnil : ∀ w, (binOp .eql 24 (.slice (some ⟨b, off, none⟩) es.length c) (.slice none 0 0)).run Try.prog w = .ok (.bool false) w := fun w => eqlNilSector _ _ _ w
  go_enter Try.func51, Try.ntmps51
  go_wp2_with (at_builtin; go_must (refine wpList_append_lies _ rfl _ _ 24 rfl w.heap.size 39 i0 (.agg zeroSector.toArray) 2 24 Try.underlying24 HI.out.1 HI.out.2.1 HI.out.2.2.1 HI.out.2.2.2 rfl (by decide) _ 0 [] rfl (OwnR.empty (row := rowSector) (T := 39) (n := 2) w w.heap.size (Nat.le_refl _)) ⟨b, off, none⟩ es.length c (es.map rowSector).flatten rfl ?c1 ?c2 ?c3 ?c4 ?c5 ?c6 ?c7 _ rfl ?_))
  case c1 => rw [flatten_len (rows_len rowSector_len _), List.length_map]
  case c2 => exact fun j u hu => by rw [add_plain]; exact (HCE.out.below ((Below.refl _ _).alloc (Nat.le_refl _) _) hbl) j u hu
  case c3 => exact row_one es
  case c4 => exact hpos
  case c5 => unfold maxLen; omega
  case c6 => omega
  case c7 => simp
  intro g cap w3 hown hgrow hg hgl
  try simp only [Nat.zero_add]
  have hb3 : Below w.heap.size w w3 := Below.trans ((Below.refl _ _).alloc (Nat.le_refl _) _) (ownsRow_belowOf (OwnR.empty (row := rowSector) (T := 39) (n := 2) w w.heap.size (Nat.le_refl _)) (by simp) hgrow)
  have HO := Lib.hid (own_of (w := w3) (B := w.heap.size) (g := g) (cap := cap) HNE.out (by unfold OwnR; simpa using hown))
  clear hown hgrow hg
  go_wp2
  go_ret
  exact ⟨g, cap, rfl, HO.out, hb3⟩
set_option maxHeartbeats 1000000 in
theorem disc_any (a b c d : Int) (s : Option Addr) (n cap : Nat) (w : World) :
    Calls Try.prog 52 #[.agg #[.int .i64 a, .int .i64 b, .int .i64 c, .int .i64 d], .slice s n cap] w fun e w' => e = .returned (.agg #[.int .i64 a, .int .i64 b, .int .i64 c, .int .i64 d, .slice s n cap]) ∧ Below w.heap.size w w' := by
  go_enter Try.func52, Try.ntmps52
  go_wp2
  refine bodyPost_ret (v := .agg #[.int .i64 a, .int .i64 b, .int .i64 c, .int .i64 d, .slice s n cap]) (by simp [results, Try.results52, go_sem]) rfl ⟨rfl, ?_⟩
  go_grown
set_option maxHeartbeats 8000000 in
theorem l12Own_any (x : DiscV) (a : Option Addr) (c p : Nat) (w : World) (hm : x.f4.length ≤ 1048576) (hne : x.f4 ≠ []) (hp : BoxAt w p #[.int .i64 x.f0, .int .i64 x.f1, .int .i64 x.f2, .int .i64 x.f3, .slice a x.f4.length c]) (h : SlS rowSector w a x.f4) :
    Calls Try.prog 88 #[.pointer (some ⟨p, 0, none⟩)] w fun e w' => ∃ g cap, e = .returned (.agg #[.int .i64 x.f0, .int .i64 x.f1, .int .i64 x.f2, .int .i64 x.f3, .slice (some ⟨g, 0, none⟩) x.f4.length cap]) ∧ OwnBlk w' w.heap.size g x.f4 ∧ Below w.heap.size w w' := by
  obtain ⟨i0, hi, hz0, hz1, hz2⟩ := info_parts infoSector
  obtain ⟨f0, f1, f2, f3, es⟩ := x
  dsimp only at *
  rcases h with h0 | ⟨b, off, rfl, hbl, hc⟩
  · exact absurd h0 hne
  have hplt := hp.lt (by simp)
  have c0 := hp 0 _ rfl
  have c1 := hp 1 _ rfl
  have c2 := hp 2 _ rfl
  have c3 := hp 3 _ rfl
  have c4 := hp 4 _ rfl
  have HCE := Lib.hid hc; clear hc hp
  have hpos : 0 < es.length := List.length_pos_iff.2 hne
  have HI := Lib.hid (And.intro hi (And.intro hz0 (And.intro hz1 hz2))); clear hi hz0 hz1 hz2
  have HNE := Lib.hid hne; clear hne
  have hpl1 : p < w.heap.size + 1 := by omega
  have hpl2 : p < w.heap.size + 1 + 1 := by omega
  go_enter Try.func88, Try.ntmps88
  go_wp2_with (at_builtin; refine wpList_append_lies _ rfl _ _ 24 rfl (w.heap.size + 1 + 1) 39 i0 (.agg zeroSector.toArray) 2 24 Try.underlying24 HI.out.1 HI.out.2.1 HI.out.2.2.1 HI.out.2.2.2 rfl (by decide) _ 0 [] rfl (OwnR.emptyAt _ _ _ (by simp <;> omega) (by simp)) ⟨b, off, none⟩ es.length c (es.map rowSector).flatten rfl ?c1 ?c2 ?c3 ?c4 ?c5 ?c6 ?c7 _ rfl ?_)
  case c1 => rw [flatten_len (rows_len rowSector_len _), List.length_map]
  case c2 => exact fun j u hu => by rw [add_plain]; exact (HCE.out.below (by go_grown) hbl) j u hu
  case c3 => exact row_one es
  case c4 => exact hpos
  case c5 => unfold maxLen; omega
  case c6 => omega
  case c7 => simp <;> omega
  intro g cap w3 hown hgrow hg hgl
  have hbE := ownsRow_belowOf (OwnR.emptyAt _ (w.heap.size + 1 + 1) _ (by simp <;> omega) (by simp)) (by simp <;> omega) hgrow
  have r0 : w3.cell? ⟨w.heap.size, 0, none⟩ = some (.int .i64 0) := by rw [hbE.cell (p := ⟨w.heap.size, 0, none⟩) (by simp <;> omega)]; simp [go_sem]
  have y0 : w3.frozen? ⟨w.heap.size, 0, none⟩ = false := by rw [hbE.frozen (p := ⟨w.heap.size, 0, none⟩) (by simp <;> omega)]; simp [go_sem]
  have q0 : w3.cell? ⟨w.heap.size + 1, 0, none⟩ = some (.int .i64 f0) := by rw [hbE.cell (p := ⟨w.heap.size + 1, 0, none⟩) (by simp <;> omega)]; simp [go_sem]
  have z0 : w3.frozen? ⟨w.heap.size + 1, 0, none⟩ = false := by rw [hbE.frozen (p := ⟨w.heap.size + 1, 0, none⟩) (by simp <;> omega)]; simp [go_sem]
  have r1 : w3.cell? ⟨w.heap.size, 1, none⟩ = some (.int .i64 0) := by rw [hbE.cell (p := ⟨w.heap.size, 1, none⟩) (by simp <;> omega)]; simp [go_sem]
  have y1 : w3.frozen? ⟨w.heap.size, 1, none⟩ = false := by rw [hbE.frozen (p := ⟨w.heap.size, 1, none⟩) (by simp <;> omega)]; simp [go_sem]
  have q1 : w3.cell? ⟨w.heap.size + 1, 1, none⟩ = some (.int .i64 f1) := by rw [hbE.cell (p := ⟨w.heap.size + 1, 1, none⟩) (by simp <;> omega)]; simp [go_sem]
  have z1 : w3.frozen? ⟨w.heap.size + 1, 1, none⟩ = false := by rw [hbE.frozen (p := ⟨w.heap.size + 1, 1, none⟩) (by simp <;> omega)]; simp [go_sem]
  have r2 : w3.cell? ⟨w.heap.size, 2, none⟩ = some (.int .i64 0) := by rw [hbE.cell (p := ⟨w.heap.size, 2, none⟩) (by simp <;> omega)]; simp [go_sem]
  have y2 : w3.frozen? ⟨w.heap.size, 2, none⟩ = false := by rw [hbE.frozen (p := ⟨w.heap.size, 2, none⟩) (by simp <;> omega)]; simp [go_sem]
  have q2 : w3.cell? ⟨w.heap.size + 1, 2, none⟩ = some (.int .i64 f2) := by rw [hbE.cell (p := ⟨w.heap.size + 1, 2, none⟩) (by simp <;> omega)]; simp [go_sem]
  have z2 : w3.frozen? ⟨w.heap.size + 1, 2, none⟩ = false := by rw [hbE.frozen (p := ⟨w.heap.size + 1, 2, none⟩) (by simp <;> omega)]; simp [go_sem]
  have r3 : w3.cell? ⟨w.heap.size, 3, none⟩ = some (.int .i64 0) := by rw [hbE.cell (p := ⟨w.heap.size, 3, none⟩) (by simp <;> omega)]; simp [go_sem]
  have y3 : w3.frozen? ⟨w.heap.size, 3, none⟩ = false := by rw [hbE.frozen (p := ⟨w.heap.size, 3, none⟩) (by simp <;> omega)]; simp [go_sem]
  have q3 : w3.cell? ⟨w.heap.size + 1, 3, none⟩ = some (.int .i64 f3) := by rw [hbE.cell (p := ⟨w.heap.size + 1, 3, none⟩) (by simp <;> omega)]; simp [go_sem]
  have z3 : w3.frozen? ⟨w.heap.size + 1, 3, none⟩ = false := by rw [hbE.frozen (p := ⟨w.heap.size + 1, 3, none⟩) (by simp <;> omega)]; simp [go_sem]
  have r4 : w3.cell? ⟨w.heap.size, 4, none⟩ = some (.slice none 0 0) := by rw [hbE.cell (p := ⟨w.heap.size, 4, none⟩) (by simp <;> omega)]; simp [go_sem]
  have y4 : w3.frozen? ⟨w.heap.size, 4, none⟩ = false := by rw [hbE.frozen (p := ⟨w.heap.size, 4, none⟩) (by simp <;> omega)]; simp [go_sem]
  have q4 : w3.cell? ⟨w.heap.size + 1, 4, none⟩ = some (.slice (some ⟨b, off, none⟩) es.length c) := by rw [hbE.cell (p := ⟨w.heap.size + 1, 4, none⟩) (by simp <;> omega)]; simp [go_sem]
  have z4 : w3.frozen? ⟨w.heap.size + 1, 4, none⟩ = false := by rw [hbE.frozen (p := ⟨w.heap.size + 1, 4, none⟩) (by simp <;> omega)]; simp [go_sem]
  have FB := Lib.hid (show Below w.heap.size w w3 from Below.trans (by go_grown) (hbE.mono (by omega)))
  have HO := Lib.hid (own_of (w := w3) (B := w.heap.size + 1 + 1) (g := g) (cap := cap) HNE.out hown)
  clear hown hgrow hg hbE hgl c0 c1 c2 c3 c4
  go_wp2
  have hgB : w.heap.size + 1 + 1 ≤ g := HO.out.choose_spec.1
  refine bodyPost_ret (v := .agg #[.int .i64 f0, .int .i64 f1, .int .i64 f2, .int .i64 f3, .slice (some ⟨g, 0, none⟩) es.length cap]) (by simp [results, Try.results88, go_sem, r0, y0, q0, z0, r1, y1, q1, z1, r2, y2, q2, z2, r3, y3, q3, z3, r4, y4, q4, z4]) rfl ⟨g, cap, rfl, ?_, ?_⟩
  · refine (HO.out.mono (by omega)).keep ?_
    simp only [World.setCell, Array.getElem?_modify]
    rw [if_neg (by omega), if_neg (by omega), if_neg (by omega), if_neg (by omega), if_neg (by omega), if_neg (by omega)]
  · exact ((((((FB.out).setCell (by simp <;> omega) _).setCell (by simp <;> omega) _).setCell (by simp <;> omega) _).setCell (by simp <;> omega) _).setCell (by simp <;> omega) _).setCell (by simp <;> omega) _
end Go.Proofs.Ytllcbiafghhcmaa
