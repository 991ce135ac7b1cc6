/- spec.l12Bent, spec.DrawNewDevice -/
import Derived.Test.YtllcbiafghhcmaaPkFnDeviceOrderDraw12
import Derived.Deep.RegionLaw
namespace Go.Proofs.Ytllcbiafghhcmaa
open Go.RowKit
set_option linter.unusedVariables false
set_option linter.unusedSimpArgs false
set_option maxRecDepth 20000
/-- Where the bending of a disc stands: the disc in its box, the result's box, the sectors, the source, the frame. -/
def BP (W w : World) (p Q : Nat) (a : Option Addr) (n cap k K : Nat) (A B C D : Int) (g L c : Nat) (es : List SectorV) (kk : Nat) : Prop :=
  (es.length = L ∧ 1 ≤ L ∧ L ≤ 31 ∧ ∀ e ∈ es, e.f0.size ≤ 60) ∧ OwnBlk W (w.heap.size + 1) g es ∧ BoxF W Q #[.int .i64 A, .int .i64 B, .int .i64 C, .int .i64 D, .slice (some ⟨g, 0, none⟩) L c] ∧ BoxF W w.heap.size #[.int .i64 0, .int .i64 0, .int .i64 0, .int .i64 0, .slice none 0 0] ∧ (k ≤ kk ∧ kk ≤ k + K ∧ SrcAt W p a n cap kk) ∧ Sf p w W ∧ w.heap.size < Q ∧ Q < W.heap.size ∧ Q ≠ g
theorem BP.facts {W w : World} {p Q : Nat} {a : Option Addr} {n cap k K : Nat} {A B C D : Int} {g L c : Nat} {es : List SectorV} {kk : Nat} (h : BP W w p Q a n cap k K A B C D g L c es kk) :
    g ≠ p ∧ Q ≠ p ∧ w.heap.size ≠ p ∧ w.heap.size ≠ g ∧ p < W.heap.size ∧ w.heap.size < W.heap.size := by
  obtain ⟨_, h2, _, _, _, h6, h7, h8, _⟩ := h
  have hg := h2.choose_spec.1
  have hp := h6.1
  have hz := h6.2.2.1
  exact ⟨by omega, by omega, by omega, by omega, by omega, by omega⟩
theorem BP.chose {W W' w : World} {p Q : Nat} {a : Option Addr} {n cap k K d : Nat} {A B C D : Int} {g L c : Nat} {es : List SectorV} {kk : Nat} (h : BP W w p Q a n cap k K A B C D g L c es kk) (hc : ChoseF p a n cap kk d W W') :
    ∃ k2, BP W' w p Q a n cap k (K + d) A B C D g L c es k2 := by
  obtain ⟨f1, f2, f3, f4, f5, f6⟩ := h.facts
  obtain ⟨h1, h2, h3, h4, ⟨h50, h51, h52⟩, h6, h7, h8, h9⟩ := h
  obtain ⟨k2, q1, q2, q3, q4⟩ := hc
  exact ⟨k2, h1, h2.sf q4 f1, h3.sf q4 h8 f2, h4.sf q4 f6 f3, ⟨by omega, by omega, q3⟩, h6.trans q4, h7, Nat.lt_of_lt_of_le h8 q4.2.2.1, h9⟩
theorem BP.le {W w : World} {p Q : Nat} {a : Option Addr} {n cap k K K' : Nat} {A B C D : Int} {g L c : Nat} {es : List SectorV} {kk : Nat} (h : BP W w p Q a n cap k K A B C D g L c es kk) (hK : K ≤ K') : BP W w p Q a n cap k K' A B C D g L c es kk := by
  obtain ⟨h1, h2, h3, h4, ⟨h50, h51, h52⟩, h6⟩ := h
  exact ⟨h1, h2, h3, h4, ⟨h50, by omega, h52⟩, h6⟩
/-- A number of the disc is set. -/
theorem BP.box {W w : World} {p Q : Nat} {a : Option Addr} {n cap k K : Nat} {A B C D : Int} {g L c : Nat} {es : List SectorV} {kk : Nat} (ha : CodeLt a n w.heap.size) (h : BP W w p Q a n cap k K A B C D g L c es kk) (i : Nat) (z : Int) (hi : i = 0 ∨ i = 3) :
    BP (W.setCell ⟨Q, i, none⟩ (.int .i64 z)) w p Q a n cap k K (if i = 0 then z else A) B C (if i = 3 then z else D) g L c es kk := by
  obtain ⟨f1, f2, f3, f4, f5, f6⟩ := h.facts
  obtain ⟨h1, h2, h3, h4, ⟨h50, h51, h52⟩, h6, h7, h8, h9⟩ := h
  refine ⟨h1, h2.keep (heap_setCell_ne _ _ _ _ _ (Ne.symm h9)), ?_, h4.kept (heap_setCell_ne _ _ _ _ _ (by omega)), ⟨h50, h51, h52.own ha h6.1 (by omega)⟩, h6.setCell _ _ _ (by omega), h7, by simpa [World.setCell] using h8, h9⟩
  rcases hi with rfl | rfl
  · exact h3.put 0 (.int .i64 z) (by simp)
  · exact h3.put 3 (.int .i64 z) (by simp)
/-- The sectors' row is written. -/
theorem BP.row {W W' w : World} {p Q : Nat} {a : Option Addr} {n cap k K : Nat} {A B C D : Int} {g L c : Nat} {es es' : List SectorV} {kk : Nat} (ha : CodeLt a n w.heap.size) (h : BP W w p Q a n cap k K A B C D g L c es kk)
    (ho : OwnBlk W' (w.heap.size + 1) g es') (hl : es'.length = es.length) (hs : ∀ e ∈ es', e.f0.size ≤ 60) (hz : W'.heap.size = W.heap.size) (hk : ∀ b, b ≠ g → W'.heap[b]? = W.heap[b]?) (hb : Below (w.heap.size + 1) W W') : BP W' w p Q a n cap k K A B C D g L c es' kk := by
  obtain ⟨f1, f2, f3, f4, f5, f6⟩ := h.facts
  obtain ⟨h1, h2, h3, h4, ⟨h50, h51, h52⟩, h6, h7, h8, h9⟩ := h
  exact ⟨⟨by rw [hl]; exact h1.1, h1.2.1, h1.2.2.1, hs⟩, ho, h3.kept (hk Q h9), h4.kept (hk _ f4), ⟨h50, h51, h52.below (C := w.heap.size) ha (hb.mono (by omega)) h6.1⟩, h6.grow (hb.mono (by omega)), h7, by rw [hz]; exact h8, h9⟩
theorem BP.fin {W w : World} {p Q : Nat} {a : Option Addr} {n cap k K : Nat} {A B C D : Int} {g L c : Nat} {es : List SectorV} {kk : Nat} (ha : CodeLt a n w.heap.size) (h : BP W w p Q a n cap k K A B C D g L c es kk) (v0 v1 v2 v3 v4 : Value) :
    OwnBlk (((((W.setCell ⟨w.heap.size, 0, none⟩ v0).setCell ⟨w.heap.size, 1, none⟩ v1).setCell ⟨w.heap.size, 2, none⟩ v2).setCell ⟨w.heap.size, 3, none⟩ v3).setCell ⟨w.heap.size, 4, none⟩ v4) w.heap.size g es ∧ ChoseF p a n cap k K w (((((W.setCell ⟨w.heap.size, 0, none⟩ v0).setCell ⟨w.heap.size, 1, none⟩ v1).setCell ⟨w.heap.size, 2, none⟩ v2).setCell ⟨w.heap.size, 3, none⟩ v3).setCell ⟨w.heap.size, 4, none⟩ v4) := by
  obtain ⟨f1, f2, f3, f4, f5, f6⟩ := h.facts
  obtain ⟨h1, h2, h3, h4, ⟨h50, h51, h52⟩, h6, h7, h8, h9⟩ := h
  have hp := h6.1
  exact ⟨(h2.mono (by omega)).keep (by rw [heap_setCell_ne _ _ _ _ _ (Ne.symm f4), heap_setCell_ne _ _ _ _ _ (Ne.symm f4), heap_setCell_ne _ _ _ _ _ (Ne.symm f4), heap_setCell_ne _ _ _ _ _ (Ne.symm f4), heap_setCell_ne _ _ _ _ _ (Ne.symm f4)]),
    kk, h50, h51, ((((h52.own ha hp (Nat.le_refl _)).own ha hp (Nat.le_refl _)).own ha hp (Nat.le_refl _)).own ha hp (Nat.le_refl _)).own ha hp (Nat.le_refl _),
    ((((h6.setCell _ _ _ (Nat.le_refl _)).setCell _ _ _ (Nat.le_refl _)).setCell _ _ _ (Nat.le_refl _)).setCell _ _ _ (Nat.le_refl _)).setCell _ _ _ (Nat.le_refl _)⟩
def DrB (x : DiscV) : Prop := 1 ≤ x.f4.length ∧ x.f4.length ≤ 31 ∧ ∀ e ∈ x.f4, e.f0.size ≤ 60
theorem ints_of {w : World} {T : TypeId} (l : List Int) : Ints (w.alloc (.cells (l.map (Value.int .i64)).toArray T)) w.heap.size 0 l := by
  intro i x hx
  have h := heap_alloc_new w (.cells (l.map (Value.int .i64)).toArray T)
  have hi := (List.getElem?_eq_some_iff.1 hx).1
  unfold World.cell?
  dsimp only
  rw [h]
  simp [hx]
theorem BP.st {W w : World} {p Q : Nat} {a : Option Addr} {n cap k K : Nat} {A B C D : Int} {g L c : Nat} {es : List SectorV} {kk : Nat} (ha : CodeLt a n w.heap.size) (h : BP W w p Q a n cap k K A B C D g L c es kk) (i : Nat) (e : SectorV) (he : es[i]? = some e) (z : Int) :
    BP (W.setCell ⟨g, i * 2 + 1, none⟩ (.int .i64 z)) w p Q a n cap k K A B C D g L c (es.set i ⟨e.f0, z⟩) kk := by
  have hg := h.2.1.choose_spec.1
  refine h.row ha (h.2.1.put1 i e he z) (by simp) (fun e' he' => ?_) (by simp [World.setCell]) (fun b hb => heap_setCell_ne _ _ _ _ _ hb) ((Below.refl _ _).setCell (p := ⟨g, i * 2 + 1, none⟩) hg _)
  rcases List.mem_or_eq_of_mem_set he' with h9 | h9
  · exact h.1.2.2.2 e' h9
  · rw [h9]; exact h.1.2.2.2 e (List.mem_of_getElem? he)
theorem BP.dt {W w : World} {p Q : Nat} {a : Option Addr} {n cap k K : Nat} {A B C D : Int} {g L c : Nat} {es : List SectorV} {kk : Nat} (ha : CodeLt a n w.heap.size) (h : BP W w p Q a n cap k K A B C D g L c es kk) (i : Nat) (e : SectorV) (he : es[i]? = some e) (s : ByteArray) (hs : s.size ≤ 60) :
    BP (W.setCell ⟨g, i * 2, none⟩ (.string s)) w p Q a n cap k K A B C D g L c (es.set i ⟨s, e.f1⟩) kk := by
  have hg := h.2.1.choose_spec.1
  refine h.row ha (h.2.1.put0 i e he s) (by simp) (fun e' he' => ?_) (by simp [World.setCell]) (fun b hb => heap_setCell_ne _ _ _ _ _ hb) ((Below.refl _ _).setCell (p := ⟨g, i * 2, none⟩) hg _)
  rcases List.mem_or_eq_of_mem_set he' with h9 | h9
  · exact h.1.2.2.2 e' h9
  · rw [h9]; exact hs
theorem BP.alloc {W w : World} {p Q : Nat} {a : Option Addr} {n cap k K : Nat} {A B C D : Int} {g L c : Nat} {es : List SectorV} {kk : Nat} (ha : CodeLt a n w.heap.size) (h : BP W w p Q a n cap k K A B C D g L c es kk) (o : Obj) : SrcAt (W.alloc o) p a n cap kk ∧ Sf p W (W.alloc o) ∧ CodeLt a n W.heap.size := by
  obtain ⟨f1, f2, f3, f4, f5, f6⟩ := h.facts
  obtain ⟨h1, h2, h3, h4, ⟨h50, h51, h52⟩, h6, h7, h8, h9⟩ := h
  have hz := h6.2.2.1
  exact ⟨h52.below (ha.mono hz) ((Below.refl _ _).alloc (Nat.le_refl _) o) f5, (Sf.refl f5).alloc o, ha.mono hz⟩
theorem BP.app {W w wA : World} {p Q : Nat} {a : Option Addr} {n cap k K : Nat} {A B C D : Int} {g L c : Nat} {es : List SectorV} {kk : Nat} (ha : CodeLt a n w.heap.size) (h : BP W w p Q a n cap k K A B C D g L c es kk) (o : Obj) (e0 : SectorV) (hs : e0.f0.size ≤ 60) (hL : L ≤ 30) {g4 c4 : Nat}
    (ho : OwnR rowSector 39 2 wA (w.heap.size + 1) (.slice (some ⟨g4, 0, none⟩) (L + 1) c4) (es ++ [e0])) (hgr : (W.alloc o).drew.grownBy wA (some g)) (hb : Below (w.heap.size + 1) (W.alloc o).drew wA) :
    BP (wA.setCell ⟨Q, 4, none⟩ (.slice (some ⟨g4, 0, none⟩) (L + 1) c4)) w p Q a n cap k K A B C D g4 (L + 1) c4 (es ++ [e0]) kk ∧ wA.cell? ⟨Q, 4, none⟩ = some (.slice (some ⟨g, 0, none⟩) L c) ∧ wA.frozen? ⟨Q, 4, none⟩ = false := by
  obtain ⟨f1, f2, f3, f4, f5, f6⟩ := h.facts
  obtain ⟨q1, q2, q3⟩ := h.alloc ha o
  obtain ⟨h1, h2, h3, h4, ⟨h50, h51, h52⟩, h6, h7, h8, h9⟩ := h
  have hz := hb.size
  have hz0 : W.heap.size < (W.alloc o).drew.heap.size := by show W.heap.size < (W.alloc o).heap.size; simp
  have kp : ∀ b, b < W.heap.size → b ≠ g → wA.heap[b]? = W.heap[b]? := fun b hb' hne => (hgr.block b (by omega) (fun e => hne (by cases e; rfl))).trans (((Below.refl W.heap.size W).alloc (Nat.le_refl _) o).block b hb')
  have hQ := h3.kept (kp Q h8 h9)
  have hR := h4.kept (kp _ f6 f4)
  have hl9 : (es ++ [e0]).length = L + 1 := by simp [h1.1]
  have hO : OwnBlk wA (w.heap.size + 1) g4 (es ++ [e0]) := own_of (by simp) (by rw [hl9]; exact ho)
  have hg4 : Q ≠ g4 := by
    intro e
    subst e
    obtain ⟨x, hx⟩ : ∃ x, (es ++ [e0])[0]? = some x := ⟨(es ++ [e0])[0]'(by omega), by simp [hl9]⟩
    have c1 := (hO.cell hx).1
    have c2 := (hQ 0 _ rfl).1
    rw [Nat.zero_mul, c2] at c1
    cases c1
  have hsf : Sf p w wA := ((h6.alloc o).drew).grow (hb.mono (by omega))
  refine ⟨⟨⟨hl9, by omega, by omega, fun e he => ?_⟩, hO.keep (heap_setCell_ne _ _ _ _ _ (Ne.symm hg4)), hQ.put 4 _ (by simp), hR.kept (heap_setCell_ne _ _ _ _ _ (by omega)), ⟨h50, h51, (q1.below (C := w.heap.size) (w := (W.alloc o).drew) ha (hb.mono (by omega)) h6.1).own ha h6.1 (by omega)⟩, hsf.setCell _ _ _ (by omega), h7, by show Q < (wA.setCell _ _).heap.size; simp [World.setCell]; omega, hg4⟩, (hQ 4 _ rfl).1, (hQ 4 _ rfl).2⟩
  rcases List.mem_append.1 he with h10 | h10
  · exact h1.2.2.2 e h10
  · rw [List.mem_singleton.1 h10]; exact hs
set_option maxHeartbeats 16000000 in
theorem l12Bent_any (nn : Int) (hnn : nn ≤ 1000) (p : Nat) (a : Option Addr) (n cap k : Nat) (w : World) (hn : n ≤ 1048576) (hk : k < 100000000) (ha : CodeLt a n w.heap.size) (h : SrcAt w p a n cap k) :
    Calls Try.prog 29 #[.pointer (some ⟨p, 0, none⟩), .int .i64 nn] w fun e w' => ∃ (x : DiscV) (g c : Nat), e = .returned (.agg #[.int .i64 x.f0, .int .i64 x.f1, .int .i64 x.f2, .int .i64 x.f3, .slice (some ⟨g, 0, none⟩) x.f4.length c]) ∧ DrB x ∧ OwnBlk w' w.heap.size g x.f4 ∧ ChoseF p a n cap k 20000 w w' := by
  have hp := h.lt
  go_enter Try.func29, Try.ntmps29
  go_upto_region 1 with (fail)
  have R0 := BoxF.new w #[.int .i64 0, .int .i64 0, .int .i64 0, .int .i64 0, .slice none 0 0] 26 _ rfl
  have S0 : SrcAt (w.alloc (.cells #[.int .i64 0, .int .i64 0, .int .i64 0, .int .i64 0, .slice none 0 0] 26)) p a n cap k := h.below ha (Below.alloc (Below.refl _ w) (Nat.le_refl _) _) hp
  have F0 := (Sf.refl hp).alloc (.cells #[.int .i64 0, .int .i64 0, .int .i64 0, .int .i64 0, .slice none 0 0] 26)
  have z0 : (w.alloc (.cells #[.int .i64 0, .int .i64 0, .int .i64 0, .int .i64 0, .slice none 0 0] 26)).heap.size = w.heap.size + 1 := by simp
  generalize w.alloc (.cells #[.int .i64 0, .int .i64 0, .int .i64 0, .int .i64 0, .slice none 0 0] 26) = W0 at *
  have DS := Lib.hid (l12DrawSmall_any p a n cap k W0 hn (by omega) (ha.mono (by omega)) S0)
  have HH0 := Lib.hid (And.intro R0 (And.intro F0 z0))
  clear R0 S0 F0 h z0
  go_wp2_with fail
  refine DS.out.mono ?_
  rintro e w1 ⟨⟨A, B, C, D, es⟩, g, c, rfl, hok, hown, hsc, k1, q1, q2, S1, G1⟩
  have hz0 := HH0.out.2.2
  rw [hz0] at hown
  have hgl := hown.lt
  have hg1 := hown.choose_spec.1
  have hz1 := G1.2.2.1
  have p1 : p < w1.heap.size := by omega
  obtain ⟨L, hL⟩ : ∃ L, es.length = L := ⟨_, rfl⟩
  have hWW : Below w1.heap.size w1 (w1.alloc (.cells #[.int .i64 A, .int .i64 B, .int .i64 C, .int .i64 D, .slice (some ⟨g, 0, none⟩) L c] 26)) := (Below.refl _ _).alloc (Nat.le_refl _) _
  have G2 := Sf.of_below p1 hWW
  have hok' : geoB A B C D = true ∧ 1 ≤ es.length ∧ es.length ≤ 30 ∧ ∀ e ∈ es, e.f0.size ≤ 32 := hok
  rw [hL] at hok'
  have HSC := Lib.hid (show SizC (w1.alloc (.cells #[.int .i64 A, .int .i64 B, .int .i64 C, .int .i64 D, .slice (some ⟨g, 0, none⟩) L c] 26)) g L c from (by have := hsc.sf G2 (by omega); simpa [hL] using this))
  have BP1 := Lib.hid (show BP (w1.alloc (.cells #[.int .i64 A, .int .i64 B, .int .i64 C, .int .i64 D, .slice (some ⟨g, 0, none⟩) L c] 26)) w p w1.heap.size a n cap k 10000 A B C D g L c es k1 from
    ⟨⟨hL, hok'.2.1, by omega, fun e he => by have := hok'.2.2.2 e he; omega⟩, hown.sf G2 (by omega), BoxF.new w1 _ _ _ rfl, (HH0.out.1.sf G1 (by omega) (by omega)).sf G2 (by omega) (by omega), ⟨q1, q2, S1.below (ha.mono (by omega)) hWW p1⟩, HH0.out.2.1.trans (G1.trans G2), by omega, by simp, by omega⟩)
  have HG := Lib.hid hok'.1
  have H32 := Lib.hid hok'.2.2.2
  have hL1 := hok'.2.1
  have hL2 := hok'.2.2.1
  have HLE := Lib.hid hL
  dsimp only
  rw [hL]
  clear hown hsc S1 G1 G2 hWW hok hok' DS HH0 hL
  go_upto_region 2 with (fail)
  generalize w1.alloc (.cells #[.int .i64 A, .int .i64 B, .int .i64 C, .int .i64 D, .slice (some ⟨g, 0, none⟩) L c] 26) = W at *
  generalize w1.heap.size = Q at *
  obtain ⟨f1, f2, f3, f4, f5, f6⟩ := BP1.out.facts
  have O1 := Lib.hid (one_any nn p a n cap k1 W (by omega) hn (by omega) BP1.out.2.2.2.2.1.2.2)
  go_wp2_with fail
  refine O1.out.mono ?_
  rintro e w2 ⟨b, rfl, hch⟩
  obtain ⟨k2, hbp⟩ := BP1.out.chose (Chose.f f5 hch)
  have HSC2 := Lib.hid (HSC.out.sf (Sf.only f5 hch.choose_spec.2.2.2) f1)
  have BP2 := Lib.hid hbp
  clear hch hbp O1 BP1 HSC
  cases b with
  | false =>
    obtain ⟨y0, _⟩ := BP2.out.2.2.1 0 _ rfl
    obtain ⟨y1, _⟩ := BP2.out.2.2.1 1 _ rfl
    obtain ⟨y2, _⟩ := BP2.out.2.2.1 2 _ rfl
    obtain ⟨y3, _⟩ := BP2.out.2.2.1 3 _ rfl
    obtain ⟨y4, _⟩ := BP2.out.2.2.1 4 _ rfl
    obtain ⟨t0, f0⟩ := BP2.out.2.2.2.1 0 _ rfl
    obtain ⟨t1, f1⟩ := BP2.out.2.2.2.1 1 _ rfl
    obtain ⟨t2, f2⟩ := BP2.out.2.2.2.1 2 _ rfl
    obtain ⟨t3, f3⟩ := BP2.out.2.2.2.1 3 _ rfl
    obtain ⟨t4, f4⟩ := BP2.out.2.2.2.1 4 _ rfl
    go_wp2
    refine bodyPost_ret (v := .agg #[.int .i64 A, .int .i64 B, .int .i64 C, .int .i64 D, .slice (some ⟨g, 0, none⟩) L c]) (by simp [results, Try.results29, go_sem, t0, t1, t2, t3, t4]) rfl ?_
    obtain ⟨z1, z2⟩ := (BP2.out.le (K' := 20000) (by omega)).fin ha (.int .i64 A) (.int .i64 B) (.int .i64 C) (.int .i64 D) (.slice (some ⟨g, 0, none⟩) L c)
    obtain ⟨⟨hl9, hl1, hl2, hs9⟩, _⟩ := BP2.out
    refine Exists.intro (⟨A, B, C, D, es⟩ : DiscV) (Exists.intro g ?_)
    first
      | exact Exists.intro c (And.intro (by dsimp only; rw [hl9]) (And.intro ⟨by show 1 ≤ (es).length; omega, by show (es).length ≤ 31; omega, hs9⟩ (And.intro z1 z2)))
      | exact And.intro (Exists.intro c (by dsimp only; rw [hl9])) (And.intro ⟨by show 1 ≤ (es).length; omega, by show (es).length ≤ 31; omega, hs9⟩ (And.intro z1 z2))
  | true =>
    obtain ⟨x4, _⟩ := BP2.out.2.2.1 4 _ rfl
    obtain ⟨f1, f2, f3, f4, f5, f6⟩ := BP2.out.facts
    have P1 := Lib.hid (pick_any (L : Int) p a n cap k2 w2 (by omega) hn (by have := BP2.out.2.2.2.2.1.2.1; omega) BP2.out.2.2.2.2.1.2.2)
    go_wp2_with fail
    refine P1.out.mono ?_
    rintro e w3 ⟨v6, rfl, a0, a1, hch⟩
    obtain ⟨j, rfl⟩ : ∃ j : Nat, v6 = (j : Int) := ⟨v6.toNat, by omega⟩
    have hjL : j < L := by omega
    obtain ⟨k3, hbp⟩ := BP2.out.chose (Chose.f f5 hch)
    have HSC3 := Lib.hid (HSC2.out.sf (Sf.only f5 hch.choose_spec.2.2.2) f1)
    have BP3 := Lib.hid hbp
    clear hch hbp P1 BP2 HSC2 x4
    obtain ⟨f1, f2, f3, f4, f5, f6⟩ := BP3.out.facts
    have P2 := Lib.hid (pick_any 6 p a n cap k3 w3 (by omega) hn (by have := BP3.out.2.2.2.2.1.2.1; omega) BP3.out.2.2.2.2.1.2.2)
    go_wp2_with fail
    refine P2.out.mono ?_
    rintro e w4 ⟨v20, rfl, b0, b1, hch⟩
    obtain ⟨k4, hbp⟩ := BP3.out.chose (Chose.f f5 hch)
    have HSC4 := Lib.hid (HSC3.out.sf (Sf.only f5 hch.choose_spec.2.2.2) f1)
    have BP4 := Lib.hid hbp
    clear hch hbp P2 BP3 HSC3
    obtain ⟨f1, f2, f3, f4, f5, f6⟩ := BP4.out.facts
    obtain ⟨x4, u4⟩ := BP4.out.2.2.1 4 _ rfl
    obtain ⟨x3, u3⟩ := BP4.out.2.2.1 3 _ rfl
    obtain ⟨x0, u0⟩ := BP4.out.2.2.1 0 _ rfl
    have hk4 := BP4.out.2.2.2.2.1.2.1
    obtain ⟨e, he⟩ : ∃ e, es[j]? = some e := ⟨es[j]'(by rw [HLE.out]; exact hjL), by simp [HLE.out, hjL]⟩
    obtain ⟨c0, c1⟩ := BP4.out.2.1.cell he
    have g0 := BP4.out.2.1.free (j * 2)
    have hsz := H32.out e (List.mem_of_getElem? he)
    have hjL2 : (j : Int) < (L : Int) := by omega
    have h6 : v20 = 0 ∨ v20 = 1 ∨ v20 = 2 ∨ v20 = 3 ∨ v20 = 4 ∨ v20 = 5 := by omega
    clear b0 b1 a0 a1
    rcases h6 with rfl | rfl | rfl | rfl | rfl | rfl
    · obtain ⟨S5, G5, H5⟩ := BP4.out.alloc ha (.cells #[.int .i64 0, .int .i64 5] 2)
      have HCA := Lib.hid (show Sf p w4 (w4.alloc (.cells #[.int .i64 0, .int .i64 5] 2)).drew from G5.drew)
      have hz5 : p < (w4.alloc (.cells #[.int .i64 0, .int .i64 5] 2)).drew.heap.size := by simp; omega
      have AM := Lib.hid (among_any w4.heap.size 2 [0, 5] p a n cap k4 (w4.alloc (.cells #[.int .i64 0, .int .i64 5] 2)).drew (by decide) (by decide) (by omega) (by exact ints_of [0, 5]) hn (by omega) (by exact S5))
      clear S5 G5 H5
      have KS := Lib.hid (fun w' (hb : Sf p w4 w') => (show w'.cell? ⟨Q, 4, none⟩ = some (.slice (some ⟨g, 0, none⟩) L c) from ((BP4.out.2.2.1.sf hb BP4.out.2.2.2.2.2.2.2.1 f2) 4 _ rfl).1))
      have HC := Lib.hid (show Sf p w4 w4.drew from (Sf.refl f5).drew)
      clear c0 c1 g0 x4 u4 x3 u3 x0 u0
      go_upto_region 8 with (fail)
      refine wp_region_held_drew (S := (fun w' => w'.cell? ⟨Q, 4, none⟩ = some (.slice (some ⟨g, 0, none⟩) L c))) (by kernel_rfl) (KS.out _ HC.out) (fun hHeld => ?_)
      refine wpAnyH_take (i := 0) (oi := { dst := some 27, op := Op.fieldAddr 26 (Operand.tmp 5) 4, type := 0, pos := "l12_discs.go:258", after := #[], guard := none }) (v := ?_) rfl (by kernel_rfl) (by kernel_rfl) (by kernel_rfl) (fun _ _ _ h => h) (Or.inl ⟨by rfl, ?hy⟩) hHeld ?_
      case hy => (intro w' hSw; (try dsimp only at hSw); go_simp; try with_reducible rfl)
      simp only [Act.put, List.setIfInBounds_toArray, List.set_cons_zero, List.set_cons_succ]
      refine wpAnyH_take (i := 1) (oi := { dst := some 28, op := Op.load 24 (Operand.tmp 27), type := 24, pos := "l12_discs.go:258", after := #[{ on := 0, ground := Ground.data }], guard := none }) (v := ?_) rfl (by kernel_rfl) (by kernel_rfl) (by kernel_rfl) (fun _ _ _ h => h) (Or.inl ⟨by rfl, ?hy⟩) hHeld ?_
      case hy => (intro w' hSw; (try dsimp only at hSw); go_simp; try with_reducible rfl)
      simp only [Act.put, List.setIfInBounds_toArray, List.set_cons_zero, List.set_cons_succ]
      refine wpAnyH_take (i := 2) (oi := { dst := some 29, op := Op.move (Operand.tmp 6), type := 2, pos := "l12_discs.go:258", after := #[], guard := none }) (v := ?_) rfl (by kernel_rfl) (by kernel_rfl) (by kernel_rfl) (fun _ _ _ h => h) (Or.inl ⟨by rfl, ?hy⟩) hHeld ?_
      case hy => (intro w' hSw; (try dsimp only at hSw); go_simp; try with_reducible rfl)
      simp only [Act.put, List.setIfInBounds_toArray, List.set_cons_zero, List.set_cons_succ]
      refine wpAnyH_take (i := 3) (oi := { dst := some 30, op := Op.move (Operand.tmp 0), type := 64, pos := "l12_discs.go:258", after := #[], guard := none }) (v := ?_) rfl (by kernel_rfl) (by kernel_rfl) (by kernel_rfl) (fun _ _ _ h => h) (Or.inl ⟨by rfl, ?hy⟩) hHeld ?_
      case hy => (intro w' hSw; (try dsimp only at hSw); go_simp; try with_reducible rfl)
      simp only [Act.put, List.setIfInBounds_toArray, List.set_cons_zero, List.set_cons_succ]
      refine wpAnyH_ready (rs := [4]) (by kernel_rfl) (by simp) ?_
      refine AllReadyH.cons (o := { dst := some 31, op := Op.buildSlice 29 2 #[(0, Operand.const (Value.int IntKind.i64 0)), (1, Operand.const (Value.int IntKind.i64 5))], type := 29, pos := "l12_discs.go:258", after := #[], guard := none }) rfl (fun K hK => ?_) AllReadyH.nil
      go_simp
      refine hK.out _ _ (KS.out _ HCA.out) (fun hHeld => ?_)
      clear hK K
      try simp only [Act.put, List.setIfInBounds_toArray, List.set_cons_zero, List.set_cons_succ]
      refine wpAnyH_ready (rs := [5]) (by kernel_rfl) (by simp) ?_
      refine AllReadyH.cons (o := { dst := some 32, op := Op.call { callee := Callee.value (Operand.func 30), args := #[Operand.tmp 30, Operand.tmp 31], argTypes := #[64, 29] }, type := 2, pos := "l12_discs.go:258", after := #[{ on := 3, ground := Ground.data }, { on := 4, ground := Ground.data }], guard := none }) rfl (fun K hK => ?_) AllReadyH.nil
      go_simp
      go_at_call 30; refine AM.out.mono ?_; rintro e_ w9 ⟨st, rfl, hst, hch⟩; obtain ⟨k8, u5, u6, S9, G9⟩ := Chose.f hz5 hch; replace HC := Lib.hid (HCA.out.trans G9); obtain ⟨k9, hbp⟩ := BP4.out.chose ⟨k8, u5, u6, S9, HC.out⟩; have BP9 := Lib.hid hbp; clear hbp
      go_wp2_with fail
      refine hK.out _ _ (KS.out _ HC.out) (fun hHeld => ?_)
      clear hK K
      try simp only [Act.put, List.setIfInBounds_toArray, List.set_cons_zero, List.set_cons_succ]
      refine wpAnyH_take (i := 6) (oi := { dst := some 33, op := Op.indexAddr 24 (Operand.tmp 28) (Operand.tmp 29), type := 0, pos := "l12_discs.go:258", after := #[{ on := 1, ground := Ground.data }, { on := 2, ground := Ground.data }, { on := 0, ground := Ground.phase }, { on := 1, ground := Ground.phase }, { on := 2, ground := Ground.phase }, { on := 3, ground := Ground.phase }, { on := 4, ground := Ground.phase }, { on := 5, ground := Ground.phase }], guard := none }) (v := ?_) rfl (by kernel_rfl) (by kernel_rfl) (by kernel_rfl) (fun _ _ _ h => h) (Or.inl ⟨by rfl, ?hy⟩) hHeld ?_
      case hy => (intro w' hSw; (try dsimp only at hSw); go_simp; try with_reducible rfl)
      simp only [Act.put, List.setIfInBounds_toArray, List.set_cons_zero, List.set_cons_succ]
      refine wpAnyH_take (i := 7) (oi := { dst := some 34, op := Op.fieldAddr 39 (Operand.tmp 33) 1, type := 0, pos := "l12_discs.go:258", after := #[{ on := 6, ground := Ground.data }, { on := 0, ground := Ground.phase }, { on := 1, ground := Ground.phase }, { on := 2, ground := Ground.phase }, { on := 3, ground := Ground.phase }, { on := 4, ground := Ground.phase }, { on := 5, ground := Ground.phase }], guard := none }) (v := ?_) rfl (by kernel_rfl) (by kernel_rfl) (by kernel_rfl) (fun _ _ _ h => h) (Or.inl ⟨by rfl, ?hy⟩) hHeld ?_
      case hy => (intro w' hSw; (try dsimp only at hSw); go_simp; try with_reducible rfl)
      simp only [Act.put, List.setIfInBounds_toArray, List.set_cons_zero, List.set_cons_succ]
      refine wpAnyH_ready (rs := [8]) (by kernel_rfl) (by simp) ?_
      refine AllReadyH.cons (o := { dst := none, op := Op.store 2 (Operand.tmp 34) (Operand.tmp 32), type := 0, pos := "l12_discs.go:258", after := #[{ on := 7, ground := Ground.data }, { on := 5, ground := Ground.data }, { on := 5, ground := Ground.chain }, { on := 0, ground := Ground.phase }, { on := 1, ground := Ground.phase }, { on := 2, ground := Ground.phase }, { on := 3, ground := Ground.phase }, { on := 4, ground := Ground.phase }, { on := 5, ground := Ground.phase }], guard := none }) rfl (fun K hK => ?_) AllReadyH.nil
      have cc0 := (BP9.out.2.1.cell he).2
      have ff0 := BP9.out.2.1.free (j * 2 + 1)
      go_simp
      refine hK.out _ _ (by rw [World.cell?_of_block (w := w9) (by exact heap_setCell_ne _ _ _ _ _ BP9.out.2.2.2.2.2.2.2.2)]; exact (KS.out _ HC.out)) (fun hHeld => ?_)
      clear hK K
      try simp only [Act.put, List.setIfInBounds_toArray, List.set_cons_zero, List.set_cons_succ]
      refine wpAnyH_done (by kernel_rfl) ?_ _
      have BPE := Lib.hid (BP9.out.st ha j e he st)
      clear hHeld HC KS AM HCA BP9 S9 G9
      generalize w9.setCell ⟨g, j * 2 + 1, none⟩ (.int .i64 st) = W9 at *
      obtain ⟨y0, _⟩ := BPE.out.2.2.1 0 _ rfl
      obtain ⟨y1, _⟩ := BPE.out.2.2.1 1 _ rfl
      obtain ⟨y2, _⟩ := BPE.out.2.2.1 2 _ rfl
      obtain ⟨y3, _⟩ := BPE.out.2.2.1 3 _ rfl
      obtain ⟨y4, _⟩ := BPE.out.2.2.1 4 _ rfl
      obtain ⟨t0, f0⟩ := BPE.out.2.2.2.1 0 _ rfl
      obtain ⟨t1, f1⟩ := BPE.out.2.2.2.1 1 _ rfl
      obtain ⟨t2, f2⟩ := BPE.out.2.2.2.1 2 _ rfl
      obtain ⟨t3, f3⟩ := BPE.out.2.2.2.1 3 _ rfl
      obtain ⟨t4, f4⟩ := BPE.out.2.2.2.1 4 _ rfl
      go_wp2
      refine bodyPost_ret (v := .agg #[.int .i64 A, .int .i64 B, .int .i64 C, .int .i64 D, .slice (some ⟨g, 0, none⟩) L c]) (by simp [results, Try.results29, go_sem, t0, t1, t2, t3, t4]) rfl ?_
      obtain ⟨z1, z2⟩ := (BPE.out.le (K' := 20000) (by omega)).fin ha (.int .i64 A) (.int .i64 B) (.int .i64 C) (.int .i64 D) (.slice (some ⟨g, 0, none⟩) L c)
      obtain ⟨⟨hl9, hl1, hl2, hs9⟩, _⟩ := BPE.out
      refine Exists.intro (⟨A, B, C, D, (es.set j ⟨e.f0, st⟩)⟩ : DiscV) (Exists.intro g ?_)
      first
        | exact Exists.intro c (And.intro (by dsimp only; rw [hl9]) (And.intro ⟨by show 1 ≤ ((es.set j ⟨e.f0, st⟩)).length; omega, by show ((es.set j ⟨e.f0, st⟩)).length ≤ 31; omega, hs9⟩ (And.intro z1 z2)))
        | exact And.intro (Exists.intro c (by dsimp only; rw [hl9])) (And.intro ⟨by show 1 ≤ ((es.set j ⟨e.f0, st⟩)).length; omega, by show ((es.set j ⟨e.f0, st⟩)).length ≤ 31; omega, hs9⟩ (And.intro z1 z2))
    · have hsz1 : (e.f0 ++ ⟨#[120]⟩).size ≤ 60 := by rw [ByteArray.size_append]; show e.f0.size + 1 ≤ 60; omega
      have BPE := Lib.hid (BP4.out.dt ha j e he (e.f0 ++ ⟨#[120]⟩) hsz1)
      go_upto_region 17 with (fail)
      clear c0 c1 g0 x4 u4 x3 u3 x0 u0
      generalize w4.setCell ⟨g, j * 2, none⟩ (.string (e.f0 ++ ⟨#[120]⟩)) = W9 at *
      obtain ⟨y0, _⟩ := BPE.out.2.2.1 0 _ rfl
      obtain ⟨y1, _⟩ := BPE.out.2.2.1 1 _ rfl
      obtain ⟨y2, _⟩ := BPE.out.2.2.1 2 _ rfl
      obtain ⟨y3, _⟩ := BPE.out.2.2.1 3 _ rfl
      obtain ⟨y4, _⟩ := BPE.out.2.2.1 4 _ rfl
      obtain ⟨t0, f0⟩ := BPE.out.2.2.2.1 0 _ rfl
      obtain ⟨t1, f1⟩ := BPE.out.2.2.2.1 1 _ rfl
      obtain ⟨t2, f2⟩ := BPE.out.2.2.2.1 2 _ rfl
      obtain ⟨t3, f3⟩ := BPE.out.2.2.2.1 3 _ rfl
      obtain ⟨t4, f4⟩ := BPE.out.2.2.2.1 4 _ rfl
      go_wp2
      refine bodyPost_ret (v := .agg #[.int .i64 A, .int .i64 B, .int .i64 C, .int .i64 D, .slice (some ⟨g, 0, none⟩) L c]) (by simp [results, Try.results29, go_sem, t0, t1, t2, t3, t4]) rfl ?_
      obtain ⟨z1, z2⟩ := (BPE.out.le (K' := 20000) (by omega)).fin ha (.int .i64 A) (.int .i64 B) (.int .i64 C) (.int .i64 D) (.slice (some ⟨g, 0, none⟩) L c)
      obtain ⟨⟨hl9, hl1, hl2, hs9⟩, _⟩ := BPE.out
      refine Exists.intro (⟨A, B, C, D, (es.set j ⟨e.f0 ++ ⟨#[120]⟩, e.f1⟩)⟩ : DiscV) (Exists.intro g ?_)
      first
        | exact Exists.intro c (And.intro (by dsimp only; rw [hl9]) (And.intro ⟨by show 1 ≤ ((es.set j ⟨e.f0 ++ ⟨#[120]⟩, e.f1⟩)).length; omega, by show ((es.set j ⟨e.f0 ++ ⟨#[120]⟩, e.f1⟩)).length ≤ 31; omega, hs9⟩ (And.intro z1 z2)))
        | exact And.intro (Exists.intro c (by dsimp only; rw [hl9])) (And.intro ⟨by show 1 ≤ ((es.set j ⟨e.f0 ++ ⟨#[120]⟩, e.f1⟩)).length; omega, by show ((es.set j ⟨e.f0 ++ ⟨#[120]⟩, e.f1⟩)).length ≤ 31; omega, hs9⟩ (And.intro z1 z2))
    · obtain ⟨e0, he0⟩ : ∃ e0, es[0]? = some e0 := ⟨_, List.getElem?_eq_getElem (by rw [HLE.out]; omega)⟩
      obtain ⟨d0, d1⟩ := BP4.out.2.1.cell he0
      rw [Nat.zero_mul] at d0 d1
      have hs0 := H32.out e0 (List.mem_of_getElem? he0)
      have HOW := Lib.hid (show OwnR rowSector 39 2 w4 (w.heap.size + 1) (.slice (some ⟨g, 0, none⟩) L c) es from (by have := SizC.own (es := es) (by rw [HLE.out]; exact HSC4.out) BP4.out.2.1; rwa [HLE.out] at this))
      have hB1 : w.heap.size + 1 ≤ w4.heap.size := by omega
      have hll : es.length < 1073741824 := by rw [HLE.out]; omega
      have hQl := BP4.out.2.2.2.2.2.2.2.1
      have hgl := BP4.out.2.1.lt
      have hL0 : (0 : Int) < (L : Int) := by omega
      have hL00 : 0 < L := by omega
      have HN := Lib.hid (heap_alloc_new w4 (.cells #[.string e0.f0, .int .i64 e0.f1] 39))
      clear c0 c1 g0 x3 u3 x0 u0 he
      go_upto_region 12 with (fail)
      go_region_law (first
          | (refine step_appendR 24 39 (.agg zeroSector.toArray) 24 Try.underlying24 infoSector (by rfl) (by omega) (by omega) (by rfl) _ _ (by rfl) (by rfl) (OwnR.drew (HOW.out.alloc _)) e0 rfl (by simp [rowSector, Value.oneCell']) ⟨w4.heap.size, 0, none⟩ 1 (by rfl) (World.news_of_block (cs := #[.string e0.f0, .int .i64 e0.f1]) (t := 39) (fr := (0, 0)) HN.out) hll (by simp; omega) ?_; intro g4 c4 wA hown4 hgr hb4; rw [HLE.out] at hown4; obtain ⟨hbpA, xA4, uA4⟩ := BP4.out.app ha _ e0 (by omega) (by omega) hown4 hgr hb4; have BPE := Lib.hid hbpA; clear hbpA hown4 hgr hb4)
          | fail)
      all_goals
        clear HN HOW d0 d1 he0
        rw [HLE.out]
        generalize wA.setCell ⟨Q, 4, none⟩ (.slice (some ⟨g4, 0, none⟩) (L + 1) c4) = W9 at *
        clear x4 u4 xA4 uA4
        obtain ⟨y0, _⟩ := BPE.out.2.2.1 0 _ rfl
        obtain ⟨y1, _⟩ := BPE.out.2.2.1 1 _ rfl
        obtain ⟨y2, _⟩ := BPE.out.2.2.1 2 _ rfl
        obtain ⟨y3, _⟩ := BPE.out.2.2.1 3 _ rfl
        obtain ⟨y4, _⟩ := BPE.out.2.2.1 4 _ rfl
        obtain ⟨t0, f0⟩ := BPE.out.2.2.2.1 0 _ rfl
        obtain ⟨t1, f1⟩ := BPE.out.2.2.2.1 1 _ rfl
        obtain ⟨t2, f2⟩ := BPE.out.2.2.2.1 2 _ rfl
        obtain ⟨t3, f3⟩ := BPE.out.2.2.2.1 3 _ rfl
        obtain ⟨t4, f4⟩ := BPE.out.2.2.2.1 4 _ rfl
        go_wp2
        refine bodyPost_ret (v := .agg #[.int .i64 A, .int .i64 B, .int .i64 C, .int .i64 D, .slice (some ⟨g4, 0, none⟩) (L + 1) c4]) (by simp [results, Try.results29, go_sem, t0, t1, t2, t3, t4]) rfl ?_
        obtain ⟨z1, z2⟩ := (BPE.out.le (K' := 20000) (by omega)).fin ha (.int .i64 A) (.int .i64 B) (.int .i64 C) (.int .i64 D) (.slice (some ⟨g4, 0, none⟩) (L + 1) c4)
        obtain ⟨⟨hl9, hl1, hl2, hs9⟩, _⟩ := BPE.out
        refine Exists.intro (⟨A, B, C, D, (es ++ [e0])⟩ : DiscV) (Exists.intro g4 ?_)
        exact Exists.intro c4 (And.intro (by dsimp only; rw [hl9]) (And.intro ⟨by show 1 ≤ ((es ++ [e0])).length; omega, by show ((es ++ [e0])).length ≤ 31; omega, hs9⟩ (And.intro z1 z2)))
    · obtain ⟨S5, G5, H5⟩ := BP4.out.alloc ha (.cells #[.int .i64 (-1), .int .i64 3, .int .i64 0, .int .i64 1] 2)
      have HCA := Lib.hid (show Sf p w4 (w4.alloc (.cells #[.int .i64 (-1), .int .i64 3, .int .i64 0, .int .i64 1] 2)) from G5)
      have hz5 : p < (w4.alloc (.cells #[.int .i64 (-1), .int .i64 3, .int .i64 0, .int .i64 1] 2)).heap.size := by simp; omega
      have AM := Lib.hid (among_any w4.heap.size 4 [-1, 3, 0, 1] p a n cap k4 (w4.alloc (.cells #[.int .i64 (-1), .int .i64 3, .int .i64 0, .int .i64 1] 2)) (by decide) (by decide) (by omega) (by exact ints_of [-1, 3, 0, 1]) hn (by omega) (by exact S5))
      clear S5 G5 H5
      clear c0 c1 g0
      go_wp2_with fail
      refine AM.out.mono ?_
      rintro e_ w9 ⟨st, rfl, hst, hch⟩
      obtain ⟨k8, u5, u6, S9, G9⟩ := Chose.f hz5 hch
      obtain ⟨k9, hbp⟩ := BP4.out.chose ⟨k8, u5, u6, S9, HCA.out.trans G9⟩
      have BP9 := Lib.hid hbp
      obtain ⟨x9, u9⟩ := hbp.2.2.1 3 _ rfl
      have BPE := Lib.hid (show BP (w9.setCell ⟨Q, 3, none⟩ (.int .i64 st)) w p Q a n cap k _ A B C st g L c es k9 from hbp.box ha 3 st (by simp))
      clear hbp hch S9 G9 AM HCA BP9 x4 u4 x3 u3 x0 u0
      go_upto_region 17 with (fail)
      generalize w9.setCell ⟨Q, 3, none⟩ (.int .i64 st) = W9 at *
      obtain ⟨y0, _⟩ := BPE.out.2.2.1 0 _ rfl
      obtain ⟨y1, _⟩ := BPE.out.2.2.1 1 _ rfl
      obtain ⟨y2, _⟩ := BPE.out.2.2.1 2 _ rfl
      obtain ⟨y3, _⟩ := BPE.out.2.2.1 3 _ rfl
      obtain ⟨y4, _⟩ := BPE.out.2.2.1 4 _ rfl
      obtain ⟨t0, f0⟩ := BPE.out.2.2.2.1 0 _ rfl
      obtain ⟨t1, f1⟩ := BPE.out.2.2.2.1 1 _ rfl
      obtain ⟨t2, f2⟩ := BPE.out.2.2.2.1 2 _ rfl
      obtain ⟨t3, f3⟩ := BPE.out.2.2.2.1 3 _ rfl
      obtain ⟨t4, f4⟩ := BPE.out.2.2.2.1 4 _ rfl
      go_wp2
      refine bodyPost_ret (v := .agg #[.int .i64 A, .int .i64 B, .int .i64 C, .int .i64 st, .slice (some ⟨g, 0, none⟩) L c]) (by simp [results, Try.results29, go_sem, t0, t1, t2, t3, t4]) rfl ?_
      obtain ⟨z1, z2⟩ := (BPE.out.le (K' := 20000) (by omega)).fin ha (.int .i64 A) (.int .i64 B) (.int .i64 C) (.int .i64 st) (.slice (some ⟨g, 0, none⟩) L c)
      obtain ⟨⟨hl9, hl1, hl2, hs9⟩, _⟩ := BPE.out
      refine Exists.intro (⟨A, B, C, st, es⟩ : DiscV) (Exists.intro g ?_)
      first
        | exact Exists.intro c (And.intro (by dsimp only; rw [hl9]) (And.intro ⟨by show 1 ≤ (es).length; omega, by show (es).length ≤ 31; omega, hs9⟩ (And.intro z1 z2)))
        | exact And.intro (Exists.intro c (by dsimp only; rw [hl9])) (And.intro ⟨by show 1 ≤ (es).length; omega, by show (es).length ≤ 31; omega, hs9⟩ (And.intro z1 z2))
    · obtain ⟨M, hM, _, hM3⟩ := secN_three (geoSz HG.out)
      have LB := Lib.hid (fun w => l12Bytes_any D M w (geoSz HG.out) hM)
      have ZE := Lib.hid (fun w => (show Calls Try.prog 67 #[.int .i64 ((M : Int) - 1)] w fun e w' => e = .returned (.string (zerosS (M - 1))) ∧ Below w.heap.size w w' from by rw [show (M : Int) - 1 = ((M - 1 : Nat) : Int) by omega]; exact l01Zeros_any (M - 1) (by omega) w))
      have hzs := zerosS_size (M - 1)
      have hsA : ((⟨#[65]⟩ : ByteArray) ++ zerosS (M - 1)).size ≤ 60 := by rw [ByteArray.size_append, hzs]; show 1 + (M - 1) ≤ 60; omega
      have hM4 : 8 ≤ M ∧ M ≤ 32 := by omega
      have hwM : IntKind.i64.wrap ((M : Int) - 1) = (M : Int) - 1 := IntWalk.i64_in _ (by omega)
      have HM := Lib.hid (And.intro hM hM3); clear hM hM3
      generalize zerosS (M - 1) = zz at *
      have KS := Lib.hid (fun w' (hb : Sf p w4 w') => (show w'.cell? ⟨Q, 3, none⟩ = some (.int .i64 D) ∧ w'.cell? ⟨Q, 4, none⟩ = some (.slice (some ⟨g, 0, none⟩) L c) from ⟨((BP4.out.2.2.1.sf hb BP4.out.2.2.2.2.2.2.2.1 f2) 3 _ rfl).1, ((BP4.out.2.2.1.sf hb BP4.out.2.2.2.2.2.2.2.1 f2) 4 _ rfl).1⟩))
      have HC := Lib.hid (show Sf p w4 w4.drew from (Sf.refl f5).drew)
      clear c0 c1 g0 x4 u4 x3 u3 x0 u0
      go_upto_region 16 with (fail)
      refine wp_region_held_drew (S := (fun w' => w'.cell? ⟨Q, 3, none⟩ = some (.int .i64 D) ∧ w'.cell? ⟨Q, 4, none⟩ = some (.slice (some ⟨g, 0, none⟩) L c))) (by kernel_rfl) (KS.out _ HC.out) (fun hHeld => ?_)
      refine wpAnyH_take (i := 0) (oi := { dst := some 65, op := Op.fieldAddr 26 (Operand.tmp 5) 4, type := 0, pos := "l12_discs.go:266", after := #[], guard := none }) (v := ?_) rfl (by kernel_rfl) (by kernel_rfl) (by kernel_rfl) (fun _ _ _ h => h) (Or.inl ⟨by rfl, ?hy⟩) hHeld ?_
      case hy => (intro w' hSw; (try dsimp only at hSw); go_simp; try with_reducible rfl)
      simp only [Act.put, List.setIfInBounds_toArray, List.set_cons_zero, List.set_cons_succ]
      refine wpAnyH_take (i := 1) (oi := { dst := some 66, op := Op.load 24 (Operand.tmp 65), type := 24, pos := "l12_discs.go:266", after := #[{ on := 0, ground := Ground.data }], guard := none }) (v := ?_) rfl (by kernel_rfl) (by kernel_rfl) (by kernel_rfl) (fun _ _ _ h => h) (Or.inl ⟨by rfl, ?hy⟩) hHeld ?_
      case hy => (intro w' hSw; (try dsimp only at hSw); go_simp; try with_reducible rfl)
      simp only [Act.put, List.setIfInBounds_toArray, List.set_cons_zero, List.set_cons_succ]
      refine wpAnyH_take (i := 2) (oi := { dst := some 67, op := Op.move (Operand.tmp 6), type := 2, pos := "l12_discs.go:266", after := #[], guard := none }) (v := ?_) rfl (by kernel_rfl) (by kernel_rfl) (by kernel_rfl) (fun _ _ _ h => h) (Or.inl ⟨by rfl, ?hy⟩) hHeld ?_
      case hy => (intro w' hSw; (try dsimp only at hSw); go_simp; try with_reducible rfl)
      simp only [Act.put, List.setIfInBounds_toArray, List.set_cons_zero, List.set_cons_succ]
      refine wpAnyH_take (i := 3) (oi := { dst := some 68, op := Op.fieldAddr 26 (Operand.tmp 5) 3, type := 0, pos := "l12_discs.go:266", after := #[], guard := none }) (v := ?_) rfl (by kernel_rfl) (by kernel_rfl) (by kernel_rfl) (fun _ _ _ h => h) (Or.inl ⟨by rfl, ?hy⟩) hHeld ?_
      case hy => (intro w' hSw; (try dsimp only at hSw); go_simp; try with_reducible rfl)
      simp only [Act.put, List.setIfInBounds_toArray, List.set_cons_zero, List.set_cons_succ]
      refine wpAnyH_take (i := 4) (oi := { dst := some 69, op := Op.load 2 (Operand.tmp 68), type := 2, pos := "l12_discs.go:266", after := #[{ on := 3, ground := Ground.data }], guard := none }) (v := ?_) rfl (by kernel_rfl) (by kernel_rfl) (by kernel_rfl) (fun _ _ _ h => h) (Or.inl ⟨by rfl, ?hy⟩) hHeld ?_
      case hy => (intro w' hSw; (try dsimp only at hSw); go_simp; try with_reducible rfl)
      simp only [Act.put, List.setIfInBounds_toArray, List.set_cons_zero, List.set_cons_succ]
      refine wpAnyH_ready (rs := [5]) (by kernel_rfl) (by simp) ?_
      refine AllReadyH.cons (o := { dst := some 70, op := Op.call { callee := Callee.value (Operand.func 43), args := #[Operand.tmp 69], argTypes := #[2] }, type := 2, pos := "l12_discs.go:266", after := #[{ on := 4, ground := Ground.data }], guard := none }) rfl (fun K hK => ?_) AllReadyH.nil
      go_simp
      go_at_call 43; refine (LB.out _).mono ?_; rintro e_ wk ⟨rfl, rfl⟩
      go_wp2_with fail
      refine hK.out _ _ (KS.out _ HC.out) (fun hHeld => ?_)
      clear hK K
      try simp only [Act.put, List.setIfInBounds_toArray, List.set_cons_zero, List.set_cons_succ]
      refine wpAnyH_take (i := 6) (oi := { dst := some 71, op := Op.binOp BinOp.sub 2 (Operand.tmp 70) (Operand.const (Value.int IntKind.i64 1)) 2, type := 2, pos := "l12_discs.go:266", after := #[{ on := 5, ground := Ground.data }], guard := none }) (v := ?_) rfl (by kernel_rfl) (by kernel_rfl) (by kernel_rfl) (fun _ _ _ h => h) (Or.inl ⟨by rfl, ?hy⟩) hHeld ?_
      case hy => (intro w' hSw; (try dsimp only at hSw); go_simp; try with_reducible rfl)
      simp only [Act.put, List.setIfInBounds_toArray, List.set_cons_zero, List.set_cons_succ]
      refine wpAnyH_ready (rs := [7]) (by kernel_rfl) (by simp) ?_
      refine AllReadyH.cons (o := { dst := some 72, op := Op.call { callee := Callee.value (Operand.func 67), args := #[Operand.tmp 71], argTypes := #[2] }, type := 9, pos := "l12_discs.go:266", after := #[{ on := 6, ground := Ground.data }, { on := 5, ground := Ground.chain }], guard := none }) rfl (fun K hK => ?_) AllReadyH.nil
      go_simp
      go_at_call 67; refine (ZE.out _).mono ?_; rintro e_ w9 ⟨rfl, hb9⟩; replace HC := Lib.hid (HC.out.trans (Sf.of_below f5 hb9)); obtain ⟨k9, hbp⟩ := BP4.out.chose ⟨k4, Nat.le_refl _, Nat.le_add_right _ 0, (BP4.out.2.2.2.2.1.2.2).below (C := w4.heap.size) (w := w4.drew) (ha.mono (by omega)) hb9 f5, HC.out⟩; have BP9 := Lib.hid hbp; clear hbp
      go_wp2_with fail
      refine hK.out _ _ (KS.out _ HC.out) (fun hHeld => ?_)
      clear hK K
      try simp only [Act.put, List.setIfInBounds_toArray, List.set_cons_zero, List.set_cons_succ]
      refine wpAnyH_take (i := 8) (oi := { dst := some 73, op := Op.binOp BinOp.add 9 (Operand.const (Value.string { data := #[65] })) (Operand.tmp 72) 9, type := 9, pos := "l12_discs.go:266", after := #[{ on := 7, ground := Ground.data }], guard := none }) (v := ?_) rfl (by kernel_rfl) (by kernel_rfl) (by kernel_rfl) (fun _ _ _ h => h) (Or.inl ⟨by rfl, ?hy⟩) hHeld ?_
      case hy => (intro w' hSw; (try dsimp only at hSw); go_simp; rw [if_neg (by omega)])
      simp only [Act.put, List.setIfInBounds_toArray, List.set_cons_zero, List.set_cons_succ]
      refine wpAnyH_take (i := 9) (oi := { dst := some 74, op := Op.build 39 #[(0, Operand.tmp 73), (1, Operand.const (Value.int IntKind.i64 3))], type := 39, pos := "l12_discs.go:266", after := #[{ on := 8, ground := Ground.data }], guard := none }) (v := ?_) rfl (by kernel_rfl) (by kernel_rfl) (by kernel_rfl) (fun _ _ _ h => h) (Or.inl ⟨by rfl, ?hy⟩) hHeld ?_
      case hy => (intro w' hSw; (try dsimp only at hSw); go_simp; try with_reducible rfl)
      simp only [Act.put, List.setIfInBounds_toArray, List.set_cons_zero, List.set_cons_succ]
      refine wpAnyH_take (i := 10) (oi := { dst := some 75, op := Op.indexAddr 24 (Operand.tmp 66) (Operand.tmp 67), type := 0, pos := "l12_discs.go:266", after := #[{ on := 1, ground := Ground.data }, { on := 2, ground := Ground.data }, { on := 0, ground := Ground.phase }, { on := 1, ground := Ground.phase }, { on := 2, ground := Ground.phase }, { on := 3, ground := Ground.phase }, { on := 4, ground := Ground.phase }, { on := 5, ground := Ground.phase }, { on := 6, ground := Ground.phase }, { on := 7, ground := Ground.phase }, { on := 8, ground := Ground.phase }, { on := 9, ground := Ground.phase }], guard := none }) (v := ?_) rfl (by kernel_rfl) (by kernel_rfl) (by kernel_rfl) (fun _ _ _ h => h) (Or.inl ⟨by rfl, ?hy⟩) hHeld ?_
      case hy => (intro w' hSw; (try dsimp only at hSw); go_simp; try with_reducible rfl)
      simp only [Act.put, List.setIfInBounds_toArray, List.set_cons_zero, List.set_cons_succ]
      refine wpAnyH_ready (rs := [11]) (by kernel_rfl) (by simp) ?_
      refine AllReadyH.cons (o := { dst := none, op := Op.store 39 (Operand.tmp 75) (Operand.tmp 74), type := 0, pos := "l12_discs.go:266", after := #[{ on := 10, ground := Ground.data }, { on := 9, ground := Ground.data }, { on := 7, ground := Ground.chain }, { on := 0, ground := Ground.phase }, { on := 1, ground := Ground.phase }, { on := 2, ground := Ground.phase }, { on := 3, ground := Ground.phase }, { on := 4, ground := Ground.phase }, { on := 5, ground := Ground.phase }, { on := 6, ground := Ground.phase }, { on := 7, ground := Ground.phase }, { on := 8, ground := Ground.phase }, { on := 9, ground := Ground.phase }], guard := none }) rfl (fun K hK => ?_) AllReadyH.nil
      have cc0 := BP9.out.2.1.cell he
      obtain ⟨cd0, cd1⟩ := cc0
      have ff0 := BP9.out.2.1.free (j * 2)
      have ff1 := BP9.out.2.1.free (j * 2 + 1)
      go_simp
      refine hK.out _ _ ⟨by rw [World.cell?_of_block (w := w9) (by rw [heap_setCell_ne _ _ _ _ _ BP9.out.2.2.2.2.2.2.2.2]; exact heap_setCell_ne _ _ _ _ _ BP9.out.2.2.2.2.2.2.2.2)]; exact (KS.out _ HC.out).1, by rw [World.cell?_of_block (w := w9) (by rw [heap_setCell_ne _ _ _ _ _ BP9.out.2.2.2.2.2.2.2.2]; exact heap_setCell_ne _ _ _ _ _ BP9.out.2.2.2.2.2.2.2.2)]; exact (KS.out _ HC.out).2⟩ (fun hHeld => ?_)
      clear hK K
      try simp only [Act.put, List.setIfInBounds_toArray, List.set_cons_zero, List.set_cons_succ]
      refine wpAnyH_done (by kernel_rfl) ?_ _
      have BPE := Lib.hid ((BP9.out.dt ha j e he (⟨#[65]⟩ ++ zz) hsA).st ha j ⟨⟨#[65]⟩ ++ zz, e.f1⟩ (List.getElem?_set_self (by rw [HLE.out]; exact hjL)) 3)
      clear hHeld HC KS BP9
      generalize (w9.setCell ⟨g, j * 2, none⟩ (.string (⟨#[65]⟩ ++ zz))).setCell ⟨g, j * 2 + 1, none⟩ (.int .i64 3) = W9 at *
      obtain ⟨y0, _⟩ := BPE.out.2.2.1 0 _ rfl
      obtain ⟨y1, _⟩ := BPE.out.2.2.1 1 _ rfl
      obtain ⟨y2, _⟩ := BPE.out.2.2.1 2 _ rfl
      obtain ⟨y3, _⟩ := BPE.out.2.2.1 3 _ rfl
      obtain ⟨y4, _⟩ := BPE.out.2.2.1 4 _ rfl
      obtain ⟨t0, f0⟩ := BPE.out.2.2.2.1 0 _ rfl
      obtain ⟨t1, f1⟩ := BPE.out.2.2.2.1 1 _ rfl
      obtain ⟨t2, f2⟩ := BPE.out.2.2.2.1 2 _ rfl
      obtain ⟨t3, f3⟩ := BPE.out.2.2.2.1 3 _ rfl
      obtain ⟨t4, f4⟩ := BPE.out.2.2.2.1 4 _ rfl
      go_wp2
      refine bodyPost_ret (v := .agg #[.int .i64 A, .int .i64 B, .int .i64 C, .int .i64 D, .slice (some ⟨g, 0, none⟩) L c]) (by simp [results, Try.results29, go_sem, t0, t1, t2, t3, t4]) rfl ?_
      obtain ⟨z1, z2⟩ := (BPE.out.le (K' := 20000) (by omega)).fin ha (.int .i64 A) (.int .i64 B) (.int .i64 C) (.int .i64 D) (.slice (some ⟨g, 0, none⟩) L c)
      obtain ⟨⟨hl9, hl1, hl2, hs9⟩, _⟩ := BPE.out
      refine Exists.intro (⟨A, B, C, D, ((es.set j ⟨⟨#[65]⟩ ++ zz, e.f1⟩).set j ⟨⟨#[65]⟩ ++ zz, 3⟩)⟩ : DiscV) (Exists.intro g ?_)
      first
        | exact Exists.intro c (And.intro (by dsimp only; rw [hl9]) (And.intro ⟨by show 1 ≤ (((es.set j ⟨⟨#[65]⟩ ++ zz, e.f1⟩).set j ⟨⟨#[65]⟩ ++ zz, 3⟩)).length; omega, by show (((es.set j ⟨⟨#[65]⟩ ++ zz, e.f1⟩).set j ⟨⟨#[65]⟩ ++ zz, 3⟩)).length ≤ 31; omega, hs9⟩ (And.intro z1 z2)))
        | exact And.intro (Exists.intro c (by dsimp only; rw [hl9])) (And.intro ⟨by show 1 ≤ (((es.set j ⟨⟨#[65]⟩ ++ zz, e.f1⟩).set j ⟨⟨#[65]⟩ ++ zz, 3⟩)).length; omega, by show (((es.set j ⟨⟨#[65]⟩ ++ zz, e.f1⟩).set j ⟨⟨#[65]⟩ ++ zz, 3⟩)).length ≤ 31; omega, hs9⟩ (And.intro z1 z2))
    · obtain ⟨S5, G5, H5⟩ := BP4.out.alloc ha (.cells #[.int .i64 0, .int .i64 9, .int .i64 2] 2)
      have HCA := Lib.hid (show Sf p w4 (w4.alloc (.cells #[.int .i64 0, .int .i64 9, .int .i64 2] 2)) from G5)
      have hz5 : p < (w4.alloc (.cells #[.int .i64 0, .int .i64 9, .int .i64 2] 2)).heap.size := by simp; omega
      have AM := Lib.hid (among_any w4.heap.size 3 [0, 9, 2] p a n cap k4 (w4.alloc (.cells #[.int .i64 0, .int .i64 9, .int .i64 2] 2)) (by decide) (by decide) (by omega) (by exact ints_of [0, 9, 2]) hn (by omega) (by exact S5))
      clear S5 G5 H5
      clear c0 c1 g0
      go_wp2_with fail
      refine AM.out.mono ?_
      rintro e_ w9 ⟨st, rfl, hst, hch⟩
      obtain ⟨k8, u5, u6, S9, G9⟩ := Chose.f hz5 hch
      obtain ⟨k9, hbp⟩ := BP4.out.chose ⟨k8, u5, u6, S9, HCA.out.trans G9⟩
      have BP9 := Lib.hid hbp
      obtain ⟨x9, u9⟩ := hbp.2.2.1 0 _ rfl
      have BPE := Lib.hid (show BP (w9.setCell ⟨Q, 0, none⟩ (.int .i64 st)) w p Q a n cap k _ st B C D g L c es k9 from hbp.box ha 0 st (by simp))
      clear hbp hch S9 G9 AM HCA BP9 x4 u4 x3 u3 x0 u0
      go_upto_region 17 with (fail)
      generalize w9.setCell ⟨Q, 0, none⟩ (.int .i64 st) = W9 at *
      obtain ⟨y0, _⟩ := BPE.out.2.2.1 0 _ rfl
      obtain ⟨y1, _⟩ := BPE.out.2.2.1 1 _ rfl
      obtain ⟨y2, _⟩ := BPE.out.2.2.1 2 _ rfl
      obtain ⟨y3, _⟩ := BPE.out.2.2.1 3 _ rfl
      obtain ⟨y4, _⟩ := BPE.out.2.2.1 4 _ rfl
      obtain ⟨t0, f0⟩ := BPE.out.2.2.2.1 0 _ rfl
      obtain ⟨t1, f1⟩ := BPE.out.2.2.2.1 1 _ rfl
      obtain ⟨t2, f2⟩ := BPE.out.2.2.2.1 2 _ rfl
      obtain ⟨t3, f3⟩ := BPE.out.2.2.2.1 3 _ rfl
      obtain ⟨t4, f4⟩ := BPE.out.2.2.2.1 4 _ rfl
      go_wp2
      refine bodyPost_ret (v := .agg #[.int .i64 st, .int .i64 B, .int .i64 C, .int .i64 D, .slice (some ⟨g, 0, none⟩) L c]) (by simp [results, Try.results29, go_sem, t0, t1, t2, t3, t4]) rfl ?_
      obtain ⟨z1, z2⟩ := (BPE.out.le (K' := 20000) (by omega)).fin ha (.int .i64 st) (.int .i64 B) (.int .i64 C) (.int .i64 D) (.slice (some ⟨g, 0, none⟩) L c)
      obtain ⟨⟨hl9, hl1, hl2, hs9⟩, _⟩ := BPE.out
      refine Exists.intro (⟨st, B, C, D, es⟩ : DiscV) (Exists.intro g ?_)
      first
        | exact Exists.intro c (And.intro (by dsimp only; rw [hl9]) (And.intro ⟨by show 1 ≤ (es).length; omega, by show (es).length ≤ 31; omega, hs9⟩ (And.intro z1 z2)))
        | exact And.intro (Exists.intro c (by dsimp only; rw [hl9])) (And.intro ⟨by show 1 ≤ (es).length; omega, by show (es).length ≤ 31; omega, hs9⟩ (And.intro z1 z2))
end Go.Proofs.Ytllcbiafghhcmaa
