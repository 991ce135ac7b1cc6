/- spec.l02Times -/
import Derived.Test.YtjilcobagmelgaaFluxVal
import Derived.Test.YtjilcobagmelgaaTimesFlux
import Derived.Deep.RegionLaw
namespace Go.Proofs.Ytjilcobagmelgaa
open Go.RowKit
set_option linter.unusedVariables false
/-- The gaps so far, when the times up to i have been seen. -/
theorem gapsOf_take {ts : List Int} {rev : Int} {i : Nat} {x y : Int} (h1 : ts[i]? = some x) (h2 : ts[i + 1]? = some y) : (gapsOf ts rev).take (i + 1) = (gapsOf ts rev).take i ++ [y - x] := by
  have hi : i < ts.length := (List.getElem?_eq_some_iff.1 h1).1
  rw [List.take_add_one, gapsOf_at ts rev i hi, gapAt_mid h1 h2]; rfl
theorem gapsOf_end {ts : List Int} {rev : Int} {i : Nat} {x y : Int} (h1 : ts[i]? = some x) (h2 : ts[0]? = some y) (hn : i + 1 = ts.length) : gapsOf ts rev = (gapsOf ts rev).take i ++ [y + rev - x] := by
  have hi : i < ts.length := by omega
  have e : (gapsOf ts rev).take (i + 1) = gapsOf ts rev := List.take_of_length_le (by rw [gapsOf_length]; omega)
  rw [List.take_add_one, gapsOf_at ts rev i hi, gapAt_end h1 h2 (by omega)] at e
  exact e.symm
/-- A flux in a cell of its own. -/
def FluxCell (w : World) (p : Nat) (c f : Int) (v : Value) : Prop := w.heap[p]? = some (.cells #[.int .i64 c, .int .i64 f, v] 26 (0, 0))
theorem FluxCell.facts {w : World} {p : Nat} {c f : Int} {v : Value} (h : FluxCell w p c f v) : w.cell? ⟨p, 0, none⟩ = some (.int .i64 c) ∧ w.cell? ⟨p, 1, none⟩ = some (.int .i64 f) ∧ w.cell? ⟨p, 2, none⟩ = some v ∧
    w.frozen? ⟨p, 0, none⟩ = false ∧ w.frozen? ⟨p, 1, none⟩ = false ∧ w.frozen? ⟨p, 2, none⟩ = false := by
  unfold FluxCell at h
  simp [World.cell?, World.frozen?, h]
theorem FluxCell.below {w w' : World} {B p : Nat} {c f : Int} {v : Value} (h : FluxCell w p c f v) (hb : Below B w w') (hp : p < B) : FluxCell w' p c f v := by
  unfold FluxCell; rw [hb.block p hp]; exact h
theorem FluxCell.lt {w : World} {p : Nat} {c f : Int} {v : Value} (h : FluxCell w p c f v) : p < w.heap.size := (Array.getElem?_eq_some_iff.1 h).1
theorem FluxCell.set2 {w : World} {p : Nat} {c f : Int} {v : Value} (h : FluxCell w p c f v) (u : Value) : FluxCell (w.setCell ⟨p, 2, none⟩ u) p c f u := by
  unfold FluxCell
  rw [heap_set_row w p 2 _ _ _ h]; rfl
theorem OwnI.setCell {w : World} {B : Nat} {v : Value} {l : List Int} (h : OwnI w B v l) {q : Addr} (hq : q.block < B) (u : Value) : OwnI (w.setCell q u) B v l := by
  refine ⟨h.1, ?_⟩
  rcases h.2 with h2 | ⟨g, cap, cur, rfl, hg, hh, r⟩
  · exact .inl h2
  · exact .inr ⟨g, cap, cur, rfl, hg, by rw [Below.heap_setCell w q u g (by omega)]; exact hh, r⟩
theorem SlO.setCell {w : World} {B : Nat} {a : Option Addr} {zs : List Int} (h : SlO w B a zs) {q : Addr} (u : Value) (hq : q.block < B) : SlO (w.setCell q u) B a zs := by
  rcases h with rfl | ⟨g, rest, rfl, hg, hh⟩
  · exact .inl rfl
  · exact .inr ⟨g, rest, rfl, hg, by rw [Below.heap_setCell w q u g (by omega)]; exact hh⟩
theorem SlO.set3 {w : World} {B p : Nat} {a : Option Addr} {zs : List Int} (h : SlO w B a zs) (x y z : Value) (hq : p < B) : SlO (((w.setCell ⟨p, 0, none⟩ x).setCell ⟨p, 1, none⟩ y).setCell ⟨p, 2, none⟩ z) B a zs :=
  ((h.setCell x hq).setCell y hq).setCell z hq
set_option maxHeartbeats 2000000 in
theorem l02Times_any (a : Option Addr) (ts : List Int) (d : Nat) (rev c f : Int) (w : World) (hl : ts.length ≤ 1048576) (hf : ts[0]? = some f) (hm : Mild ts) (hr0 : -1099511627776 ≤ rev) (hr1 : rev ≤ 1099511627776) (h : SlA w a ts) :
    Calls Try.prog 16 #[.int .i64 c, .slice a ts.length d, .int .i64 rev] w fun e w' => ∃ a' cap, e = .returned (.agg #[.int .i64 c, .int .i64 f, .slice a' (gapsOf ts rev).length cap]) ∧ SlO w' w.heap.size a' (gapsOf ts rev) ∧ Below w.heap.size w w' := by
  obtain ⟨b, off, rfl, hcf⟩ := h.cell hf
  have hf1 := hm.at hf
  have hn0 : 0 < ts.length := (List.getElem?_eq_some_iff.1 hf).1
  have hbl : b < w.heap.size := World.block_lt_of_cell? w _ hcf
  have HF := Lib.hid hf; clear hf
  have hcf0 : ∀ w' (_ : Below w.heap.size w w'), w'.cell? ⟨b, off, none⟩ = some (.int .i64 f) := fun w' hb => by rw [hb.cell (p := ⟨b, off, none⟩) hbl]; simpa using hcf
  have HCF := Lib.hid hcf0
  have hc0 := hcf0 _ (show Below w.heap.size w (w.alloc (.cells #[.int .i64 0, .int .i64 0, .slice none 0 0] 26)) by go_grown)
  have H := Lib.hid (And.intro h hm); clear h hm hcf0
  go_enter Try.func16, Try.ntmps16
  go_wp2
  go_loopw [8] (fun i wr => ∃ k : Nat, k < ts.length ∧ i = .int .i64 ((k + 1 : Nat) : Int) ∧ (∃ v, FluxCell wr (w.heap.size + 1) c f v ∧ OwnI wr (w.heap.size + 2) v ((gapsOf ts rev).take k)) ∧ ZeroAt wr w.heap.size ∧ Below w.heap.size w wr) (fun i _ => ts.length + 1 - (intOf i).toNat)
  case atStart =>
    refine ⟨0, hn0, rfl, ⟨_, heap_alloc_new' _ _ _ (by simp), OwnI.nil _ _⟩, ?_, by go_grown⟩
    unfold ZeroAt
    rw [Below.heap_alloc _ _ _ (by simp)]; exact heap_alloc_new w _
  case round =>
    obtain ⟨k, hk, rfl, ⟨v, hfc, hown⟩, hzr, hb⟩ := hrel
    by_cases hlt : k + 1 < ts.length
    · obtain ⟨x, hx⟩ := getOf hk
      obtain ⟨y, hy⟩ := getOf hlt
      have hx1 := H.out.2.at hx
      have hy1 := H.out.2.at hy
      obtain ⟨b1, off1, hbo, hcx⟩ := (H.out.1.below hb (Nat.le_refl _)).cell hx
      simp only [Option.some.injEq, Addr.mk.injEq, and_true] at hbo
      obtain ⟨rfl, rfl⟩ := hbo
      obtain ⟨b1, off1, hbo, hcy⟩ := (H.out.1.below hb (Nat.le_refl _)).cell hy
      simp only [Option.some.injEq, Addr.mk.injEq, and_true] at hbo
      obtain ⟨rfl, rfl⟩ := hbo
      obtain ⟨z0, z1, z2, y0, y1, y2⟩ := hfc.facts
      have HX := Lib.hid hx; have HY := Lib.hid hy; clear hx hy
      have e1 : ((k : Int) + 1).toNat = k + 1 := by omega
      have e2 : ((k : Int) + 1 - 1).toNat = k := by omega
      have f1 : (0 : Int) ≤ (k : Int) + 1 := by omega
      have f2 : (k : Int) + 1 < (ts.length : Int) := by omega
      have f3 : (0 : Int) ≤ (k : Int) := by omega
      have f4 : (k : Int) < (ts.length : Int) := by omega
      have f5 : IntKind.i64.wrap (k : Int) = (k : Int) := IntWalk.i64_in _ (by omega)
      have f6 : IntKind.i64.wrap (y - x) = y - x := IntWalk.i64_in _ (by omega)
      have e3 : IntKind.i64.wrap ((k : Int) + 1 - 1) = (k : Int) := by rw [show (k : Int) + 1 - 1 = (k : Int) by omega]; exact IntWalk.i64_in _ (by omega)
      have hlen : ((gapsOf ts rev).take k).length = k := by simp [gapsOf_length]; omega
      have hsz : w.heap.size + 2 ≤ wr.heap.size := by have := hfc.lt; omega
      have hne1 : b ≠ w.heap.size + 1 := by omega
      have hne2 : ¬ (w.heap.size + 1 = b) := by omega
      have HK := Lib.hid (fun w1 (hb1 : Below (w.heap.size + 2) (wr.alloc (.cells #[.int .i64 (y - x)] 2)).drew w1) => (show (w1.cell? ⟨w.heap.size + 1, 2, none⟩ = some v ∧ w1.frozen? ⟨w.heap.size + 1, 2, none⟩ = false) ∧ (w1.cell? ⟨b, off + (k + 1), none⟩ = some (.int .i64 y) ∧ w1.cell? ⟨b, off + k, none⟩ = some (.int .i64 x)) ∧ FluxCell w1 (w.heap.size + 1) c f v ∧ ZeroAt w1 w.heap.size ∧ Below w.heap.size w w1 from by
        have hb2 : Below (w.heap.size + 2) wr w1 := (((Below.refl _ _).alloc hsz _).drew).trans hb1
        have hf2 := hfc.below hb2 (by omega)
        obtain ⟨_, _, q2, _, _, r2⟩ := hf2.facts
        exact ⟨⟨q2, r2⟩, ⟨by rw [hb2.cell (p := ⟨b, off + (k + 1), none⟩) (show b < _ by omega)]; exact hcy, by rw [hb2.cell (p := ⟨b, off + k, none⟩) (show b < _ by omega)]; exact hcx⟩, hf2, hzr.below hb2 (by omega), hb.trans (hb2.mono (by omega))⟩))
      have HL := Lib.hid hlen
      have z2a : (wr.alloc (.cells #[.int .i64 (y - x)] 2)).cell? ⟨w.heap.size + 1, 2, none⟩ = some v := by
        rw [World.cell?_of_block (Below.heap_alloc wr _ (w.heap.size + 1) (by omega))]; exact z2
      have z2b : (wr.alloc (.cells #[.int .i64 (y - x)] 2)).drew.cell? ⟨w.heap.size + 1, 2, none⟩ = some v := z2a
      have HZB := Lib.hid (And.intro hzr (And.intro hb (And.intro hfc hcf)))
      clear hzr hb hfc hcf
      go_wp2
      go_region_law
        ((refine step_appendI 22 Try.underlying22 (by rfl) _ _ (by rfl) (by rfl) ((hown.alloc _).drew) (y - x) ⟨wr.heap.size, 0, none⟩ 1 (by rfl) (World.news_of_block (cs := #[.int .i64 (y - x)]) (t := 2) (fr := (0, 0)) (heap_alloc_new wr _)) (by rw [HL.out]; omega) (by simp; omega) ?_; intro g cap w1 hown1 hb1 hat; obtain ⟨⟨k1, k2⟩, k5, k6⟩ := HK.out w1 hb1))
      all_goals
        have HG := Lib.hid (gapsOf_take (rev := rev) HX.out HY.out)
        obtain ⟨p1, p2, p3⟩ := k6
        rw [HL.out] at hown1
        have hz5 : ZeroAt (w1.setCell ⟨w.heap.size + 1, 2, none⟩ (.slice (some ⟨g, 0, none⟩) (k + 1) cap)) w.heap.size := by
          unfold ZeroAt; rw [Below.heap_setCell _ _ _ _ (by simp)]; exact p2
        have hb5 := p3.setCell (p := ⟨w.heap.size + 1, 2, none⟩) (by simp) (.slice (some ⟨g, 0, none⟩) (k + 1) cap)
        have hf5 := p1.set2 (.slice (some ⟨g, 0, none⟩) (k + 1) cap)
        have ho5 := hown1.setCell (q := ⟨w.heap.size + 1, 2, none⟩) (by simp) (.slice (some ⟨g, 0, none⟩) (k + 1) cap)
        clear k1 k2 k5 hb1 hat p1 p2 p3
        go_wp2
        go_roundw
        case rel => exact ⟨k + 1, hlt, by go_num, ⟨_, hf5, by rw [HG.out]; exact ho5⟩, hz5, hb5⟩
        case measure => simp [intOf]; omega
    · obtain rfl : k = ts.length - 1 := by omega
      obtain ⟨x, hx⟩ := getOf hk
      have hx1 := H.out.2.at hx
      obtain ⟨b1, off1, hbo, hcx⟩ := (H.out.1.below hb (Nat.le_refl _)).cell hx
      simp only [Option.some.injEq, Addr.mk.injEq, and_true] at hbo
      obtain ⟨rfl, rfl⟩ := hbo
      have hcf1 := HCF.out wr hb
      obtain ⟨z0, z1, z2, y0, y1, y2⟩ := hfc.facts
      have HX := Lib.hid hx; clear hx
      have e0 : ((ts.length - 1 + 1 : Nat) : Int) = (ts.length : Int) := by omega
      rw [e0]
      clear hlt
      have e2 : ((ts.length : Int) - 1).toNat = ts.length - 1 := by omega
      have e3 : IntKind.i64.wrap ((ts.length : Int) - 1) = (ts.length : Int) - 1 := IntWalk.i64_in _ (by omega)
      have f1 : (0 : Int) ≤ (ts.length : Int) - 1 := by omega
      have f2 : (ts.length : Int) - 1 < (ts.length : Int) := by omega
      have f3 : (0 : Int) < (ts.length : Int) := by omega
      have f4 : (1 : Int) ≤ (ts.length : Int) := by omega
      have f5 : IntKind.i64.wrap (rev - x) = rev - x := IntWalk.i64_in _ (by omega)
      have f6 : IntKind.i64.wrap (rev - x + f) = rev - x + f := IntWalk.i64_in _ (by omega)
      have hlen : ((gapsOf ts rev).take (ts.length - 1)).length = ts.length - 1 := by simp [gapsOf_length]
      have hsz : w.heap.size + 2 ≤ wr.heap.size := by have := hfc.lt; omega
      have hne1 : b ≠ w.heap.size + 1 := by omega
      have hne2 : ¬ (w.heap.size + 1 = b) := by omega
      have HK := Lib.hid (fun w1 (hb1 : Below (w.heap.size + 2) (wr.alloc (.cells #[.int .i64 (rev - x + f)] 2)).drew w1) => (show (w1.cell? ⟨w.heap.size + 1, 2, none⟩ = some v ∧ w1.frozen? ⟨w.heap.size + 1, 2, none⟩ = false) ∧ FluxCell w1 (w.heap.size + 1) c f v ∧ ZeroAt w1 w.heap.size ∧ Below w.heap.size w w1 from by
        have hb2 : Below (w.heap.size + 2) wr w1 := (((Below.refl _ _).alloc hsz _).drew).trans hb1
        have hf2 := hfc.below hb2 (by omega)
        obtain ⟨_, _, q2, _, _, r2⟩ := hf2.facts
        exact ⟨⟨q2, r2⟩, hf2, hzr.below hb2 (by omega), hb.trans (hb2.mono (by omega))⟩))
      have HL := Lib.hid hlen
      have z2a : (wr.alloc (.cells #[.int .i64 (rev - x + f)] 2)).cell? ⟨w.heap.size + 1, 2, none⟩ = some v := by
        rw [World.cell?_of_block (Below.heap_alloc wr _ (w.heap.size + 1) (by omega))]; exact z2
      have z2b : (wr.alloc (.cells #[.int .i64 (rev - x + f)] 2)).drew.cell? ⟨w.heap.size + 1, 2, none⟩ = some v := z2a
      have HZB := Lib.hid (And.intro hzr (And.intro hb (And.intro hfc hcf)))
      clear hzr hb hfc hcf e0
      go_wp2
      go_region_law
        ((refine step_appendI 22 Try.underlying22 (by rfl) _ _ (by rfl) (by rfl) ((hown.alloc _).drew) (rev - x + f) ⟨wr.heap.size, 0, none⟩ 1 (by rfl) (World.news_of_block (cs := #[.int .i64 (rev - x + f)]) (t := 2) (fr := (0, 0)) (heap_alloc_new wr _)) (by rw [HL.out]; omega) (by simp; omega) ?_; intro g cap w1 hown1 hb1 hat; obtain ⟨⟨k1, k2⟩, k6⟩ := HK.out w1 hb1))
      all_goals
        have HG := Lib.hid (gapsOf_end (rev := rev) HX.out HF.out (by omega))
        obtain ⟨p1, p2, p3⟩ := k6
        rw [HL.out] at hown1
        have en : ts.length - 1 + 1 = ts.length := by omega
        rw [en] at hown1 ⊢
        have hz5 : ZeroAt (w1.setCell ⟨w.heap.size + 1, 2, none⟩ (.slice (some ⟨g, 0, none⟩) ts.length cap)) w.heap.size := by
          unfold ZeroAt; rw [Below.heap_setCell _ _ _ _ (by simp)]; exact p2
        have hb5 := p3.setCell (p := ⟨w.heap.size + 1, 2, none⟩) (by simp) (.slice (some ⟨g, 0, none⟩) ts.length cap)
        have hf5 := p1.set2 (.slice (some ⟨g, 0, none⟩) ts.length cap)
        have ho5 := hown1.setCell (q := ⟨w.heap.size + 1, 2, none⟩) (by simp) (.slice (some ⟨g, 0, none⟩) ts.length cap)
        clear k1 k2 hb1 hat p1 p2 p3 hown1 z0 z1 z2 y0 y1 y2 z2a z2b
        obtain ⟨V, hV⟩ : ∃ V, w1.setCell ⟨w.heap.size + 1, 2, none⟩ (.slice (some ⟨g, 0, none⟩) ts.length cap) = V := ⟨_, rfl⟩
        rw [hV] at hz5 hb5 hf5 ho5 ⊢
        clear hV
        have eg : f + rev - x = rev - x + f := by omega
        have hfin := HG.out
        rw [eg] at hfin
        rw [← hfin] at ho5
        obtain ⟨a', c', ev, hsl⟩ := ho5.slO
        have hgl := gapsOf_length ts rev
        rw [hgl] at ev
        cases ev
        have HS := Lib.hid (And.intro hsl (And.intro ho5 (And.intro hz5 hf5)))
        obtain ⟨z0, z1, z2, y0, y1, y2⟩ := hz5.facts
        obtain ⟨x0, x1, x2, _, _, _⟩ := hf5.facts
        clear hsl ho5 hz5 hf5
        go_wp2
        refine bodyPost_ret (v := .agg #[.int .i64 c, .int .i64 f, .slice (some ⟨g, 0, none⟩) ts.length cap]) (by simp [results, Try.results16, go_sem, z0, z1, z2]) rfl ⟨_, _, by rw [hgl], ?_, ?_⟩
        · exact (HS.out.1.set3 _ _ _ (by omega)).mono (by omega)
        · exact ((hb5.setCell (by simp) _).setCell (by simp) _).setCell (by simp) _
end Go.Proofs.Ytjilcobagmelgaa
