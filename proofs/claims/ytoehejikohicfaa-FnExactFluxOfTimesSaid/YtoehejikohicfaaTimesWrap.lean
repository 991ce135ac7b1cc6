/- spec.l02Times, spec.l04Make at the least revolution, where its reckoning wraps; spec.FluxOfTimes -/
import Derived.Test.YtoehejikohicfaaTimesOfFlux
namespace Go.Proofs.Ytoehejikohicfaa
open Go.RowKit
set_option linter.unusedVariables false
/-- All times are numbers from 0. -/
def Plus (ts : List Int) : Prop := ∀ x ∈ ts, 0 ≤ x ∧ x ≤ 9223372036854775807
theorem Plus.at {ts : List Int} (h : Plus ts) {i : Nat} {x : Int} (hx : ts[i]? = some x) : 0 ≤ x ∧ x ≤ 9223372036854775807 := h x (List.mem_of_getElem? hx)
set_option maxHeartbeats 2000000 in
theorem l02Times_w (a : Option Addr) (ts : List Int) (d : Nat) (rev R c f : Int) (w : World) (hl : ts.length ≤ 1048576) (hf : ts[0]? = some f) (hm : Plus ts) (hlast : ∀ x, ts[ts.length - 1]? = some x → ∃ RX, IntKind.i64.wrap (rev - x) = RX ∧ IntKind.i64.wrap (RX + f) = f + R - x) (h : SlA w a ts) :
    Calls Try.prog 16 #[.int .i64 c, .slice a ts.length d, .int .i64 rev] w fun e w' => ∃ a' cap, e = .returned (.agg #[.int .i64 c, .int .i64 f, .slice a' (gapsOf ts R).length cap]) ∧ SlO w' w.heap.size a' (gapsOf ts R) ∧ Below w.heap.size w w' := by
  obtain ⟨b, off, rfl, hcf⟩ := h.cell hf
  have hf1 := hm.at hf
  have hn0 : 0 < ts.length := (List.getElem?_eq_some_iff.1 hf).1
  have hbl : b < w.heap.size := World.block_lt_of_cell? w _ hcf
  have HF := Lib.hid hf; clear hf
  have hcf0 : ∀ w' (_ : Below w.heap.size w w'), w'.cell? ⟨b, off, none⟩ = some (.int .i64 f) := fun w' hb => by rw [hb.cell (p := ⟨b, off, none⟩) hbl]; simpa using hcf
  have HCF := Lib.hid hcf0
  have hc0 := hcf0 _ (show Below w.heap.size w (w.alloc (.cells #[.int .i64 0, .int .i64 0, .slice none 0 0] 24)) by go_grown)
  have H := Lib.hid (And.intro h hm); have HLA := Lib.hid hlast; clear h hm hcf0 hlast
  go_enter Try.func16, Try.ntmps16
  go_wp2
  go_loopw [8] (fun i wr => ∃ k : Nat, k < ts.length ∧ i = .int .i64 ((k + 1 : Nat) : Int) ∧ (∃ v, FluxCell wr (w.heap.size + 1) c f v ∧ OwnI wr (w.heap.size + 2) v ((gapsOf ts R).take k)) ∧ ZeroAt wr w.heap.size ∧ Below w.heap.size w wr) (fun i _ => ts.length + 1 - (intOf i).toNat)
  case atStart =>
    refine ⟨0, hn0, rfl, ⟨_, heap_alloc_new' _ _ _ (by simp), OwnI.nil _ _⟩, ?_, by go_grown⟩
    unfold ZeroAt
    rw [Below.heap_alloc _ _ _ (by simp)]; exact heap_alloc_new w _
  case round =>
    obtain ⟨k, hk, rfl, ⟨v, hfc, hown⟩, hzr, hb⟩ := hrel
    by_cases hlt : k + 1 < ts.length
    · obtain ⟨x, hx⟩ := getOf hk
      obtain ⟨y, hy⟩ := getOf hlt
      have hx1 := H.out.2.at hx
      have hy1 := H.out.2.at hy
      obtain ⟨b1, off1, hbo, hcx⟩ := (H.out.1.below hb (Nat.le_refl _)).cell hx
      simp only [Option.some.injEq, Addr.mk.injEq, and_true] at hbo
      obtain ⟨rfl, rfl⟩ := hbo
      obtain ⟨b1, off1, hbo, hcy⟩ := (H.out.1.below hb (Nat.le_refl _)).cell hy
      simp only [Option.some.injEq, Addr.mk.injEq, and_true] at hbo
      obtain ⟨rfl, rfl⟩ := hbo
      obtain ⟨z0, z1, z2, y0, y1, y2⟩ := hfc.facts
      have HX := Lib.hid hx; have HY := Lib.hid hy; clear hx hy
      have e1 : ((k : Int) + 1).toNat = k + 1 := by omega
      have e2 : ((k : Int) + 1 - 1).toNat = k := by omega
      have f1 : (0 : Int) ≤ (k : Int) + 1 := by omega
      have f2 : (k : Int) + 1 < (ts.length : Int) := by omega
      have f3 : (0 : Int) ≤ (k : Int) := by omega
      have f4 : (k : Int) < (ts.length : Int) := by omega
      have f5 : IntKind.i64.wrap (k : Int) = (k : Int) := IntWalk.i64_in _ (by omega)
      have f6 : IntKind.i64.wrap (y - x) = y - x := IntWalk.i64_in _ (by omega)
      have e3 : IntKind.i64.wrap ((k : Int) + 1 - 1) = (k : Int) := by rw [show (k : Int) + 1 - 1 = (k : Int) by omega]; exact IntWalk.i64_in _ (by omega)
      have hlen : ((gapsOf ts R).take k).length = k := by simp [gapsOf_length]; omega
      have hsz : w.heap.size + 2 ≤ wr.heap.size := by have := hfc.lt; omega
      have hne1 : b ≠ w.heap.size + 1 := by omega
      have hne2 : ¬ (w.heap.size + 1 = b) := by omega
      have HK := Lib.hid (fun w1 (hb1 : Below (w.heap.size + 2) (wr.alloc (.cells #[.int .i64 (y - x)] 2)).drew w1) => (show (w1.cell? ⟨w.heap.size + 1, 2, none⟩ = some v ∧ w1.frozen? ⟨w.heap.size + 1, 2, none⟩ = false) ∧ (w1.cell? ⟨b, off + (k + 1), none⟩ = some (.int .i64 y) ∧ w1.cell? ⟨b, off + k, none⟩ = some (.int .i64 x)) ∧ FluxCell w1 (w.heap.size + 1) c f v ∧ ZeroAt w1 w.heap.size ∧ Below w.heap.size w w1 from by
        have hb2 : Below (w.heap.size + 2) wr w1 := (((Below.refl _ _).alloc hsz _).drew).trans hb1
        have hf2 := hfc.below hb2 (by omega)
        obtain ⟨_, _, q2, _, _, r2⟩ := hf2.facts
        exact ⟨⟨q2, r2⟩, ⟨by rw [hb2.cell (p := ⟨b, off + (k + 1), none⟩) (show b < _ by omega)]; exact hcy, by rw [hb2.cell (p := ⟨b, off + k, none⟩) (show b < _ by omega)]; exact hcx⟩, hf2, hzr.below hb2 (by omega), hb.trans (hb2.mono (by omega))⟩))
      have HL := Lib.hid hlen
      have z2a : (wr.alloc (.cells #[.int .i64 (y - x)] 2)).cell? ⟨w.heap.size + 1, 2, none⟩ = some v := by
        rw [World.cell?_of_block (Below.heap_alloc wr _ (w.heap.size + 1) (by omega))]; exact z2
      have z2b : (wr.alloc (.cells #[.int .i64 (y - x)] 2)).drew.cell? ⟨w.heap.size + 1, 2, none⟩ = some v := z2a
      have HZB := Lib.hid (And.intro hzr (And.intro hb (And.intro hfc hcf)))
      clear hzr hb hfc hcf
      go_wp2
      go_region_law
        ((refine step_appendI 22 Try.underlying22 (by rfl) _ _ (by rfl) (by rfl) ((hown.alloc _).drew) (y - x) ⟨wr.heap.size, 0, none⟩ 1 (by rfl) (World.news_of_block (cs := #[.int .i64 (y - x)]) (t := 2) (fr := (0, 0)) (heap_alloc_new wr _)) (by rw [HL.out]; omega) (by simp; omega) ?_; intro g cap w1 hown1 hb1 hat; obtain ⟨⟨k1, k2⟩, k5, k6⟩ := HK.out w1 hb1))
      all_goals
        have HG := Lib.hid (gapsOf_take (rev := R) HX.out HY.out)
        obtain ⟨p1, p2, p3⟩ := k6
        rw [HL.out] at hown1
        have hz5 : ZeroAt (w1.setCell ⟨w.heap.size + 1, 2, none⟩ (.slice (some ⟨g, 0, none⟩) (k + 1) cap)) w.heap.size := by
          unfold ZeroAt; rw [Below.heap_setCell _ _ _ _ (by simp)]; exact p2
        have hb5 := p3.setCell (p := ⟨w.heap.size + 1, 2, none⟩) (by simp) (.slice (some ⟨g, 0, none⟩) (k + 1) cap)
        have hf5 := p1.set2 (.slice (some ⟨g, 0, none⟩) (k + 1) cap)
        have ho5 := hown1.setCell (q := ⟨w.heap.size + 1, 2, none⟩) (by simp) (.slice (some ⟨g, 0, none⟩) (k + 1) cap)
        clear k1 k2 k5 hb1 hat p1 p2 p3
        go_wp2
        go_roundw
        case rel => exact ⟨k + 1, hlt, by go_num, ⟨_, hf5, by rw [HG.out]; exact ho5⟩, hz5, hb5⟩
        case measure => simp [intOf]; omega
    · obtain rfl : k = ts.length - 1 := by omega
      obtain ⟨x, hx⟩ := getOf hk
      have hx1 := H.out.2.at hx
      obtain ⟨b1, off1, hbo, hcx⟩ := (H.out.1.below hb (Nat.le_refl _)).cell hx
      simp only [Option.some.injEq, Addr.mk.injEq, and_true] at hbo
      obtain ⟨rfl, rfl⟩ := hbo
      have hcf1 := HCF.out wr hb
      obtain ⟨z0, z1, z2, y0, y1, y2⟩ := hfc.facts
      have HX := Lib.hid hx; clear hx
      have e0 : ((ts.length - 1 + 1 : Nat) : Int) = (ts.length : Int) := by omega
      rw [e0]
      clear hlt
      have e2 : ((ts.length : Int) - 1).toNat = ts.length - 1 := by omega
      have e3 : IntKind.i64.wrap ((ts.length : Int) - 1) = (ts.length : Int) - 1 := IntWalk.i64_in _ (by omega)
      have f1 : (0 : Int) ≤ (ts.length : Int) - 1 := by omega
      have f2 : (ts.length : Int) - 1 < (ts.length : Int) := by omega
      have f3 : (0 : Int) < (ts.length : Int) := by omega
      have f4 : (1 : Int) ≤ (ts.length : Int) := by omega
      obtain ⟨RX, f5, f6⟩ := HLA.out x HX.out
      obtain ⟨G, hG⟩ : ∃ G, f + R - x = G := ⟨_, rfl⟩
      rw [hG] at f6
      have HGG := Lib.hid hG; clear hG
      have hlen : ((gapsOf ts R).take (ts.length - 1)).length = ts.length - 1 := by simp [gapsOf_length]
      have hsz : w.heap.size + 2 ≤ wr.heap.size := by have := hfc.lt; omega
      have hne1 : b ≠ w.heap.size + 1 := by omega
      have hne2 : ¬ (w.heap.size + 1 = b) := by omega
      have HK := Lib.hid (fun w1 (hb1 : Below (w.heap.size + 2) (wr.alloc (.cells #[.int .i64 (G)] 2)).drew w1) => (show (w1.cell? ⟨w.heap.size + 1, 2, none⟩ = some v ∧ w1.frozen? ⟨w.heap.size + 1, 2, none⟩ = false) ∧ FluxCell w1 (w.heap.size + 1) c f v ∧ ZeroAt w1 w.heap.size ∧ Below w.heap.size w w1 from by
        have hb2 : Below (w.heap.size + 2) wr w1 := (((Below.refl _ _).alloc hsz _).drew).trans hb1
        have hf2 := hfc.below hb2 (by omega)
        obtain ⟨_, _, q2, _, _, r2⟩ := hf2.facts
        exact ⟨⟨q2, r2⟩, hf2, hzr.below hb2 (by omega), hb.trans (hb2.mono (by omega))⟩))
      have HL := Lib.hid hlen
      have z2a : (wr.alloc (.cells #[.int .i64 (G)] 2)).cell? ⟨w.heap.size + 1, 2, none⟩ = some v := by
        rw [World.cell?_of_block (Below.heap_alloc wr _ (w.heap.size + 1) (by omega))]; exact z2
      have z2b : (wr.alloc (.cells #[.int .i64 (G)] 2)).drew.cell? ⟨w.heap.size + 1, 2, none⟩ = some v := z2a
      have HZB := Lib.hid (And.intro hzr (And.intro hb (And.intro hfc hcf)))
      clear hzr hb hfc hcf e0
      go_wp2
      go_region_law
        ((refine step_appendI 22 Try.underlying22 (by rfl) _ _ (by rfl) (by rfl) ((hown.alloc _).drew) (G) ⟨wr.heap.size, 0, none⟩ 1 (by rfl) (World.news_of_block (cs := #[.int .i64 (G)]) (t := 2) (fr := (0, 0)) (heap_alloc_new wr _)) (by rw [HL.out]; omega) (by simp; omega) ?_; intro g cap w1 hown1 hb1 hat; obtain ⟨⟨k1, k2⟩, k6⟩ := HK.out w1 hb1))
      all_goals
        have HG := Lib.hid (gapsOf_end (rev := R) HX.out HF.out (by omega))
        obtain ⟨p1, p2, p3⟩ := k6
        rw [HL.out] at hown1
        have en : ts.length - 1 + 1 = ts.length := by omega
        rw [en] at hown1 ⊢
        have hz5 : ZeroAt (w1.setCell ⟨w.heap.size + 1, 2, none⟩ (.slice (some ⟨g, 0, none⟩) ts.length cap)) w.heap.size := by
          unfold ZeroAt; rw [Below.heap_setCell _ _ _ _ (by simp)]; exact p2
        have hb5 := p3.setCell (p := ⟨w.heap.size + 1, 2, none⟩) (by simp) (.slice (some ⟨g, 0, none⟩) ts.length cap)
        have hf5 := p1.set2 (.slice (some ⟨g, 0, none⟩) ts.length cap)
        have ho5 := hown1.setCell (q := ⟨w.heap.size + 1, 2, none⟩) (by simp) (.slice (some ⟨g, 0, none⟩) ts.length cap)
        clear k1 k2 hb1 hat p1 p2 p3 hown1 z0 z1 z2 y0 y1 y2 z2a z2b
        obtain ⟨V, hV⟩ : ∃ V, w1.setCell ⟨w.heap.size + 1, 2, none⟩ (.slice (some ⟨g, 0, none⟩) ts.length cap) = V := ⟨_, rfl⟩
        rw [hV] at hz5 hb5 hf5 ho5 ⊢
        clear hV
        have hfin := HG.out
        rw [HGG.out] at hfin
        rw [← hfin] at ho5
        obtain ⟨a', c', ev, hsl⟩ := ho5.slO
        have hgl := gapsOf_length ts R
        rw [hgl] at ev
        cases ev
        have HS := Lib.hid (And.intro hsl (And.intro ho5 (And.intro hz5 hf5)))
        obtain ⟨z0, z1, z2, y0, y1, y2⟩ := hz5.facts
        obtain ⟨x0, x1, x2, _, _, _⟩ := hf5.facts
        clear hsl ho5 hz5 hf5
        go_wp2
        refine bodyPost_ret (v := .agg #[.int .i64 c, .int .i64 f, .slice (some ⟨g, 0, none⟩) ts.length cap]) (by simp [results, Try.results16, go_sem, z0, z1, z2]) rfl ⟨_, _, by rw [hgl], ?_, ?_⟩
        · exact (HS.out.1.set3 _ _ _ (by omega)).mono (by omega)
        · exact ((hb5.setCell (by simp) _).setCell (by simp) _).setCell (by simp) _
theorem wrap_last (x f : Int) (h1 : 0 ≤ x) (h2 : x ≤ 9223372036854775807) (h3 : 0 ≤ f) (h4 : f ≤ 9223372036854775807) : IntKind.i64.wrap (IntKind.i64.wrap (-9223372036854775808 - x) + f) = f + (if f < x then (9223372036854775808 : Int) else -9223372036854775808) - x := by
  rw [IntKind.wrap_i64, IntKind.wrap_i64]
  split <;> omega
/-- While the gaps are small, the times stay near the first. -/
theorem near {ts : List Int} {R f : Int} (hf : ts[0]? = some f) (hg : (gapsOf ts R).all (inB 1 2000000) = true) (k : Nat) (hk : k < ts.length) : ts[k] ≤ f + 2000000 * k := by
  induction k with
  | zero =>
    have : ts[0] = f := by
      have h := (List.getElem?_eq_some_iff.1 hf).2
      exact h
    omega
  | succ k ih =>
    have h1 := ih (by omega)
    have e := gapsOf_at ts R k (by omega)
    have e2 : gapAt ts R k = ts[k + 1] - ts[k] := gapAt_mid (List.getElem?_eq_getElem (by omega)) (List.getElem?_eq_getElem hk)
    rw [e2] at e
    have h2 := inB_iff.1 (List.all_eq_true.1 hg _ (List.mem_of_getElem? e))
    have h3 : ((k + 1 : Nat) : Int) = (k : Int) + 1 := by omega
    omega
theorem wrap_bad {c f x : Int} {ts : List Int} (hn : 0 < ts.length) (hf : ts[0]? = some f) (hx : ts[ts.length - 1]? = some x) (h1 : 0 ≤ x) (h2 : x ≤ 9223372036854775807) (h3 : 0 ≤ f) (h4 : f ≤ 9223372036854775807) : fluxOk c f (gapsOf ts (if f < x then (9223372036854775808 : Int) else -9223372036854775808)) = false := by
  cases hq : fluxOk c f (gapsOf ts (if f < x then (9223372036854775808 : Int) else -9223372036854775808)) with
  | false => rfl
  | true =>
    exfalso
    obtain ⟨_, ⟨_, g2⟩, g3, _⟩ := fluxOk_iff.1 hq
    rw [gapsOf_length] at g2
    have e := gapsOf_at ts (if f < x then (9223372036854775808 : Int) else -9223372036854775808) (ts.length - 1) (by omega)
    rw [gapAt_end hx hf (by omega)] at e
    have h5 := inB_iff.1 (List.all_eq_true.1 g3 _ (List.mem_of_getElem? e))
    have h6 := near hf g3 (ts.length - 1) (by omega)
    have h7 : ts[ts.length - 1] = x := (List.getElem?_eq_some_iff.1 hx).2
    rw [h7] at h6
    have h8 : ((ts.length - 1 : Nat) : Int) ≤ 3999 := by omega
    by_cases hlt : f < x
    · rw [if_pos hlt] at h5; omega
    · rw [if_neg hlt] at h5; omega
set_option maxHeartbeats 4000000 in
theorem l04Make_w (c : Int) (a : Option Addr) (ts : List Int) (d : Nat) (rev : Int) (w : World) (hl : ts.length ≤ 1048576) (hn : 0 < ts.length) (hrev : rev = -9223372036854775808) (h : SlA w a ts) :
    Calls Try.prog 12 #[.slice a ts.length d, .int .i64 rev, .int .i64 c] w (MadeRes (.none 0) false w) := by
  obtain ⟨f, hf⟩ := getOf hn
  have c2 := fun w' (hb : Below w.heap.size w w') => l00Rises_any 0 9223372036854775807 a ts d w' hl (h.below hb (Nat.le_refl _))
  have ew : IntKind.i64.wrap (rev - 1) = 9223372036854775807 := by rw [hrev]; decide
  have ew2 : wrap64 (rev - 1) = 9223372036854775807 := by rw [hrev]; unfold wrap64; omega
  have hd : decide (2000000 < rev) = false := by rw [hrev]; decide
  have hd2 : ¬ (2000000 < rev) := by omega
  by_cases hs : risesB 0 9223372036854775807 ts = true
  · have hm : Plus ts := fun x hx => risesB_bd hs hx
    obtain ⟨x, hx⟩ := getOf (show ts.length - 1 < ts.length by omega)
    have hx1 := hm.at hx
    have hf1 := hm.at hf
    have hbad := wrap_bad (c := c) hn hf hx hx1.1 hx1.2 hf1.1 hf1.2
    have hlast : ∀ y, ts[ts.length - 1]? = some y → ∃ RX, IntKind.i64.wrap (rev - y) = RX ∧ IntKind.i64.wrap (RX + f) = f + (if f < x then (9223372036854775808 : Int) else -9223372036854775808) - y := by
      intro y hy
      rw [hx] at hy
      cases hy
      rw [hrev]
      exact ⟨_, rfl, wrap_last x f hx1.1 hx1.2 hf1.1 hf1.2⟩
    generalize (if f < x then (9223372036854775808 : Int) else -9223372036854775808) = R at hbad hlast
    have c3 := fun w' (hb : Below w.heap.size w w') => l02Times_w a ts d rev R c f w' hl hf hm hlast (h.below hb (Nat.le_refl _))
    have hgl := gapsOf_length ts R
    have c4 := fun w' p x cap (hf : FluxAt w' p c f x (gapsOf ts R).length cap) (hg : SlA w' x (gapsOf ts R)) => l02Ok_any p c f x (gapsOf ts R) cap w' (by omega) hf hg
    rw [hs] at c2
    rw [hbad] at c4
    generalize gapsOf ts R = gs at c3 c4 hgl hbad
    have C2 := Lib.hid c2; have C3 := Lib.hid c3; have C4 := Lib.hid c4; clear c2 c3 c4 hs h hgl hbad hlast hx hx1 hf1 hm hf hrev
    go_enter Try.func12, Try.ntmps12
    go_wp2_with fail
    refine (C2.out _ (by go_grown)).mono ?_
    rintro e w1 ⟨rfl, hb1⟩
    have R1 := Lib.hid (zero_start w hb1)
    clear hb1
    go_wp2_with fail
    refine (C3.out _ R1.out.2.1).mono ?_
    rintro e w2 ⟨x, cap, rfl, hso, hb2⟩
    have hz2 := hb2.size
    have R2 := Lib.hid (show ZeroAt w2 w.heap.size ∧ Below w.heap.size w w2 ∧ w.heap.size + 1 ≤ w2.heap.size from ⟨R1.out.1.below hb2 (by have := R1.out.2.2; omega), R1.out.2.1.trans (hb2.mono (by have := R1.out.2.2; omega)), by have := R1.out.2.2; omega⟩)
    have HS := Lib.hid (hso.mono (show w.heap.size + 1 ≤ w1.heap.size from R1.out.2.2))
    clear hb2 hso R1
    have F3 := Lib.hid (FluxAt.new w2 c f x gs.length cap 24 w2.heap.size rfl)
    have HW := Lib.hid ((Below.refl w2.heap.size w2).alloc (Nat.le_refl _) (.cells #[.int .i64 c, .int .i64 f, .slice x gs.length cap] 24))
    go_wp2_with fail
    refine (C4.out _ _ _ _ F3.out (HS.out.sl.below HW.out (Nat.le_refl _))).mono ?_
    rintro e w4 ⟨rfl, hb4⟩
    have hz4 := hb4.size
    simp at hz4
    have HB4 := Lib.hid (show Below w2.heap.size w2 w4 from HW.out.trans (hb4.mono (by simp)))
    obtain ⟨z0, z1, z2, y0, y1, y2⟩ := (R2.out.1.below HB4.out (by have := R2.out.2.2; omega)).facts
    have FB := Lib.hid (show Below w.heap.size w w4 from R2.out.2.1.trans (HB4.out.mono (by have := R2.out.2.2; omega)))
    clear hb4
    go_wp2
    refine bodyPost_ret (v := .tuple #[.agg #[.int .i64 0, .int .i64 0, .slice none 0 0], .bool false]) (by simp [results, Try.results12, go_sem, z0, z1, z2]) rfl ⟨none, 0, rfl, .inl rfl, below_set3 FB.out (by omega) _ _ _⟩
  · have hs' : risesB 0 9223372036854775807 ts = false := by simpa using hs
    rw [hs'] at c2
    have C2 := Lib.hid c2; clear c2 h hs hs' hrev hf hn
    go_enter Try.func12, Try.ntmps12
    go_wp2_with fail
    refine (C2.out _ (by go_grown)).mono ?_
    rintro e w1 ⟨rfl, hb1⟩
    have R := Lib.hid (zero_start w hb1)
    obtain ⟨z0, z1, z2, y0, y1, y2⟩ := R.out.1.facts
    clear hb1
    go_wp2
    refine bodyPost_ret (v := .tuple #[.agg #[.int .i64 0, .int .i64 0, .slice none 0 0], .bool false]) (by simp [results, Try.results12, go_sem, z0, z1, z2]) rfl ⟨none, 0, rfl, .inl rfl, below_set3 R.out.2.1 (by omega) _ _ _⟩
theorem l04MakeAll_any (c : Int) (a : Option Addr) (ts : List Int) (d : Nat) (rev : Int) (w : World) (hl : ts.length ≤ 1048576) (hn : 0 < ts.length) (b1 : -9223372036854775808 ≤ rev) (b2 : rev ≤ 9223372036854775807) (h : SlA w a ts) :
    Calls Try.prog 12 #[.slice a ts.length d, .int .i64 rev, .int .i64 c] w (MadeRes (madeVal c ts rev) (makeB c ts rev) w) := by
  by_cases hr : rev = -9223372036854775808
  · have h1 := l04Make_w c a ts d rev w hl hn hr h
    have e : makeB c ts rev = false := by
      unfold makeB
      have : inB 1 2000000 rev = false := by
        cases hq : inB 1 2000000 rev with
        | false => rfl
        | true => have := inB_iff.1 hq; omega
      rw [this]; rfl
    unfold madeVal; rw [e]; exact h1
  · exact l04Make_any c a ts d rev w hl hn (by omega) b2 h
set_option maxHeartbeats 4000000 in
theorem specFluxOfTimes_any (c : Int) (a : Option Addr) (ts : List Int) (d : Nat) (rev : Int) (w : World) (hl : ts.length ≤ 1048576) (b1 : -9223372036854775808 ≤ rev) (b2 : rev ≤ 9223372036854775807) (h : SlA w a ts) :
    Calls Try.prog 4 #[.slice a ts.length d, .int .i64 rev, .int .i64 c] w (FluxRes (mkVal c ts rev 1) w) := by
  by_cases hn : 0 < ts.length
  · have c1 := fun w' (hb : Below w.heap.size w w') => l04MakeAll_any c a ts d rev w' hl hn b1 b2 (h.below hb (Nat.le_refl _))
    rw [mkVal_eq c ts rev 1 hn]
    unfold madeVal MadeRes at c1
    have h0 : ((ts.length : Int) == 0) = false := by rw [beq_eq_false_iff_ne]; omega
    generalize makeB c ts rev = q at c1 ⊢
    generalize gapsOf ts rev = gs at c1 ⊢
    generalize ts[0]?.getD 0 = f at c1 ⊢
    cases q
    · simp only [FluxVal.none, Bool.false_eq_true, ↓reduceIte, List.length_nil] at c1
      have C1 := Lib.hid c1; clear c1 h
      go_enter Try.func4, Try.ntmps4
      go_wp2_with fail
      refine (C1.out _ (by go_grown)).mono ?_
      rintro e w1 ⟨x, cap, rfl, hso, hb1⟩
      have R := Lib.hid (zero_start w hb1)
      have hR := R.out.2.2
      have Z := Lib.hid (R.out.1.below ((Below.refl w1.heap.size w1).alloc (Nat.le_refl _) (.cells #[.int .i64 0, .int .i64 0, .slice x 0 cap] 24)) (by omega))
      obtain ⟨z0, z1, z2, y0, y1, y2⟩ := Z.out.facts
      clear hb1 hso
      go_wp2
      refine bodyPost_ret (v := .tuple #[.agg #[.int .i64 0, .int .i64 0, .slice none 0 0], .int .i64 1]) (by simp [results, Try.results4, go_sem, z0, z1, z2]) rfl ⟨none, 0, rfl, .inl rfl, below_set3 (R.out.2.1.alloc (by omega) _) (by omega) _ _ _⟩
    · have C1 := Lib.hid c1; clear c1 h
      go_enter Try.func4, Try.ntmps4
      go_wp2_with fail
      refine (C1.out _ (by go_grown)).mono ?_
      rintro e w1 ⟨x, cap, rfl, hso, hb1⟩
      have R := Lib.hid (zero_start w hb1)
      have hR := R.out.2.2
      have Z := Lib.hid (R.out.1.below ((Below.refl w1.heap.size w1).alloc (Nat.le_refl _) (.cells #[.int .i64 c, .int .i64 f, .slice x gs.length cap] 24)) (by omega))
      have HS := Lib.hid (show SlO w1 (w.heap.size + 1) x gs from hso.mono (by simp))
      obtain ⟨z0, z1, z2, y0, y1, y2⟩ := Z.out.facts
      clear hb1 hso
      go_wp2
      refine bodyPost_ret (v := .tuple #[.agg #[.int .i64 c, .int .i64 f, .slice x gs.length cap], .int .i64 0]) (by simp [results, Try.results4, go_sem, z0, z1, z2]) rfl ⟨x, cap, rfl, ?_, below_set3 (R.out.2.1.alloc (by omega) _) (by omega) _ _ _⟩
      exact ((HS.out.below ((Below.refl w1.heap.size w1).alloc (Nat.le_refl _) _) (Nat.le_refl _)).set3 _ _ _ (by omega)).mono (by omega)
  · have hn0 : ts.length = 0 := by omega
    have he : mkVal c ts rev 1 = .none 6 := by unfold mkVal; rw [if_pos hn0]
    rw [he, hn0]
    clear h hn0 he
    go_enter Try.func4, Try.ntmps4
    go_wp2
    refine bodyPost_ret (v := .tuple #[.agg #[.int .i64 0, .int .i64 0, .slice none 0 0], .int .i64 6]) (by simp [results, Try.results4, go_sem]) rfl ⟨none, 0, rfl, .inl rfl, ?_⟩
    go_grown
end Go.Proofs.Ytoehejikohicfaa
