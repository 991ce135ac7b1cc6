/- impl.validDrift, impl.AddDrift -/
import Derived.Test.YtgmnaikgjfbgkaaReadingOf
import Derived.StillTailTactics
namespace Go.Proofs.Ytgmnaikgjfbgkaa
open Go.RowKit
set_option linter.unusedVariables false
theorem validDrift_any (d : Int) (w : World) :
    Calls Try.prog 62 #[.int .i64 d] w fun e w' => e = .returned (.bool (inB (-100) 100 d)) ∧ Below w.heap.size w w' := by
  have C1 := Lib.hid (fun w T b (hb : w.heap.size = b) => within_at (-100) 100 d w T b hb)
  go_enter Try.func62, Try.ntmps62
  go_wp2_with (go_at_call 84; refine (C1.out _ _ _ (by simp)).mono ?_; rintro e w' ⟨rfl, rfl⟩)
  go_ret
  exact ⟨rfl, by go_grown⟩
/-- A reading in a block of its own. -/
def ReadAt (w : World) (p : Nat) (c f : Int) (a : Option Addr) (n cap g m : Nat) (rev : Int) : Prop :=
  w.heap[p]? = some (.cells #[.int .i64 c, .int .i64 f, .slice a n cap, .slice (some ⟨g, 0, none⟩) m m, .int .i64 rev] 100 (0, 0))
theorem ReadAt.new (w : World) (c f : Int) (a : Option Addr) (n cap g m : Nat) (rev : Int) (p : Nat) (hp : w.heap.size = p) : ReadAt (w.alloc (.cells #[.int .i64 c, .int .i64 f, .slice a n cap, .slice (some ⟨g, 0, none⟩) m m, .int .i64 rev] 100)) p c f a n cap g m rev := by
  subst hp; exact heap_alloc_new w _
theorem ReadAt.facts {w : World} {p : Nat} {c f : Int} {a : Option Addr} {n cap g m : Nat} {rev : Int} (h : ReadAt w p c f a n cap g m rev) : w.cell? ⟨p, 0, none⟩ = some (.int .i64 c) ∧ w.cell? ⟨p, 1, none⟩ = some (.int .i64 f) ∧ w.cell? ⟨p, 2, none⟩ = some (.slice a n cap) ∧ w.cell? ⟨p, 3, none⟩ = some (.slice (some ⟨g, 0, none⟩) m m) ∧ w.cell? ⟨p, 4, none⟩ = some (.int .i64 rev) ∧ w.frozen? ⟨p, 4, none⟩ = false := by
  unfold ReadAt at h
  simp [World.cell?, World.frozen?, h]
theorem ReadAt.touch {w w' : World} {q p : Nat} {c f : Int} {a : Option Addr} {n cap g m : Nat} {rev : Int} (h : ReadAt w p c f a n cap g m rev) (ht : Touch q w w') (hp : p ≠ q) : ReadAt w' p c f a n cap g m rev := by
  unfold ReadAt; rw [ht.block p hp]; exact h
theorem ReadAt.setRev {w : World} {p : Nat} {c f : Int} {a : Option Addr} {n cap g m : Nat} {rev : Int} (h : ReadAt w p c f a n cap g m rev) (r : Int) : ReadAt (w.setCell ⟨p, 4, none⟩ (.int .i64 r)) p c f a n cap g m r := by
  unfold ReadAt
  rw [heap_set_row _ _ _ _ _ _ h]
  rfl
theorem ZeroAt.touch {w w' : World} {q p : Nat} (h : ZeroAt w p) (ht : Touch q w w') (hp : p ≠ q) : ZeroAt w' p := by
  unfold ZeroAt; rw [ht.block p hp]; exact h
theorem ZeroAt.setCell {w : World} {p : Nat} (h : ZeroAt w p) {q : Addr} (v : Value) (hp : p ≠ q.block) : ZeroAt (w.setCell q v) p := by
  unfold ZeroAt; rw [Below.heap_setCell w q v p hp]; exact h
theorem RowR.setCell {w : World} {g : Nat} {l : List Int} {rest : Array Value} (h : RowR w g l rest) {q : Addr} (v : Value) (hq : g ≠ q.block) : RowR (w.setCell q v) g l rest := by
  unfold RowR; rw [Below.heap_setCell w q v g hq]; exact h
def driftAt (d : Int) (_ : Nat) (x : Int) : Int := x * (1000 + d) / 1000
theorem drift_bd {d x : Int} (h0 : 0 ≤ x) (h1 : x ≤ 4194304) (h2 : -100 ≤ d) (h3 : d ≤ 100) : (0 ≤ x * (1000 + d) ∧ x * (1000 + d) ≤ 4613734400) ∧ 0 ≤ x * (1000 + d) / 1000 ∧ x * (1000 + d) / 1000 ≤ 4613735 := by
  have p1 : 0 ≤ x * (1000 + d) := Int.mul_nonneg h0 (by omega)
  have p2 : x * (1000 + d) ≤ 4194304 * 1100 := Int.mul_le_mul h1 (by omega) (by omega) (by omega)
  omega
def driftVal (c f : Int) (zs : List Int) (d : Int) : FluxVal :=
  if fluxOk c f zs = true ∧ inB (-100) 100 d = true then mkVal c (idxTo (driftAt d) (timesOf f zs) zs.length) (zs.sum * (1000 + d) / 1000) 2 else .none 1
theorem driftVal_len (c f : Int) (zs : List Int) (d : Int) (hl : zs.length ≤ 1048576) : (driftVal c f zs d).gaps.length ≤ 1048576 := by
  unfold driftVal
  split
  · exact mkVal_len _ _ _ _ (by rw [idxTo_length, timesOf_length]; exact hl)
  · simp [FluxVal.none]
set_option maxHeartbeats 2000000 in
theorem addDrift_no (c f : Int) (a : Option Addr) (cap : Nat) (zs : List Int) (d : Int) (hl : zs.length ≤ 1048576) (hv : fluxOk c f zs = false ∨ inB (-100) 100 d = false) (w : World) (h : SlA w a zs) :
    Calls Try.prog 35 #[.agg #[.int .i64 c, .int .i64 f, .slice a zs.length cap], .int .i64 d] w (FluxRes (.none 1) w) := by
  have c1 := fun w' (hb : Below w.heap.size w w') => validFlux_any c f a zs cap w' hl (h.below hb (Nat.le_refl _))
  have c2 := fun w' => validDrift_any d w'
  generalize fluxOk c f zs = q1 at c1 hv
  generalize inB (-100) 100 d = q2 at c2 hv
  have C1 := Lib.hid c1; have C2 := Lib.hid c2; clear c1 c2 h
  cases q1
  · clear hv
    go_enter Try.func35, Try.ntmps35
    go_wp2_with fail
    refine (C1.out _ (by go_grown)).mono ?_
    rintro e w1 ⟨rfl, hb1⟩
    obtain ⟨z0, z1, z2, y0, y1, y2⟩ := ((ZeroAt.new (w.alloc (.cells #[.int .i64 c, .int .i64 f, .slice a zs.length cap] 39)) (w.heap.size + 1) (by simp)).below hb1 (by simp)).facts
    have FB := Lib.hid (show Below w.heap.size w w1 from Below.trans (by go_grown) (hb1.mono (by simp; omega)))
    clear hb1
    go_wp2
    refine bodyPost_ret (v := .tuple #[.agg #[.int .i64 0, .int .i64 0, .slice none 0 0], .int .i64 1]) (by simp [results, Try.results35, go_sem, z0, z1, z2]) rfl ⟨none, 0, rfl, .inl rfl, below_set3 FB.out (by omega) _ _ _⟩
  · have e : q2 = false := by rcases hv with h | h; cases h; exact h
    subst e
    clear hv
    go_enter Try.func35, Try.ntmps35
    go_wp2_with fail
    refine (C1.out _ (by go_grown)).mono ?_
    rintro e w1 ⟨rfl, hb1⟩
    have Z1 := Lib.hid ((ZeroAt.new (w.alloc (.cells #[.int .i64 c, .int .i64 f, .slice a zs.length cap] 39)) (w.heap.size + 1) (by simp)).below hb1 (by simp))
    have FB := Lib.hid (show Below w.heap.size w w1 from Below.trans (by go_grown) (hb1.mono (by simp; omega)))
    clear hb1
    go_wp2_with fail
    refine (C2.out _).mono ?_
    rintro e w2 ⟨rfl, hb2⟩
    obtain ⟨z0, z1, z2, y0, y1, y2⟩ := (Z1.out.below hb2 Z1.out.lt).facts
    have FB2 := Lib.hid (FB.out.trans (hb2.mono FB.out.size))
    clear hb2
    go_wp2
    refine bodyPost_ret (v := .tuple #[.agg #[.int .i64 0, .int .i64 0, .slice none 0 0], .int .i64 1]) (by simp [results, Try.results35, go_sem, z0, z1, z2]) rfl ⟨none, 0, rfl, .inl rfl, below_set3 FB2.out (by omega) _ _ _⟩
set_option maxHeartbeats 8000000 in
set_option maxRecDepth 1000000 in
theorem addDrift_yes (c f : Int) (a : Option Addr) (cap : Nat) (zs : List Int) (d : Int) (hl : zs.length ≤ 1048576) (hv : fluxOk c f zs = true) (hd : inB (-100) 100 d = true) (w : World) (h : SlA w a zs) :
    Calls Try.prog 35 #[.agg #[.int .i64 c, .int .i64 f, .slice a zs.length cap], .int .i64 d] w (FluxRes (mkVal c (idxTo (driftAt d) (timesOf f zs) zs.length) (zs.sum * (1000 + d) / 1000) 2) w) := by
  have c1 := fun w' (hb : Below w.heap.size w w') => validFlux_any c f a zs cap w' hl (h.below hb (Nat.le_refl _))
  rw [hv] at c1
  have c2 := fun w' => validDrift_any d w'
  rw [hd] at c2
  have c3 := fun w' (hb : Below w.heap.size w w') => readingOf_any c f a cap zs hl hv w' (h.below hb (Nat.le_refl _))
  obtain ⟨_, ⟨hz1, hz4⟩, hz, hsum, hf0, hf1⟩ := fluxOk_iff.1 hv
  have hsum0 : 0 ≤ zs.sum := by have := (sum_bd hz zs.length).1; rwa [List.take_length] at this
  have htb := fun k => tAt_bd hz hsum hf0 (last_bd hv) k
  obtain ⟨hd0, hd1⟩ := inB_iff.1 hd
  have hrb := drift_bd hsum0 (show zs.sum ≤ 4194304 by omega) hd0 hd1
  have hil := idxTo_length (driftAt d) (timesOf f zs)
  have htl := timesOf_length f zs
  have c4 := fun w' g (hg : SlA w' (some ⟨g, 0, none⟩) (idxTo (driftAt d) (timesOf f zs) zs.length)) => readingFlux_any c f a zs.length cap (some ⟨g, 0, none⟩) (idxTo (driftAt d) (timesOf f zs) zs.length) zs.length (zs.sum * (1000 + d) / 1000) 2 w' (by rw [hil, htl]; exact hl) hg
  rw [hil, htl] at c4
  unfold ReadRes at c3
  rw [htl] at c3
  generalize mkVal c (idxTo (driftAt d) (timesOf f zs) zs.length) (zs.sum * (1000 + d) / 1000) 2 = fv at c4 ⊢
  obtain ⟨vc, vf, vg, vk⟩ := fv
  have C1 := Lib.hid c1; have C2 := Lib.hid c2; have C3 := Lib.hid c3; have C4 := Lib.hid c4
  have HT := Lib.hid (And.intro htb (And.intro htl hil))
  have HR := Lib.hid hrb
  clear c1 c2 c3 c4 h hv hd hz htb htl hil hrb
  generalize hrev : zs.sum * (1000 + d) / 1000 = rev at *
  try rw [hrev]
  have HREV := Lib.hid hrev; clear hrev
  go_enter Try.func35, Try.ntmps35
  go_wp2_with fail
  refine (C1.out _ (by go_grown)).mono ?_
  rintro e w1 ⟨rfl, hb1⟩
  have Z1 := Lib.hid ((ZeroAt.new (w.alloc (.cells #[.int .i64 c, .int .i64 f, .slice a zs.length cap] 39)) (w.heap.size + 1) (by simp)).below hb1 (by simp))
  have X1 := Lib.hid (((FluxAt.new w c f a zs.length cap 39 w.heap.size rfl).below (Below.alloc (Below.refl _ _) (Nat.le_refl _) (.cells #[.int .i64 0, .int .i64 0, .slice none 0 0] 39)) (by simp)).below hb1 (by simp; omega))
  have FB := Lib.hid (show Below w.heap.size w w1 from Below.trans (by go_grown) (hb1.mono (by simp; omega)))
  clear hb1
  go_wp2_with fail
  refine (C2.out _).mono ?_
  rintro e w2 ⟨rfl, hb2⟩
  replace FB := Lib.hid (FB.out.trans (hb2.mono FB.out.size))
  obtain ⟨x0, x1, x2⟩ := X1.out.below hb2 X1.out.lt
  replace Z1 := Lib.hid (Z1.out.below hb2 Z1.out.lt)
  clear hb2 X1
  go_wp2_with fail
  refine (C3.out _ FB.out).mono ?_
  rintro e w3 ⟨g, rfl, hrow, hg, hb3⟩
  have hz3 := hb3.size
  have hgl := hrow.lt
  have hlz := Z1.out.lt
  have HG : w.heap.size + 2 ≤ g := by have := Z1.out.lt; omega
  replace Z1 := Lib.hid (Z1.out.below hb3 Z1.out.lt)
  replace FB := Lib.hid (FB.out.trans (hb3.mono FB.out.size))
  clear hb3 x0 x1 x2
  have HB := Lib.hid (And.intro Z1.out (And.intro FB.out hrow))
  have RD := Lib.hid (ReadAt.new w3 c f a zs.length cap g zs.length zs.sum w3.heap.size rfl)
  obtain ⟨A, hA⟩ : ∃ A, w3.alloc (.cells #[.int .i64 c, .int .i64 f, .slice a zs.length cap, .slice (some ⟨g, 0, none⟩) zs.length zs.length, .int .i64 zs.sum] 100) = A := ⟨_, rfl⟩
  have hAs : A.heap.size = w3.heap.size + 1 := by rw [← hA]; simp
  have hBA : Below w3.heap.size w3 A := by rw [← hA]; exact (Below.refl _ _).alloc (Nat.le_refl _) _
  have HA := Lib.hid hA
  rw [hA] at RD
  have ZA := Lib.hid (HB.out.1.below hBA HB.out.1.lt)
  have FA := Lib.hid (HB.out.2.1.trans (hBA.mono HB.out.2.1.size))
  have RA := Lib.hid (HB.out.2.2.below hBA hgl)
  clear hrow Z1 FB hA hBA
  go_wp2_with fail
  rw [HA.out]
  obtain ⟨r0, r1, r2, r3, r4, r5⟩ := RD.out.facts
  go_wp2
  clear r0 r1 r2 r3 r4 r5
  go_loopw [7, 22] (fun _ i wr => ∃ k : Nat, k ≤ zs.length ∧ i = .int .i64 (k : Int) ∧ RowR wr g (idxTo (driftAt d) (timesOf f zs) k) #[] ∧ Touch g A wr) (fun _ i _ => zs.length - (intOf i).toNat)
  case atStart => exact ⟨0, Nat.zero_le _, rfl, by rw [idxTo_zero]; exact RA.out.rowR, Touch.refl _ _⟩
  case round =>
    obtain ⟨k, hk, rfl, hrw, htc⟩ := hrel
    have hsz := htc.size
    by_cases hlt : k < zs.length
    · have hx := timesOf_at f zs k hlt
      have hbd := HT.out.1 k
      have hdb := drift_bd hbd.1 hbd.2 hd0 hd1
      have hcell := hrw.cell (idxTo_at (driftAt d) _ k _ hx)
      have hset := hrw.set k (driftAt d k (tAt f zs k)) (by rw [HT.out.2.2, HT.out.2.1]; exact hlt)
      rw [idxTo_set _ _ k _ hx] at hset
      unfold driftAt at hset
      have hq : (tAt f zs k * (1000 + d)).tdiv 1000 = tAt f zs k * (1000 + d) / 1000 := Int.tdiv_eq_ediv_of_nonneg hdb.1.1
      obtain ⟨r0, r1, r2, r3, r4, r5⟩ := (RD.out.touch htc (by omega)).facts
      generalize tAt f zs k = t at *
      obtain ⟨hc1, hc2⟩ := hcell
      have HS := Lib.hid (And.intro hset htc)
      clear hset hrw hx htc
      have e1 : (k : Int) < (zs.length : Int) := by omega
      have e0 : (0 : Int) ≤ (k : Int) := by omega
      have q0 : IntKind.i64.wrap (1000 + d) = 1000 + d := wrap_in' (by omega) (by omega)
      have q1 : IntKind.i64.wrap (t * (1000 + d)) = t * (1000 + d) := wrap_in' (by omega) (by omega)
      have q2 : IntKind.i64.wrap (t * (1000 + d) / 1000) = t * (1000 + d) / 1000 := wrap_in' (by omega) (by omega)
      have p0 : wrap64 (1000 + d) = 1000 + d := wrap_in (by omega) (by omega)
      have p1 : wrap64 (t * (1000 + d)) = t * (1000 + d) := wrap_in (by omega) (by omega)
      have p2 : wrap64 (t * (1000 + d) / 1000) = t * (1000 + d) / 1000 := wrap_in (by omega) (by omega)
      go_wp2
      go_still_tail 13, (by kernel_rfl)
      change wpList _ _ _ _ _ wr.drew
      go_wp2
      go_roundw
      case rel => exact ⟨k + 1, by omega, by go_num, HS.out.1, HS.out.2.drew.setCell _ _⟩
      case measure => simp [intOf]; omega
    · obtain rfl : k = zs.length := by omega
      have hgw : g < w3.heap.size := hgl
      have RDr := RD.out.touch htc (by omega)
      obtain ⟨r0, r1, r2, r3, r4, r5⟩ := RDr.facts
      have hsr := HR.out
      have q0 : IntKind.i64.wrap (1000 + d) = 1000 + d := wrap_in' (by omega) (by omega)
      have q1 : IntKind.i64.wrap (zs.sum * (1000 + d)) = zs.sum * (1000 + d) := wrap_in' (by omega) (by omega)
      have qt : (zs.sum * (1000 + d)).tdiv 1000 = rev := by rw [← HREV.out]; exact Int.tdiv_eq_ediv_of_nonneg hsr.1.1
      have q2 : IntKind.i64.wrap rev = rev := wrap_in' (by omega) (by omega)
      have p0 : wrap64 (1000 + d) = 1000 + d := wrap_in (by omega) (by omega)
      have p1 : wrap64 (zs.sum * (1000 + d)) = zs.sum * (1000 + d) := wrap_in (by omega) (by omega)
      have p2 : wrap64 rev = rev := wrap_in (by omega) (by omega)
      have qd : zs.sum * (1000 + d) / 1000 = rev := HREV.out
      have FBr := FA.out.trans (htc.below (show w.heap.size ≤ g by omega))
      have ZR := ZA.out.touch htc (show w.heap.size + 1 ≠ g by omega)
      have hlw : w.heap.size + 2 ≤ wr.heap.size := by omega
      have HE := Lib.hid (And.intro FBr (And.intro ZR (And.intro hrw RDr)))
      clear FBr ZR hrw RDr htc ZA FA RA HB
      have S5 := Lib.hid (show ReadAt (wr.setCell ⟨w3.heap.size, 4, none⟩ (.int .i64 rev)) w3.heap.size c f a zs.length cap g zs.length rev ∧ ZeroAt (wr.setCell ⟨w3.heap.size, 4, none⟩ (.int .i64 rev)) (w.heap.size + 1) ∧ RowR (wr.setCell ⟨w3.heap.size, 4, none⟩ (.int .i64 rev)) g (idxTo (driftAt d) (timesOf f zs) zs.length) #[] ∧ Below w.heap.size w (wr.setCell ⟨w3.heap.size, 4, none⟩ (.int .i64 rev)) from ⟨HE.out.2.2.2.setRev rev, HE.out.2.1.setCell _ (by simp; omega), HE.out.2.2.1.setCell _ (by simp; omega), HE.out.1.setCell (p := ⟨w3.heap.size, 4, none⟩) (by simp; omega) _⟩)
      have hszS : (wr.setCell ⟨w3.heap.size, 4, none⟩ (.int .i64 rev)).heap.size = wr.heap.size := by simp
      have C5 := Lib.hid (C4.out (wr.setCell ⟨w3.heap.size, 4, none⟩ (.int .i64 rev)) g (S5.out.2.2.1.slO (B := 0) (Nat.zero_le _)).sl)
      clear C4 C1 C2 C3
      go_wp2_with fail
      refine (C5.out).mono ?_
      rintro e w5 ⟨a5, cap5, rfl, hso, hb5⟩
      have hz5 := hb5.size
      rw [hszS] at hz5
      obtain ⟨z0, z1, z2, y0, y1, y2⟩ := (S5.out.2.1.below hb5 (by rw [hszS]; omega)).facts
      have FBf := Lib.hid (S5.out.2.2.2.trans (hb5.mono (by rw [hszS]; omega)))
      have HSO := Lib.hid (show SlO w5 (w.heap.size + 2) a5 vg from hso.mono (by rw [hszS]; omega))
      clear hb5 hso r0 r1 r2 r3 r4 r5
      go_wp2
      refine bodyPost_ret (v := .tuple #[.agg #[.int .i64 vc, .int .i64 vf, .slice a5 vg.length cap5], .int .i64 vk]) (by simp [results, Try.results35, go_sem, z0, z1, z2]) rfl ⟨a5, cap5, rfl, ?_, below_set3 FBf.out (by omega) _ _ _⟩
      exact (HSO.out.set3 _ _ _ (by omega)).mono (by omega)
theorem addDrift_any (c f : Int) (a : Option Addr) (cap : Nat) (zs : List Int) (d : Int) (hl : zs.length ≤ 1048576) (w : World) (h : SlA w a zs) :
    Calls Try.prog 35 #[.agg #[.int .i64 c, .int .i64 f, .slice a zs.length cap], .int .i64 d] w (FluxRes (driftVal c f zs d) w) := by
  unfold driftVal
  by_cases hv : fluxOk c f zs = true
  · by_cases hd : inB (-100) 100 d = true
    · rw [if_pos ⟨hv, hd⟩]; exact addDrift_yes c f a cap zs d hl hv hd w h
    · rw [if_neg (fun h => hd h.2)]; exact addDrift_no c f a cap zs d hl (.inr (by simpa using hd)) w h
  · rw [if_neg (fun h => hv h.1)]; exact addDrift_no c f a cap zs d hl (.inl (by simpa using hv)) w h
end Go.Proofs.Ytgmnaikgjfbgkaa
