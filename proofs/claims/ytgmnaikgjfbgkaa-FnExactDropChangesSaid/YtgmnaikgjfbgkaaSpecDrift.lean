/- spec.l04Drift, spec.AddDrift -/
import Derived.Test.YtgmnaikgjfbgkaaAddDrift
import Derived.Test.YtgmnaikgjfbgkaaSm
namespace Go.Proofs.Ytgmnaikgjfbgkaa
open Go.RowKit
set_option linter.unusedVariables false
theorem l04Drift_any (d : Int) (w : World) :
    Calls Try.prog 77 #[.int .i64 d] w fun e w' => e = .returned (.bool (inB (-100) 100 d)) ∧ w = w' := by
  have C1 := Lib.hid (fun w => l00In_any d (-100) 100 w)
  go_enter Try.func77, Try.ntmps77
  go_wp2_with (go_at_call 99; refine (C1.out _).mono ?_; rintro e w' ⟨rfl, rfl⟩)
  go_ret
  exact ⟨rfl, rfl⟩
/-- The flux that came in, and the zero flux behind it. -/
theorem two_start (w : World) (c f : Int) (a : Option Addr) (n cap : Nat) {w1 : World} (hb1 : Below ((w.alloc (.cells #[.int .i64 c, .int .i64 f, .slice a n cap] 39)).alloc (.cells #[.int .i64 0, .int .i64 0, .slice none 0 0] 39)).heap.size ((w.alloc (.cells #[.int .i64 c, .int .i64 f, .slice a n cap] 39)).alloc (.cells #[.int .i64 0, .int .i64 0, .slice none 0 0] 39)) w1) :
    FluxAt w1 w.heap.size c f a n cap ∧ ZeroAt w1 (w.heap.size + 1) ∧ Below w.heap.size w w1 ∧ w.heap.size + 2 ≤ w1.heap.size := by
  have hz := hb1.size
  simp at hz
  exact ⟨((FluxAt.new w c f a n cap 39 w.heap.size rfl).below (Below.alloc (Below.refl _ _) (Nat.le_refl _) _) (by simp)).below hb1 (by simp; omega), (ZeroAt.new _ (w.heap.size + 1) (by simp)).below hb1 (by simp), Below.trans (by go_grown) (hb1.mono (by simp; omega)), by omega⟩
theorem two_at (w : World) (c f : Int) (a : Option Addr) (n cap : Nat) : FluxAt ((w.alloc (.cells #[.int .i64 c, .int .i64 f, .slice a n cap] 39)).alloc (.cells #[.int .i64 0, .int .i64 0, .slice none 0 0] 39)) w.heap.size c f a n cap :=
  (FluxAt.new w c f a n cap 39 w.heap.size rfl).below (Below.alloc (Below.refl _ _) (Nat.le_refl _) _) (by simp)
set_option maxHeartbeats 2000000 in
theorem specAddDrift_no (c f : Int) (a : Option Addr) (cap : Nat) (zs : List Int) (d : Int) (hl : zs.length ≤ 1048576) (hv : fluxOk c f zs = false ∨ inB (-100) 100 d = false) (w : World) (h : SlA w a zs) :
    Calls Try.prog 34 #[.agg #[.int .i64 c, .int .i64 f, .slice a zs.length cap], .int .i64 d] w (FluxRes (.none 1) w) := by
  have c1 := fun w' (hb : Below w.heap.size w w') (hf : FluxAt w' w.heap.size c f a zs.length cap) => l02Ok_any w.heap.size c f a zs cap w' hl hf (h.below hb (Nat.le_refl _))
  have c2 := fun w' => l04Drift_any d w'
  generalize fluxOk c f zs = q1 at c1 hv
  generalize inB (-100) 100 d = q2 at c2 hv
  have C1 := Lib.hid c1; have C2 := Lib.hid c2; clear c1 c2 h
  cases q1
  · clear hv
    go_enter Try.func34, Try.ntmps34
    go_wp2_with fail
    refine (C1.out _ (by go_grown) (two_at w c f a zs.length cap)).mono ?_
    rintro e w1 ⟨rfl, hb1⟩
    have T1 := Lib.hid (two_start w c f a zs.length cap hb1)
    obtain ⟨z0, z1, z2, y0, y1, y2⟩ := T1.out.2.1.facts
    clear hb1
    go_wp2
    refine bodyPost_ret (v := .tuple #[.agg #[.int .i64 0, .int .i64 0, .slice none 0 0], .int .i64 1]) (by simp [results, Try.results34, go_sem, z0, z1, z2]) rfl ⟨none, 0, rfl, .inl rfl, below_set3 T1.out.2.2.1 (by omega) _ _ _⟩
  · have e : q2 = false := by rcases hv with h | h; cases h; exact h
    subst e
    clear hv
    go_enter Try.func34, Try.ntmps34
    go_wp2_with fail
    refine (C1.out _ (by go_grown) (two_at w c f a zs.length cap)).mono ?_
    rintro e w1 ⟨rfl, hb1⟩
    have T1 := Lib.hid (two_start w c f a zs.length cap hb1)
    obtain ⟨z0, z1, z2, y0, y1, y2⟩ := T1.out.2.1.facts
    clear hb1
    go_wp2_with fail
    refine (C2.out _).mono ?_
    rintro e w2 ⟨rfl, rfl⟩
    go_wp2
    refine bodyPost_ret (v := .tuple #[.agg #[.int .i64 0, .int .i64 0, .slice none 0 0], .int .i64 1]) (by simp [results, Try.results34, go_sem, z0, z1, z2]) rfl ⟨none, 0, rfl, .inl rfl, below_set3 T1.out.2.2.1 (by omega) _ _ _⟩
/-- A row of its own behind changes. -/
theorem slO_row {w : World} {B : Nat} {a : Option Addr} {zs : List Int} (h : SlO w B a zs) (hn : 0 < zs.length) : ∃ g rest, a = some ⟨g, 0, none⟩ ∧ B ≤ g ∧ RowR w g zs rest := by
  rcases h with h0 | ⟨g, rest, e, hg, hh⟩
  · rw [h0] at hn; simp at hn
  · exact ⟨g, rest, e, hg, hh⟩
theorem RowR.lt {w : World} {g : Nat} {l : List Int} {rest : Array Value} (h : RowR w g l rest) : g < w.heap.size := (Array.getElem?_eq_some_iff.1 h).1
set_option maxHeartbeats 8000000 in
set_option maxRecDepth 1000000 in
theorem specAddDrift_yes (c f : Int) (a : Option Addr) (cap : Nat) (zs : List Int) (d : Int) (hl : zs.length ≤ 1048576) (hv : fluxOk c f zs = true) (hd : inB (-100) 100 d = true) (w : World) (h : SlA w a zs) :
    Calls Try.prog 34 #[.agg #[.int .i64 c, .int .i64 f, .slice a zs.length cap], .int .i64 d] w (FluxRes (mkVal c (idxTo (driftAt d) (timesOf f zs) zs.length) (zs.sum * (1000 + d) / 1000) 2) w) := by
  have c1 := fun w' (hb : Below w.heap.size w w') (hf : FluxAt w' w.heap.size c f a zs.length cap) => l02Ok_any w.heap.size c f a zs cap w' hl hf (h.below hb (Nat.le_refl _))
  rw [hv] at c1
  have c2 := fun w' => l04Drift_any d w'
  rw [hd] at c2
  obtain ⟨_, ⟨hz1, hz4⟩, hz, hsum, hf0, hf1⟩ := fluxOk_iff.1 hv
  have c3 := fun w' (hb : Below w.heap.size w w') (hf : FluxAt w' w.heap.size c f a zs.length cap) => l02Changes_any w.heap.size c f a zs cap w' hz4 hz hf0 (last_bd hv) hf (h.below hb (Nat.le_refl _))
  have c5 := fun w' (hb : Below w.heap.size w w') (hf : FluxAt w' w.heap.size c f a zs.length cap) => l02Revolution_any w.heap.size c f a zs cap w' hl hz hf (h.below hb (Nat.le_refl _))
  have hsum0 : 0 ≤ zs.sum := by have := (sum_bd hz zs.length).1; rwa [List.take_length] at this
  have htb := fun k => tAt_bd hz hsum hf0 (last_bd hv) k
  obtain ⟨hd0, hd1⟩ := inB_iff.1 hd
  have hrb := drift_bd hsum0 (show zs.sum ≤ 4194304 by omega) hd0 hd1
  have hil := idxTo_length (driftAt d) (timesOf f zs)
  have htl := timesOf_length f zs
  have c4 := fun w' g cp (hg : SlA w' (some ⟨g, 0, none⟩) (idxTo (driftAt d) (timesOf f zs) zs.length)) => l04Done_any c (some ⟨g, 0, none⟩) (idxTo (driftAt d) (timesOf f zs) zs.length) cp (zs.sum * (1000 + d) / 1000) w' (by rw [hil, htl]; exact hl) (by omega) (by omega) hg
  rw [hil, htl] at c4
  generalize mkVal c (idxTo (driftAt d) (timesOf f zs) zs.length) (zs.sum * (1000 + d) / 1000) 2 = fv at c4 ⊢
  obtain ⟨vc, vf, vg, vk⟩ := fv
  have C1 := Lib.hid c1; have C2 := Lib.hid c2; have C3 := Lib.hid c3; have C4 := Lib.hid c4; have C5 := Lib.hid c5
  have HT := Lib.hid (And.intro htb (And.intro htl hil))
  have HR := Lib.hid hrb
  clear c1 c2 c3 c4 c5 h hv hd hz htb htl hil hrb
  generalize hrev : zs.sum * (1000 + d) / 1000 = rev at *
  have HREV := Lib.hid hrev; clear hrev
  go_enter Try.func34, Try.ntmps34
  go_wp2_with fail
  refine (C1.out _ (by go_grown) (two_at w c f a zs.length cap)).mono ?_
  rintro e w1 ⟨rfl, hb1⟩
  have T1 := Lib.hid (two_start w c f a zs.length cap hb1)
  clear hb1
  go_wp2_with fail
  refine (C2.out _).mono ?_
  rintro e w2 ⟨rfl, rfl⟩
  go_wp2_with fail
  refine (C3.out _ T1.out.2.2.1 T1.out.1).mono ?_
  rintro e w3 ⟨a3, cp3, rfl, hso, hb3⟩
  obtain ⟨g, rest, rfl, hg, hrow⟩ := slO_row hso (by rw [HT.out.2.1]; omega)
  have hgl := hrow.lt
  have hs1 := T1.out.2.2.2
  have hz3 := hb3.size
  have T3 := Lib.hid (And.intro (T1.out.1.below hb3 (by omega)) (And.intro (T1.out.2.1.below hb3 (by omega)) (And.intro (T1.out.2.2.1.trans (hb3.mono (by omega))) hrow)))
  clear hb3 hso hrow
  go_wp2
  go_loopw [7] (fun i wr => ∃ k : Nat, k ≤ zs.length ∧ i = .int .i64 (k : Int) ∧ RowR wr g (idxTo (driftAt d) (timesOf f zs) k) rest ∧ Touch g w3 wr) (fun i _ => zs.length - (intOf i).toNat)
  case atStart => exact ⟨0, Nat.zero_le _, rfl, by rw [idxTo_zero]; exact T3.out.2.2.2, Touch.refl _ _⟩
  case round =>
    obtain ⟨k, hk, rfl, hrw, htc⟩ := hrel
    have hsz := htc.size
    by_cases hlt : k < zs.length
    · have hx := timesOf_at f zs k hlt
      have hbd := HT.out.1 k
      have hdb := drift_bd hbd.1 hbd.2 hd0 hd1
      have hcell := hrw.cell (idxTo_at (driftAt d) _ k _ hx)
      have hset := hrw.set k (driftAt d k (tAt f zs k)) (by rw [HT.out.2.2, HT.out.2.1]; exact hlt)
      rw [idxTo_set _ _ k _ hx] at hset
      unfold driftAt at hset
      have hq : (tAt f zs k * (1000 + d)).tdiv 1000 = tAt f zs k * (1000 + d) / 1000 := Int.tdiv_eq_ediv_of_nonneg hdb.1.1
      generalize tAt f zs k = t at *
      obtain ⟨hc1, hc2⟩ := hcell
      have HS := Lib.hid (And.intro hset htc)
      clear hset hrw hx htc
      have e1 : (k : Int) < (zs.length : Int) := by omega
      have e0 : (0 : Int) ≤ (k : Int) := by omega
      have q0 : IntKind.i64.wrap (1000 + d) = 1000 + d := wrap_in' (by omega) (by omega)
      have q1 : IntKind.i64.wrap (t * (1000 + d)) = t * (1000 + d) := wrap_in' (by omega) (by omega)
      have q2 : IntKind.i64.wrap (t * (1000 + d) / 1000) = t * (1000 + d) / 1000 := wrap_in' (by omega) (by omega)
      have p0 : wrap64 (1000 + d) = 1000 + d := wrap_in (by omega) (by omega)
      have p1 : wrap64 (t * (1000 + d)) = t * (1000 + d) := wrap_in (by omega) (by omega)
      have p2 : wrap64 (t * (1000 + d) / 1000) = t * (1000 + d) / 1000 := wrap_in (by omega) (by omega)
      go_wp2
      go_roundw
      case rel => exact ⟨k + 1, by omega, by go_num, HS.out.1, HS.out.2.setCell _ _⟩
      case measure => simp [intOf]; omega
    · obtain rfl : k = zs.length := by omega
      have hsr := HR.out
      have q0 : IntKind.i64.wrap (1000 + d) = 1000 + d := wrap_in' (by omega) (by omega)
      have q1 : IntKind.i64.wrap (zs.sum * (1000 + d)) = zs.sum * (1000 + d) := wrap_in' (by omega) (by omega)
      have qt : (zs.sum * (1000 + d)).tdiv 1000 = rev := by rw [← HREV.out]; exact Int.tdiv_eq_ediv_of_nonneg hsr.1.1
      have q2 : IntKind.i64.wrap rev = rev := wrap_in' (by omega) (by omega)
      have p0 : wrap64 (1000 + d) = 1000 + d := wrap_in (by omega) (by omega)
      have p1 : wrap64 (zs.sum * (1000 + d)) = zs.sum * (1000 + d) := wrap_in (by omega) (by omega)
      have p2 : wrap64 rev = rev := wrap_in (by omega) (by omega)
      have qd : zs.sum * (1000 + d) / 1000 = rev := HREV.out
      have hgp : w.heap.size + 2 ≤ g := by omega
      have hbt := htc.below (show w1.heap.size ≤ g by omega)
      have R3 := Lib.hid (And.intro (T3.out.1.below hbt (by omega)) (And.intro (T3.out.2.1.below hbt (by omega)) (And.intro (T3.out.2.2.1.trans (hbt.mono (by omega))) hrw)))
      clear hbt htc hrw
      have K5 := Lib.hid (C5.out wr.drew R3.out.2.2.1.drew R3.out.1)
      have K4 := Lib.hid (C4.out wr.drew g cp3 (show SlA wr.drew _ _ from (R3.out.2.2.2.slO (B := 0) (Nat.zero_le _)).sl))
      obtain ⟨x0, x1, x2⟩ := R3.out.1
      have HX := Lib.hid (fun w' (hb : Below wr.drew.heap.size wr.drew w') => (R3.out.1.below (below_undrew hb) R3.out.1.lt).1)
      clear x1 x2
      go_wp2_with fail
      go_region_held3 (fun w' => w'.cell? ⟨w.heap.size, 0, none⟩ = some (.int .i64 c))
        (first | (with_reducible exact HX.out _ hb5) | go_keep)
        (first
          | (go_at_call 79; refine (K5.out).mono ?_; rintro e w4 ⟨rfl, rfl⟩)
          | (go_at_call 78; refine (K4.out).mono ?_; rintro e w5 ⟨a5, cap5, rfl, hso, hb5⟩; obtain ⟨z0, z1, z2, y0, y1, y2⟩ := (R3.out.2.1.below (below_undrew hb5) R3.out.2.1.lt).facts)
          | fail)
      all_goals
        have hb6 := below_undrew hb5
        have hz6 := hb6.size
        have FBf := Lib.hid (R3.out.2.2.1.trans (hb6.mono R3.out.2.2.1.size))
        have HSO := Lib.hid (show SlO w5 (w.heap.size + 2) a5 vg from hso.mono (show w.heap.size + 2 ≤ wr.heap.size by omega))
        clear hb5 hb6 hso
        go_wp2
        refine bodyPost_ret (v := .tuple #[.agg #[.int .i64 vc, .int .i64 vf, .slice a5 vg.length cap5], .int .i64 vk]) (by simp [results, Try.results34, go_sem, z0, z1, z2]) rfl ⟨a5, cap5, rfl, ?_, below_set3 FBf.out (by omega) _ _ _⟩
        exact (HSO.out.set3 _ _ _ (by omega)).mono (by omega)
theorem specAddDrift_any (c f : Int) (a : Option Addr) (cap : Nat) (zs : List Int) (d : Int) (hl : zs.length ≤ 1048576) (w : World) (h : SlA w a zs) :
    Calls Try.prog 34 #[.agg #[.int .i64 c, .int .i64 f, .slice a zs.length cap], .int .i64 d] w (FluxRes (driftVal c f zs d) w) := by
  unfold driftVal
  by_cases hv : fluxOk c f zs = true
  · by_cases hd : inB (-100) 100 d = true
    · rw [if_pos ⟨hv, hd⟩]; exact specAddDrift_yes c f a cap zs d hl hv hd w h
    · rw [if_neg (fun h => hd h.2)]; exact specAddDrift_no c f a cap zs d hl (.inr (by simpa using hd)) w h
  · rw [if_neg (fun h => hv h.1)]; exact specAddDrift_no c f a cap zs d hl (.inl (by simpa using hv)) w h
end Go.Proofs.Ytgmnaikgjfbgkaa
