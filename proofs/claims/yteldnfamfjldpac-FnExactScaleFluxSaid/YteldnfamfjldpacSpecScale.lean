/- spec.ScaleFlux -/
import Derived.Test.YteldnfamfjldpacScaleVal
import Derived.Test.YteldnfamfjldpacSpecTimes
import Derived.Test.YteldnfamfjldpacSpecChanges
namespace Go.Proofs.Yteldnfamfjldpac
open Go.RowKit
set_option linter.unusedVariables false
/-- The two cells at the start: the flux that came in, and the zero flux. -/
theorem specScale_start (w : World) (c f : Int) (a : Option Addr) (n cap : Nat) {w1 : World} {W : World} (hW : (w.alloc (.cells #[.int .i64 c, .int .i64 f, .slice a n cap] 26)).alloc (.cells #[.int .i64 0, .int .i64 0, .slice none 0 0] 26) = W) (hb1 : Below W.heap.size W w1) :
    ZeroAt w1 (w.heap.size + 1) ∧ FluxAt w1 w.heap.size c f a n cap ∧ Below w.heap.size w w1 := by
  subst hW
  refine ⟨(ZeroAt.new _ (w.heap.size + 1) (by simp)).below hb1 (by simp), ((FluxAt.new w c f a n cap 26 w.heap.size rfl).below (Below.alloc (Below.refl _ _) (Nat.le_refl _) _) (by simp)).below hb1 (by simp; omega), ?_⟩
  exact Below.trans (by go_grown) (hb1.mono (by simp; omega))
set_option maxHeartbeats 2000000 in
theorem specScaleFlux_no1 (c f : Int) (a : Option Addr) (cap : Nat) (zs : List Int) (num den : Int) (hl : zs.length ≤ 1048576) (hv : fluxOk c f zs = false) (w : World) (h : SlA w a zs) :
    Calls Try.prog 6 #[.agg #[.int .i64 c, .int .i64 f, .slice a zs.length cap], .int .i64 num, .int .i64 den] w (FluxRes (.none 1) w) := by
  have c1 := fun w' (hb : Below w.heap.size w w') (hf : FluxAt w' w.heap.size c f a zs.length cap) => l02Ok_any w.heap.size c f a zs cap w' hl hf (h.below hb (Nat.le_refl _))
  rw [hv] at c1
  have C1 := Lib.hid c1; clear c1 h hv
  go_enter Try.func6, Try.ntmps6
  go_wp2_with fail
  refine (C1.out _ (by go_grown) ((FluxAt.new w c f a zs.length cap 26 w.heap.size rfl).below (Below.alloc (Below.refl _ _) (Nat.le_refl _) _) (by simp))).mono ?_
  rintro e w1 ⟨rfl, hb1⟩
  obtain ⟨hz, _, hb2⟩ := specScale_start w c f a zs.length cap rfl hb1
  obtain ⟨z0, z1, z2, y0, y1, y2⟩ := hz.facts
  clear hb1 hz
  go_wp2
  refine bodyPost_ret (v := .tuple #[.agg #[.int .i64 0, .int .i64 0, .slice none 0 0], .int .i64 1]) (by simp [results, Try.results6, go_sem, z0, z1, z2]) rfl ⟨none, 0, rfl, .inl rfl, below_set3 hb2 (by omega) _ _ _⟩
set_option maxHeartbeats 2000000 in
theorem specScaleFlux_no2 (c f : Int) (a : Option Addr) (cap : Nat) (zs : List Int) (num den : Int) (hl : zs.length ≤ 1048576) (hv : fluxOk c f zs = true) (hn : ¬ (inB 1 1000 num = true ∧ inB 1 1000 den = true)) (w : World) (h : SlA w a zs) :
    Calls Try.prog 6 #[.agg #[.int .i64 c, .int .i64 f, .slice a zs.length cap], .int .i64 num, .int .i64 den] w (FluxRes (.none 2) w) := by
  have c1 := fun w' (hb : Below w.heap.size w w') (hf : FluxAt w' w.heap.size c f a zs.length cap) => l02Ok_any w.heap.size c f a zs cap w' hl hf (h.below hb (Nat.le_refl _))
  rw [hv] at c1
  obtain ⟨q1, hq1⟩ : ∃ q, inB 1 1000 num = q := ⟨_, rfl⟩
  obtain ⟨q2, hq2⟩ : ∃ q, inB 1 1000 den = q := ⟨_, rfl⟩
  have c2 := fun w' => l00In_any num 1 1000 w'
  have c3 := fun w' => l00In_any den 1 1000 w'
  rw [hq1] at c2; rw [hq2] at c3
  rw [hq1, hq2] at hn
  have C1 := Lib.hid c1; have C2 := Lib.hid c2; have C3 := Lib.hid c3; clear c1 c2 c3 h hv hq1 hq2
  go_enter Try.func6, Try.ntmps6
  go_wp2_with fail
  refine (C1.out _ (by go_grown) ((FluxAt.new w c f a zs.length cap 26 w.heap.size rfl).below (Below.alloc (Below.refl _ _) (Nat.le_refl _) _) (by simp))).mono ?_
  rintro e w1 ⟨rfl, hb1⟩
  obtain ⟨hz, _, hb2⟩ := specScale_start w c f a zs.length cap rfl hb1
  obtain ⟨z0, z1, z2, y0, y1, y2⟩ := hz.facts
  clear hb1 hz
  cases q1
  · go_wp2_with fail
    refine (C2.out _).mono ?_
    rintro e w2 ⟨rfl, rfl⟩
    go_wp2
    refine bodyPost_ret (v := .tuple #[.agg #[.int .i64 0, .int .i64 0, .slice none 0 0], .int .i64 2]) (by simp [results, Try.results6, go_sem, z0, z1, z2]) rfl ⟨none, 0, rfl, .inl rfl, below_set3 hb2 (by omega) _ _ _⟩
  · cases q2
    · go_wp2_with fail
      refine (C2.out _).mono ?_
      rintro e w2 ⟨rfl, rfl⟩
      go_wp2_with fail
      refine (C3.out _).mono ?_
      rintro e w2 ⟨rfl, rfl⟩
      go_wp2
      refine bodyPost_ret (v := .tuple #[.agg #[.int .i64 0, .int .i64 0, .slice none 0 0], .int .i64 2]) (by simp [results, Try.results6, go_sem, z0, z1, z2]) rfl ⟨none, 0, rfl, .inl rfl, below_set3 hb2 (by omega) _ _ _⟩
    · exact absurd ⟨rfl, rfl⟩ hn
set_option maxHeartbeats 4000000 in
theorem specScaleFlux_yes (c f : Int) (a : Option Addr) (cap : Nat) (zs : List Int) (num den : Int) (hl : zs.length ≤ 1048576) (hv : fluxOk c f zs = true) (hn1 : inB 1 1000 num = true) (hn2 : inB 1 1000 den = true) (w : World) (h : SlA w a zs) :
    Calls Try.prog 6 #[.agg #[.int .i64 c, .int .i64 f, .slice a zs.length cap], .int .i64 num, .int .i64 den] w (FluxRes (scaleVal c f zs num den) w) := by
  have c1 := fun w' (hb : Below w.heap.size w w') (hf : FluxAt w' w.heap.size c f a zs.length cap) => l02Ok_any w.heap.size c f a zs cap w' hl hf (h.below hb (Nat.le_refl _))
  rw [hv] at c1
  obtain ⟨_, ⟨hz1, hz4⟩, hz, hsum, hf0, hf1⟩ := fluxOk_iff.1 hv
  have hn1' := inB_iff.1 hn1
  have hn2' := inB_iff.1 hn2
  have hsum0 : 0 ≤ zs.sum := by have := (sum_bd hz zs.length).1; rwa [List.take_length] at this
  have c2 := fun w' => l00In_any num 1 1000 w'
  have c2b := fun w' => l00In_any den 1 1000 w'
  rw [hn1] at c2; rw [hn2] at c2b
  have c3 := fun w' (hb : Below w.heap.size w w') (hf : FluxAt w' w.heap.size c f a zs.length cap) => l02Changes_any w.heap.size c f a zs cap w' hz4 hz hf0 (last_bd hv) hf (h.below hb (Nat.le_refl _))
  have c4 := fun w' (hb : Below w.heap.size w w') (hf : FluxAt w' w.heap.size c f a zs.length cap) => l02Revolution_any w.heap.size c f a zs cap w' hl hz hf (h.below hb (Nat.le_refl _))
  have hmild := sclTimes_mild (num := num) (den := den) hz hsum hf0 (last_bd hv) hn1'.1 hn1'.2 hn2'.1
  have htb := fun k => tAt_bd hz hsum hf0 (last_bd hv) k
  have hrb := scl_bd (num := num) (den := den) hsum0 (by omega) hn1'.1 hn1'.2 hn2'.1
  have hrm := scl_mul (num := num) hsum0 (by omega) hn1'.1 hn1'.2
  have htl := timesOf_length f zs
  have hsl := sclTimes_length f num den zs
  obtain ⟨g1, hg1⟩ := getOf (zs := sclTimes f num den zs) (k := 0) (by omega)
  have hg1' : (sclTimes f num den zs)[0]?.getD 0 = g1 := by rw [hg1]; rfl
  have c5 := fun w' g cp (hs : SlA w' (some ⟨g, 0, none⟩) (sclTimes f num den zs)) => l02Times_any (some ⟨g, 0, none⟩) (sclTimes f num den zs) cp (scl num den zs.sum) c g1 w' (by omega) hg1 hmild (by omega) (by omega) hs
  rw [hsl] at c5
  have hgl : (gapsOf (sclTimes f num den zs) (scl num den zs.sum)).length = zs.length := by rw [gapsOf_length, hsl]
  have c6 := fun w' p a' cp (hx : FluxAt w' p c g1 a' (gapsOf (sclTimes f num den zs) (scl num den zs.sum)).length cp) (hs : SlA w' a' (gapsOf (sclTimes f num den zs) (scl num den zs.sum))) => l02Ok_any p c g1 a' (gapsOf (sclTimes f num den zs) (scl num den zs.sum)) cp w' (by omega) hx hs
  have HE := Lib.hid (show scaleVal c f zs num den = if fluxOk c g1 (gapsOf (sclTimes f num den zs) (scl num den zs.sum)) = true then ⟨c, g1, gapsOf (sclTimes f num den zs) (scl num den zs.sum), 0⟩ else .none 2 by
    unfold scaleVal; rw [if_pos hv, if_pos ⟨hn1, hn2⟩, hg1'])
  have hden0 : (den == 0) = false := by rw [beq_eq_false_iff_ne]; omega
  have hden1 : ¬ den = 0 := by omega
  have C1 := Lib.hid c1; have C2 := Lib.hid c2; have C2b := Lib.hid c2b; have C3 := Lib.hid c3; have C4 := Lib.hid c4; have C5 := Lib.hid c5; have C6 := Lib.hid c6
  have HT := Lib.hid (And.intro htb (And.intro htl (And.intro hsl hgl)))
  have HR := Lib.hid hrb
  clear c1 c2 c2b c3 c4 c5 c6 h hv hn1 hn2 hz hmild htb hrb hg1 hg1' hsl hgl htl
  go_enter Try.func6, Try.ntmps6
  go_wp2_with fail
  refine (C1.out _ (by go_grown) ((FluxAt.new w c f a zs.length cap 26 w.heap.size rfl).below (Below.alloc (Below.refl _ _) (Nat.le_refl _) _) (by simp))).mono ?_
  rintro e A ⟨rfl, hb1⟩
  have HA := Lib.hid (specScale_start w c f a zs.length cap rfl hb1)
  have hsA : w.heap.size + 2 ≤ A.heap.size := by have := hb1.size; simp at this; omega
  clear hb1
  go_wp2_with fail
  refine (C2.out _).mono ?_
  rintro e w2 ⟨rfl, rfl⟩
  go_wp2_with fail
  refine (C2b.out _).mono ?_
  rintro e w2 ⟨rfl, rfl⟩
  go_wp2_with fail
  refine (C3.out _ HA.out.2.2 HA.out.2.1).mono ?_
  rintro e w3 ⟨a3, cp3, rfl, hso, hb3⟩
  obtain ⟨g, rest, rfl, hg, hrow⟩ : ∃ g rest, a3 = some ⟨g, 0, none⟩ ∧ A.heap.size ≤ g ∧ RowR w3 g (timesOf f zs) rest := by
    rcases hso with h0 | ⟨g, rest, e, hg, hh⟩
    · have := HT.out.2.1; rw [h0] at this; simp at this; omega
    · exact ⟨g, rest, e, hg, hh⟩
  have hzB := HA.out.1.below hb3 HA.out.1.lt
  have hxB := HA.out.2.1.below hb3 HA.out.2.1.lt
  have hbB : Below w.heap.size w w3 := HA.out.2.2.trans (hb3.mono HA.out.2.2.size)
  have hsB : A.heap.size ≤ w3.heap.size := hb3.size
  clear hb3
  have hlg : g < w3.heap.size := (Array.getElem?_eq_some_iff.1 hrow).1
  have HB := Lib.hid (And.intro hzB (And.intro hxB (And.intro hbB hrow)))
  clear hzB hxB hbB hrow
  go_wp2
  go_loopw [9] (fun i wr => ∃ k : Nat, k ≤ zs.length ∧ i = .int .i64 k ∧ RowR wr g (mapTo (scl num den) (timesOf f zs) k) rest ∧ Touch g w3 wr) (fun i _ => zs.length - (intOf i).toNat)
  case atStart => exact ⟨0, Nat.zero_le _, rfl, by rw [mapTo_zero]; exact HB.out.2.2.2, Touch.refl _ _⟩
  case round =>
    obtain ⟨k, hk, rfl, hrw, htc⟩ := hrel
    by_cases hlt : k < zs.length
    · have hx := timesOf_at f zs k hlt
      have hbd := HT.out.1 k
      have hmul := scl_mul (num := num) hbd.1 hbd.2 hn1'.1 hn1'.2
      have hsb := scl_bd (num := num) (den := den) hbd.1 hbd.2 hn1'.1 hn1'.2 hn2'.1
      have hcell := hrw.cell (mapTo_at (scl num den) _ k _ hx)
      have hset := hrw.set k (scl num den (tAt f zs k)) (by rw [mapTo_length _ _ _ (by rw [timesOf_length]; omega), timesOf_length]; exact hlt)
      rw [mapTo_set _ _ k _ hx] at hset
      have hq : (tAt f zs k * num).tdiv den = scl num den (tAt f zs k) := Int.tdiv_eq_ediv_of_nonneg hmul.1
      generalize scl num den (tAt f zs k) = y at *
      generalize tAt f zs k = t at *
      obtain ⟨hc1, hc2⟩ := hcell
      have HS := Lib.hid (And.intro hset hrw)
      clear hset hrw hx
      have e1 : (k : Int) < (zs.length : Int) := by omega
      have e5 : wrap64 ((wrap64 (t * num)).tdiv den) = y := by
        have q1 : wrap64 (t * num) = t * num := wrap_in (by omega) (by omega)
        rw [q1, hq]
        exact wrap_in (by omega) (by omega)
      go_wp2
      go_roundw
      case rel => exact ⟨k + 1, by omega, by go_num, HS.out.1, htc.setCell _ _⟩
      case measure => simp [intOf]; omega
    · obtain rfl : k = zs.length := by omega
      have hfull : mapTo (scl num den) (timesOf f zs) zs.length = sclTimes f num den zs := by
        have := mapTo_all (scl num den) (timesOf f zs)
        rw [timesOf_length] at this
        exact this
      rw [hfull] at hrw
      have hbt : Below A.heap.size w3 wr := htc.below (by omega)
      have hzC := HB.out.1.below hbt (by omega)
      have hxC := HB.out.2.1.below hbt (by omega)
      have hbC : Below w.heap.size w wr := HB.out.2.2.1.trans (hbt.mono (by omega))
      have hgr : g < wr.heap.size := (Array.getElem?_eq_some_iff.1 hrw).1
      have HSC := Lib.hid htc.size
      have HC := Lib.hid (And.intro hzC (And.intro hxC (And.intro hbC hrw)))
      clear hzC hbC hrw hbt htc hfull
      have hlw : w.heap.size < wr.heap.size := HC.out.2.1.lt
      have hr2 : IntKind.i64.wrap ((IntKind.i64.wrap (zs.sum * num)).tdiv den) = scl num den zs.sum := by
        have q1 : IntKind.i64.wrap (zs.sum * num) = zs.sum * num := wrap_in' (by omega) (by omega)
        have q2 : (zs.sum * num).tdiv den = scl num den zs.sum := Int.tdiv_eq_ediv_of_nonneg hrm.1
        rw [q1, q2]
        exact wrap_in' (by have := HR.out; omega) (by have := HR.out; omega)
      have KS := Lib.hid (fun w' (hb : Below wr.heap.size wr w') => HC.out.2.1.below hb hlw)
      have ZS := Lib.hid (fun w' (hb : Below wr.heap.size wr w') => HC.out.1.below hb HC.out.1.lt)
      have BS := Lib.hid (fun w' (hb : Below wr.heap.size wr w') => HC.out.2.2.1.trans (hb.mono HC.out.2.2.1.size))
      have hneR : w.heap.size ≠ wr.heap.size := Nat.ne_of_lt hlw
      have T5 := Lib.hid (fun w' (hb : Below wr.heap.size wr w') => C5.out w' g cp3 ((HC.out.2.2.2.slO (B := 0) (Nat.zero_le _)).sl.below hb (Nat.le_refl _)))
      have hD : Below wr.heap.size wr wr.drew := (Below.refl _ wr).drew
      have hAD : Below wr.heap.size wr (wr.alloc (.cells #[.int .i64 0, .int .i64 0, .slice none 0 0] 26)).drew := ((Below.refl _ wr).alloc (Nat.le_refl _) _).drew
      have HD := Lib.hid (And.intro hD hAD)
      have ZN := Lib.hid (show ZeroAt (wr.alloc (.cells #[.int .i64 0, .int .i64 0, .slice none 0 0] 26)).drew wr.heap.size from ZeroAt.new wr wr.heap.size rfl)
      have ZN3 := Lib.hid (show ZeroAt (wr.drew.alloc (.cells #[.int .i64 0, .int .i64 0, .slice none 0 0] 26)) wr.heap.size from ZeroAt.new wr.drew wr.heap.size rfl)
      obtain ⟨x0, x1, x2⟩ := hxC
      have hD2 := hD
      clear C1 C2 C2b C3 C5 hD hAD
      have hD3 : Below wr.heap.size wr (wr.drew.alloc (.cells #[.int .i64 0, .int .i64 0, .slice none 0 0] 26)) := hD2.alloc (Nat.le_refl _) _
      go_wp2
      go_region_held3 (fun w' => w'.cell? ⟨w.heap.size, 0, none⟩ = some (.int .i64 c) ∧ w'.cell? ⟨w.heap.size, 1, none⟩ = some (.int .i64 f) ∧ w'.cell? ⟨w.heap.size, 2, none⟩ = some (.slice a zs.length cap))
        (first | exact kA | exact kB | exact fluxAt_set3 kB _ _ _ hneR | exact KS.out _ HD.out.1 | exact KS.out _ HD.out.2 | exact KS.out _ (hbb.alloc hbb.size _) | go_keep)
        (first
          | (go_at_call 19; refine (C4.out _ (by first | exact BS.out _ HD.out.1 | exact BS.out _ HD.out.2 | exact BS.out _ hD3 | fail) (by first | exact KS.out _ HD.out.1 | exact KS.out _ HD.out.2 | exact KS.out _ hD3 | fail)).mono ?_; rintro e wa ⟨rfl, rfl⟩; have kA := (by first | exact KS.out _ HD.out.1 | exact KS.out _ HD.out.2 | fail))
          | (go_at_call 18; refine (T5.out _ (by first | exact HD.out.1 | exact HD.out.2 | exact hD3 | fail)).mono ?_; rintro e wb ⟨a6, cp6, rfl, hso6, hbb0⟩; have hbb : Below wr.heap.size wr wb := (by first | exact below_undrew hbb0 | exact HD.out.2.trans (hbb0.mono HD.out.2.size) | exact hD3.trans (hbb0.mono hD3.size) | fail); (first | (have zB := ZN.out.below hbb0 ZN.out.lt; obtain ⟨q0, q1, q2, q3, q4, q5⟩ := zB.facts) | (have zB := ZN3.out.below hbb0 ZN3.out.lt; obtain ⟨q0, q1, q2, q3, q4, q5⟩ := zB.facts) | skip); have kB := KS.out wb hbb)
          | fail)
      all_goals
        have hL := HT.out.2.2.2
        have hw2 := HC.out.1.lt
        first
          | (have FX := FluxAt.new wb c g1 a6 (gapsOf (sclTimes f num den zs) (scl num den zs.sum)).length cp6 26 wb.heap.size rfl
             have BW := hbb.alloc hbb.size (.cells #[.int .i64 c, .int .i64 g1, .slice a6 (gapsOf (sclTimes f num den zs) (scl num den zs.sum)).length cp6] 26)
             have RX : SlO (wb.alloc (.cells #[.int .i64 c, .int .i64 g1, .slice a6 (gapsOf (sclTimes f num den zs) (scl num den zs.sum)).length cp6] 26)) w.heap.size a6 (gapsOf (sclTimes f num den zs) (scl num den zs.sum)) := (hso6.mono (show w.heap.size ≤ wr.heap.size by omega)).below (Below.alloc (Below.refl _ wb) (Nat.le_refl _) _) (Nat.le_refl _)
             have RX2 : SlO (wb.alloc (.cells #[.int .i64 c, .int .i64 g1, .slice a6 (gapsOf (sclTimes f num den zs) (scl num den zs.sum)).length cp6] 26)) (w.heap.size + 2) a6 (gapsOf (sclTimes f num den zs) (scl num den zs.sum)) := (hso6.mono (show w.heap.size + 2 ≤ wr.heap.size by omega)).below (Below.alloc (Below.refl _ wb) (Nat.le_refl _) _) (Nat.le_refl _)
             obtain ⟨WF, hWF⟩ : ∃ WF, wb.alloc (.cells #[.int .i64 c, .int .i64 g1, .slice a6 (gapsOf (sclTimes f num den zs) (scl num den zs.sum)).length cp6] 26) = WF := ⟨_, rfl⟩
             rw [hWF] at FX BW RX RX2 ⊢)
          | (have FX := zB.put c g1 a6 (gapsOf (sclTimes f num den zs) (scl num den zs.sum)).length cp6
             have BW := below_set3 hbb (Nat.le_refl _) (.int .i64 c) (.int .i64 g1) (.slice a6 (gapsOf (sclTimes f num den zs) (scl num den zs.sum)).length cp6)
             have RX2 := (hso6.set3 (p := wr.heap.size) (.int .i64 c) (.int .i64 g1) (.slice a6 (gapsOf (sclTimes f num den zs) (scl num den zs.sum)).length cp6) (by simp)).mono (show w.heap.size + 2 ≤ _ by simp; omega)
             obtain ⟨WF, hWF⟩ : ∃ WF, ((wb.setCell ⟨wr.heap.size, 0, none⟩ (.int .i64 c)).setCell ⟨wr.heap.size, 1, none⟩ (.int .i64 g1)).setCell ⟨wr.heap.size, 2, none⟩ (.slice a6 (gapsOf (sclTimes f num den zs) (scl num den zs.sum)).length cp6) = WF := ⟨_, rfl⟩
             rw [hWF] at FX BW RX2 ⊢)
        have ZX := HC.out.1.below BW HC.out.1.lt
        have BX := HC.out.2.2.1.trans (BW.mono HC.out.2.2.1.size)
        have hsl2 := FX.lt
        have CX := C6.out WF _ a6 cp6 FX RX2.sl
        have HF := Lib.hid (And.intro FX (And.intro RX2 (And.intro ZX BX)))
        obtain ⟨x0, x1, x2⟩ := FX
        clear KS ZS BS hneR ZN ZN3 T5 HSC C4 HC HB HA HT HD hD3 hD2 hbb hbb0 kA kB hso6 hWF BW C6 RX2 ZX BX
        by_cases hok : fluxOk c g1 (gapsOf (sclTimes f num den zs) (scl num den zs.sum)) = true
        · rw [hok] at CX
          have CX2 := Lib.hid CX
          have HE2 := Lib.hid (HE.out.trans (if_pos hok))
          clear CX HE hok
          go_wp2_with fail
          refine CX2.out.mono ?_
          rintro e w5 ⟨rfl, hb5⟩
          have hx5 := HF.out.1.below hb5 hsl2
          obtain ⟨z0, z1, z2, y0, y1, y2⟩ := (HF.out.2.2.1.below hb5 HF.out.2.2.1.lt).facts
          have hb6 := HF.out.2.2.2.trans (hb5.mono HF.out.2.2.2.size)
          have HR5 := Lib.hid (HF.out.2.1.below hb5 (Nat.le_refl _))
          clear x0 x1 x2 hb5
          obtain ⟨x0, x1, x2⟩ := hx5
          go_wp2
          rw [HE2.out]
          refine bodyPost_ret (v := .tuple #[.agg #[.int .i64 c, .int .i64 g1, .slice a6 zs.length cp6], .int .i64 0]) (by simp [results, Try.results6, go_sem, z0, z1, z2]) rfl ⟨a6, cp6, by rw [hL], (HR5.out.set3 _ _ _ (by omega)).mono (by omega), below_set3 hb6 (by omega) _ _ _⟩
        · have hok' : fluxOk c g1 (gapsOf (sclTimes f num den zs) (scl num den zs.sum)) = false := by simpa using hok
          rw [hok'] at CX
          have CX2 := Lib.hid CX
          have HE2 := Lib.hid (HE.out.trans (if_neg hok))
          clear CX HE hok hok'
          go_wp2_with fail
          refine CX2.out.mono ?_
          rintro e w5 ⟨rfl, hb5⟩
          obtain ⟨z0, z1, z2, y0, y1, y2⟩ := (HF.out.2.2.1.below hb5 HF.out.2.2.1.lt).facts
          have hb6 := HF.out.2.2.2.trans (hb5.mono HF.out.2.2.2.size)
          clear x0 x1 x2 hb5
          go_wp2
          rw [HE2.out]
          refine bodyPost_ret (v := .tuple #[.agg #[.int .i64 0, .int .i64 0, .slice none 0 0], .int .i64 2]) (by simp [results, Try.results6, go_sem, z0, z1, z2]) rfl ⟨none, 0, rfl, .inl rfl, below_set3 hb6 (by omega) _ _ _⟩
theorem specScaleFlux_any (c f : Int) (a : Option Addr) (cap : Nat) (zs : List Int) (num den : Int) (hl : zs.length ≤ 1048576) (w : World) (h : SlA w a zs) :
    Calls Try.prog 6 #[.agg #[.int .i64 c, .int .i64 f, .slice a zs.length cap], .int .i64 num, .int .i64 den] w (FluxRes (scaleVal c f zs num den) w) := by
  by_cases hv : fluxOk c f zs = true
  · by_cases hn : inB 1 1000 num = true ∧ inB 1 1000 den = true
    · exact specScaleFlux_yes c f a cap zs num den hl hv hn.1 hn.2 w h
    · have e : scaleVal c f zs num den = .none 2 := by unfold scaleVal; rw [if_pos hv, if_neg hn]
      rw [e]; exact specScaleFlux_no2 c f a cap zs num den hl hv hn w h
  · have e : scaleVal c f zs num den = .none 1 := by unfold scaleVal; rw [if_neg hv]
    rw [e]; exact specScaleFlux_no1 c f a cap zs num den hl (by simpa using hv) w h
end Go.Proofs.Yteldnfamfjldpac
