/- impl.ScaleFlux -/
import Derived.Test.YteldnfamfjldpacScaleVal
namespace Go.Proofs.Yteldnfamfjldpac
open Go.RowKit
set_option linter.unusedVariables false
set_option maxHeartbeats 2000000 in
theorem scaleFlux_no1 (c f : Int) (a : Option Addr) (cap : Nat) (zs : List Int) (num den : Int) (hl : zs.length ≤ 1048576) (hv : fluxOk c f zs = false) (w : World) (h : SlA w a zs) :
    Calls Try.prog 8 #[.agg #[.int .i64 c, .int .i64 f, .slice a zs.length cap], .int .i64 num, .int .i64 den] w (FluxRes (.none 1) w) := by
  have c1 := fun w' (hb : Below w.heap.size w w') => (validFlux_any c f a zs cap w' hl (h.below hb (Nat.le_refl _)))
  rw [hv] at c1
  have C1 := Lib.hid c1; clear c1 h hv
  go_enter Try.func8, Try.ntmps8
  go_wp2_with fail
  refine (C1.out _ (by go_grown)).mono ?_
  rintro e w1 ⟨rfl, hb1⟩
  have hz := (ZeroAt.new (w.alloc (.cells #[.int .i64 c, .int .i64 f, .slice a zs.length cap] 26)) (w.heap.size + 1) (by simp)).below hb1 (by simp)
  obtain ⟨z0, z1, z2, y0, y1, y2⟩ := hz.facts
  have hb2 : Below w.heap.size w w1 := Below.trans (by go_grown) (hb1.mono (by simp; omega))
  clear hb1
  go_wp2
  refine bodyPost_ret (v := .tuple #[.agg #[.int .i64 0, .int .i64 0, .slice none 0 0], .int .i64 1]) (by simp [results, Try.results8, go_sem, z0, z1, z2]) rfl ⟨none, 0, rfl, .inl rfl, below_set3 hb2 (by omega) _ _ _⟩
set_option maxHeartbeats 2000000 in
theorem scaleFlux_no2 (c f : Int) (a : Option Addr) (cap : Nat) (zs : List Int) (num den : Int) (hl : zs.length ≤ 1048576) (hv : fluxOk c f zs = true) (hn : ¬ (inB 1 1000 num = true ∧ inB 1 1000 den = true)) (w : World) (h : SlA w a zs) :
    Calls Try.prog 8 #[.agg #[.int .i64 c, .int .i64 f, .slice a zs.length cap], .int .i64 num, .int .i64 den] w (FluxRes (.none 2) w) := by
  have c1 := fun w' (hb : Below w.heap.size w w') => (validFlux_any c f a zs cap w' hl (h.below hb (Nat.le_refl _)))
  rw [hv] at c1
  have hall : [num, den].all (inB 1 1000) = false := by
    rw [Bool.eq_false_iff]
    intro e
    simp at e
    exact hn e
  have c2 := fun w' b (h0 : Ints w' b 0 [num, den]) => within_list 1 1000 [num, den] b 0 2 w' (by simp [maxLen]) h0
  rw [hall] at c2
  have C1 := Lib.hid c1; have C2 := Lib.hid c2; clear c1 c2 h hv hn hall
  go_enter Try.func8, Try.ntmps8
  go_wp2_with fail
  refine (C1.out _ (by go_grown)).mono ?_
  rintro e w1 ⟨rfl, hb1⟩
  have hz := (ZeroAt.new (w.alloc (.cells #[.int .i64 c, .int .i64 f, .slice a zs.length cap] 26)) (w.heap.size + 1) (by simp)).below hb1 (by simp)
  have hb2 : Below w.heap.size w w1 := Below.trans (by go_grown) (hb1.mono (by simp; omega))
  clear hb1
  go_wp2_with fail
  refine (C2.out _ _ (two_ints w1 num den)).mono ?_
  rintro e w2 ⟨rfl, rfl⟩
  obtain ⟨z0, z1, z2, y0, y1, y2⟩ := (hz.below (Below.alloc (Below.refl _ w1) (Nat.le_refl _) (.cells #[.int .i64 num, .int .i64 den] 2)) hz.lt).facts
  have hb3 : Below w.heap.size w (w1.alloc (.cells #[.int .i64 num, .int .i64 den] 2)) := hb2.alloc hb2.size _
  obtain ⟨W, hW⟩ : ∃ W, w1.alloc (.cells #[.int .i64 num, .int .i64 den] 2) = W := ⟨_, rfl⟩
  rw [hW] at z0 z1 z2 y0 y1 y2 hb3 ⊢
  clear hW hz hb2
  go_wp2
  refine bodyPost_ret (v := .tuple #[.agg #[.int .i64 0, .int .i64 0, .slice none 0 0], .int .i64 2]) (by simp [results, Try.results8, go_sem, z0, z1, z2]) rfl ⟨none, 0, rfl, .inl rfl, below_set3 hb3 (by omega) _ _ _⟩
set_option maxHeartbeats 4000000 in
theorem scaleFlux_yes (c f : Int) (a : Option Addr) (cap : Nat) (zs : List Int) (num den : Int) (hl : zs.length ≤ 1048576) (hv : fluxOk c f zs = true) (hn1 : inB 1 1000 num = true) (hn2 : inB 1 1000 den = true) (w : World) (h : SlA w a zs) :
    Calls Try.prog 8 #[.agg #[.int .i64 c, .int .i64 f, .slice a zs.length cap], .int .i64 num, .int .i64 den] w (FluxRes (scaleVal c f zs num den) w) := by
  have c1 := fun w' (hb : Below w.heap.size w w') => (validFlux_any c f a zs cap w' hl (h.below hb (Nat.le_refl _)))
  rw [hv] at c1
  obtain ⟨_, ⟨hz1, hz4⟩, hz, hsum, hf0, hf1⟩ := fluxOk_iff.1 hv
  have hn1' := inB_iff.1 hn1
  have hn2' := inB_iff.1 hn2
  have hsum0 : 0 ≤ zs.sum := by have := (sum_bd hz zs.length).1; rwa [List.take_length] at this
  have hall : [num, den].all (inB 1 1000) = true := by simp [hn1, hn2]
  have c2 := fun w' b (h0 : Ints w' b 0 [num, den]) => within_list 1 1000 [num, den] b 0 2 w' (by simp [maxLen]) h0
  rw [hall] at c2
  have c3 := fun w' (hb : Below w.heap.size w w') => changesOf_yes c f a cap zs hl hv w' (h.below hb (Nat.le_refl _))
  have c4 := fun w' (hb : Below w.heap.size w w') => revolutionOf_any c f a zs cap w' hl (h.below hb (Nat.le_refl _))
  have hrev : revOf c f zs = zs.sum := by unfold revOf; rw [if_pos hv]
  rw [hrev] at c4
  have hmild := sclTimes_mild (num := num) (den := den) hz hsum hf0 (last_bd hv) hn1'.1 hn1'.2 hn2'.1
  have htb := fun k => tAt_bd hz hsum hf0 (last_bd hv) k
  have hrb := scl_bd (num := num) (den := den) hsum0 (by omega) hn1'.1 hn1'.2 hn2'.1
  have hrm := scl_mul (num := num) hsum0 (by omega) hn1'.1 hn1'.2
  have htl := timesOf_length f zs
  have hsl := sclTimes_length f num den zs
  obtain ⟨g1, hg1⟩ := getOf (zs := sclTimes f num den zs) (k := 0) (by omega)
  have hg1' : (sclTimes f num den zs)[0]?.getD 0 = g1 := by rw [hg1]; rfl
  have c5 := fun w' g (hs : SlA w' (some ⟨g, 0, none⟩) (sclTimes f num den zs)) => timesFlux_any (some ⟨g, 0, none⟩) (sclTimes f num den zs) zs.length (scl num den zs.sum) c g1 w' (by omega) hg1 hmild (by omega) (by omega) hs
  rw [hsl] at c5
  have hgl : (gapsOf (sclTimes f num den zs) (scl num den zs.sum)).length = zs.length := by rw [gapsOf_length, hsl]
  have c6 := fun w' g (hs : SlA w' (some ⟨g, 0, none⟩) (gapsOf (sclTimes f num den zs) (scl num den zs.sum))) => validFlux_any c g1 (some ⟨g, 0, none⟩) (gapsOf (sclTimes f num den zs) (scl num den zs.sum)) zs.length w' (by omega) hs
  rw [hgl] at c6
  have HE := Lib.hid (show scaleVal c f zs num den = if fluxOk c g1 (gapsOf (sclTimes f num den zs) (scl num den zs.sum)) = true then ⟨c, g1, gapsOf (sclTimes f num den zs) (scl num den zs.sum), 0⟩ else .none 2 by
    unfold scaleVal; rw [if_pos hv, if_pos ⟨hn1, hn2⟩, hg1'])
  have hbig := zs.sum
  have hden0 : (den == 0) = false := by rw [beq_eq_false_iff_ne]; omega
  have hden1 : ¬ den = 0 := by omega
  have C1 := Lib.hid c1; have C2 := Lib.hid c2; have C3 := Lib.hid c3; have C4 := Lib.hid c4; have C5 := Lib.hid c5; have C6 := Lib.hid c6
  have HT := Lib.hid (And.intro htb (And.intro htl (And.intro hsl hgl)))
  have HR := Lib.hid hrb
  clear c1 c2 c3 c4 c5 c6 h hv hn1 hn2 hall hz hmild htb hrb hg1 hg1' hrev hbig hsl hgl htl
  go_enter Try.func8, Try.ntmps8
  go_wp2_with fail
  refine (C1.out _ (by go_grown)).mono ?_
  rintro e w1 ⟨rfl, hb1⟩
  have hz0 := (ZeroAt.new (w.alloc (.cells #[.int .i64 c, .int .i64 f, .slice a zs.length cap] 26)) (w.heap.size + 1) (by simp)).below hb1 (by simp)
  have hx0 := ((FluxAt.new w c f a zs.length cap 26 w.heap.size rfl).below (Below.alloc (Below.refl _ _) (Nat.le_refl _) (.cells #[.int .i64 0, .int .i64 0, .slice none 0 0] 26)) (by simp)).below hb1 (by simp; omega)
  have hb2 : Below w.heap.size w w1 := Below.trans (by go_grown) (hb1.mono (by simp; omega))
  have hs1 : w.heap.size + 2 ≤ w1.heap.size := by have := hb1.size; simp at this; omega
  clear hb1
  go_wp2_with fail
  refine (C2.out _ _ (two_ints w1 num den)).mono ?_
  rintro e w2 ⟨rfl, rfl⟩
  have hzA := hz0.below (Below.alloc (Below.refl _ w1) (Nat.le_refl _) (.cells #[.int .i64 num, .int .i64 den] 2)) hz0.lt
  have hxA := hx0.below (Below.alloc (Below.refl _ w1) (Nat.le_refl _) (.cells #[.int .i64 num, .int .i64 den] 2)) hx0.lt
  have hbA : Below w.heap.size w (w1.alloc (.cells #[.int .i64 num, .int .i64 den] 2)) := hb2.alloc hb2.size _
  have hsA : w.heap.size + 2 ≤ (w1.alloc (.cells #[.int .i64 num, .int .i64 den] 2)).heap.size := by simp; omega
  obtain ⟨A, hA⟩ : ∃ A, w1.alloc (.cells #[.int .i64 num, .int .i64 den] 2) = A := ⟨_, rfl⟩
  rw [hA] at hzA hxA hbA hsA ⊢
  clear hA hz0 hx0 hb2 hs1
  have HA := Lib.hid (And.intro hzA (And.intro hxA hbA))
  obtain ⟨x0, x1, x2⟩ := hxA
  clear hzA hbA
  go_wp2_with fail
  refine (C3.out _ HA.out.2.2).mono ?_
  rintro e w3 ⟨g, rfl, hrow, hg, hb3⟩
  have hzB := HA.out.1.below hb3 (by omega)
  have hxB := HA.out.2.1.below hb3 (by omega)
  have hbB : Below w.heap.size w w3 := HA.out.2.2.trans (hb3.mono (by omega))
  have hsB : A.heap.size ≤ w3.heap.size := hb3.size
  clear x0 x1 x2 hb3
  have HB := Lib.hid (And.intro hzB (And.intro hxB (And.intro hbB hrow)))
  clear hzB hxB hbB hrow
  go_wp2
  go_loopw [9, 25] (fun _ i wr => ∃ k : Nat, k ≤ zs.length ∧ i = .int .i64 k ∧ RowR wr g (mapTo (scl num den) (timesOf f zs) k) #[] ∧ Touch g w3 wr) (fun _ i _ => zs.length - (intOf i).toNat)
  case atStart => exact ⟨0, Nat.zero_le _, rfl, by rw [mapTo_zero]; exact HB.out.2.2.2.rowR, Touch.refl _ _⟩
  case round =>
    obtain ⟨k, hk, rfl, hrw, htc⟩ := hrel
    by_cases hlt : k < zs.length
    · have hx := timesOf_at f zs k hlt
      have hbd := HT.out.1 k
      have hmul := scl_mul (num := num) hbd.1 hbd.2 hn1'.1 hn1'.2
      have hsb := scl_bd (num := num) (den := den) hbd.1 hbd.2 hn1'.1 hn1'.2 hn2'.1
      have hcell := hrw.cell (mapTo_at (scl num den) _ k _ hx)
      have hset := hrw.set k (scl num den (tAt f zs k)) (by rw [mapTo_length _ _ _ (by rw [timesOf_length]; omega), timesOf_length]; exact hlt)
      rw [mapTo_set _ _ k _ hx] at hset
      have hq : (tAt f zs k * num).tdiv den = scl num den (tAt f zs k) := Int.tdiv_eq_ediv_of_nonneg hmul.1
      generalize scl num den (tAt f zs k) = y at *
      generalize tAt f zs k = t at *
      obtain ⟨hc1, hc2⟩ := hcell
      have HS := Lib.hid (And.intro hset hrw)
      clear hset hrw hx
      have e1 : (k : Int) < (zs.length : Int) := by omega
      have e5 : wrap64 ((wrap64 (t * num)).tdiv den) = y := by
        have q1 : wrap64 (t * num) = t * num := wrap_in (by omega) (by omega)
        rw [q1, hq]
        exact wrap_in (by omega) (by omega)
      go_wp2
      go_roundw
      case rel => exact ⟨k + 1, by omega, by go_num, HS.out.1, htc.setCell _ _⟩
      case measure => simp [intOf]; omega
    · obtain rfl : k = zs.length := by omega
      have hfull : mapTo (scl num den) (timesOf f zs) zs.length = sclTimes f num den zs := by
        have := mapTo_all (scl num den) (timesOf f zs)
        rw [timesOf_length] at this
        exact this
      rw [hfull] at hrw
      have hgA : w.heap.size + 2 ≤ g := by omega
      have hlg : g < w3.heap.size := HB.out.2.2.2.lt
      have hbt : Below A.heap.size w3 wr := htc.below (by omega)
      have hzC := HB.out.1.below hbt (by omega)
      have hxC := HB.out.2.1.below hbt (by omega)
      have hbC : Below w.heap.size w wr := HB.out.2.2.1.trans (hbt.mono (by omega))
      have hsC : wr.heap.size = w3.heap.size := htc.size
      have HC := Lib.hid (And.intro hzC (And.intro hxC (And.intro hbC hrw)))
      clear hzC hbC hrw hbt htc
      obtain ⟨x0, x1, x2⟩ := hxC
      have hlw : w.heap.size < wr.heap.size := by omega
      -- the revolution, and the flux of the scaled times
      have hr2 : IntKind.i64.wrap ((IntKind.i64.wrap (zs.sum * num)).tdiv den) = scl num den zs.sum := by
        have q1 : IntKind.i64.wrap (zs.sum * num) = zs.sum * num := wrap_in' (by omega) (by omega)
        have q2 : (zs.sum * num).tdiv den = scl num den zs.sum := Int.tdiv_eq_ediv_of_nonneg hrm.1
        rw [q1, q2]
        exact wrap_in' (by have := HR.out; omega) (by have := HR.out; omega)
      have hks : wr.cell? ⟨w.heap.size, 0, none⟩ = some (.int .i64 c) ∧ wr.cell? ⟨w.heap.size, 1, none⟩ = some (.int .i64 f) ∧ wr.cell? ⟨w.heap.size, 2, none⟩ = some (.slice a zs.length cap) := ⟨x0, x1, x2⟩
      have KS := Lib.hid (fun w' (hb : Below wr.heap.size wr w') => (show w'.cell? ⟨w.heap.size, 0, none⟩ = some (.int .i64 c) ∧ w'.cell? ⟨w.heap.size, 1, none⟩ = some (.int .i64 f) ∧ w'.cell? ⟨w.heap.size, 2, none⟩ = some (.slice a zs.length cap) from FluxAt.below ⟨x0, x1, x2⟩ hb hlw))
      have DB := Lib.hid (show Below w.heap.size w wr.drew from HC.out.2.2.1.drew)
      have hAl : Below wr.heap.size wr (wr.alloc (.cells #[.int .i64 0, .int .i64 0, .slice none 0 0] 26)).drew := ((Below.refl _ wr).alloc (Nat.le_refl _) _).drew
      have AL := Lib.hid hAl
      have hneR : w.heap.size ≠ wr.heap.size := Nat.ne_of_lt hlw
      have ALW := Lib.hid (HC.out.2.2.1.trans (hAl.mono (show w.heap.size ≤ wr.heap.size by omega)))
      have ZN := Lib.hid (show ZeroAt (wr.alloc (.cells #[.int .i64 0, .int .i64 0, .slice none 0 0] 26)).drew wr.heap.size from ZeroAt.new wr wr.heap.size rfl)
      have T5 := Lib.hid (fun w' (hb : Below wr.heap.size wr w') => C5.out w' g ((HC.out.2.2.2.slO (B := 0) (Nat.zero_le _)).sl.below hb (Nat.le_refl _)))
      clear hAl
      have HSC := Lib.hid hsC
      clear C1 C2 C3 C5 hsC
      go_wp2
      go_region_held3 (fun w' => w'.cell? ⟨w.heap.size, 0, none⟩ = some (.int .i64 c) ∧ w'.cell? ⟨w.heap.size, 1, none⟩ = some (.int .i64 f) ∧ w'.cell? ⟨w.heap.size, 2, none⟩ = some (.slice a zs.length cap))
        (first | exact kA | exact kB | exact fluxAt_set3 kB _ _ _ hneR | exact fluxAt_set3 kB _ _ _ (Nat.ne_of_lt (Nat.lt_of_lt_of_le hlw hba.size)) | exact KS.out _ (hba.alloc hba.size _) | exact KS.out _ (hbb.alloc hbb.size _) | go_keep)
        (first
          | (go_at_call 25; refine (C4.out _ (by first | exact DB.out | exact ALW.out | fail)).mono ?_; rintro e wa ⟨rfl, hba0⟩; have hba : Below wr.heap.size wr wa := (by first | exact below_undrew hba0 | exact AL.out.trans (hba0.mono AL.out.size) | fail); (first | (have zA := ZN.out.below hba0 ZN.out.lt) | skip); have kA := KS.out wa hba)
          | (go_at_call 24; refine (T5.out _ (by first | exact hba | exact hba.alloc hba.size _ | fail)).mono ?_; rintro e wb ⟨g2, rfl, hrow2, hg2, hbb0⟩; have hbb : Below wr.heap.size wr wb := (by first | exact hba.trans (hbb0.mono hba.size) | exact (hba.alloc hba.size _).trans (hbb0.mono (hba.alloc hba.size _).size) | fail); (first | (have zB := zA.below hbb0 zA.lt; obtain ⟨q0, q1, q2, q3, q4, q5⟩ := zB.facts) | (have zA2 := ZeroAt.new wa wa.heap.size rfl; have zB := zA2.below hbb0 zA2.lt; obtain ⟨q0, q1, q2, q3, q4, q5⟩ := zB.facts) | skip); have kB := KS.out wb hbb)
          | fail)
      all_goals
        have hL := HT.out.2.2.2
        first
          | (have FX := FluxAt.new wb c g1 (some ⟨g2, 0, none⟩) (gapsOf (sclTimes f num den zs) (scl num den zs.sum)).length (gapsOf (sclTimes f num den zs) (scl num den zs.sum)).length 26 wb.heap.size rfl
             have BW := hbb.alloc hbb.size (.cells #[.int .i64 c, .int .i64 g1, .slice (some ⟨g2, 0, none⟩) (gapsOf (sclTimes f num den zs) (scl num den zs.sum)).length (gapsOf (sclTimes f num den zs) (scl num den zs.sum)).length] 26)
             have RX : RowAt (wb.alloc (.cells #[.int .i64 c, .int .i64 g1, .slice (some ⟨g2, 0, none⟩) (gapsOf (sclTimes f num den zs) (scl num den zs.sum)).length (gapsOf (sclTimes f num den zs) (scl num den zs.sum)).length] 26)) g2 _ := hrow2.below (Below.alloc (Below.refl _ wb) (Nat.le_refl _) _) hrow2.lt
             have hgw : w.heap.size + 2 ≤ g2 := by have := hba.size; have := HC.out.1.lt; omega
             obtain ⟨WF, hWF⟩ : ∃ WF, wb.alloc (.cells #[.int .i64 c, .int .i64 g1, .slice (some ⟨g2, 0, none⟩) (gapsOf (sclTimes f num den zs) (scl num den zs.sum)).length (gapsOf (sclTimes f num den zs) (scl num den zs.sum)).length] 26) = WF := ⟨_, rfl⟩
             rw [hWF] at FX BW RX ⊢)
          | (have FX : FluxAt (((wb.setCell ⟨wa.heap.size, 0, none⟩ (.int .i64 c)).setCell ⟨wa.heap.size, 1, none⟩ (.int .i64 g1)).setCell ⟨wa.heap.size, 2, none⟩ (.slice (some ⟨g2, 0, none⟩) (gapsOf (sclTimes f num den zs) (scl num den zs.sum)).length (gapsOf (sclTimes f num den zs) (scl num den zs.sum)).length)) wa.heap.size c g1 (some ⟨g2, 0, none⟩) (gapsOf (sclTimes f num den zs) (scl num den zs.sum)).length (gapsOf (sclTimes f num den zs) (scl num den zs.sum)).length := zB.put c g1 _ _ _
             have BW := below_set3 hbb hba.size (.int .i64 c) (.int .i64 g1) (.slice (some ⟨g2, 0, none⟩) (gapsOf (sclTimes f num den zs) (scl num den zs.sum)).length (gapsOf (sclTimes f num den zs) (scl num den zs.sum)).length)
             have hne : g2 ≠ wa.heap.size := by have := hg2; simp at this; omega
             have RX := hrow2.set3 (p := wa.heap.size) (.int .i64 c) (.int .i64 g1) (.slice (some ⟨g2, 0, none⟩) (gapsOf (sclTimes f num den zs) (scl num den zs.sum)).length (gapsOf (sclTimes f num den zs) (scl num den zs.sum)).length) hne
             have hgw : w.heap.size + 2 ≤ g2 := by have := hba.size; have := HC.out.1.lt; have := hg2; simp at this; omega
             obtain ⟨WF, hWF⟩ : ∃ WF, ((wb.setCell ⟨wa.heap.size, 0, none⟩ (.int .i64 c)).setCell ⟨wa.heap.size, 1, none⟩ (.int .i64 g1)).setCell ⟨wa.heap.size, 2, none⟩ (.slice (some ⟨g2, 0, none⟩) (gapsOf (sclTimes f num den zs) (scl num den zs.sum)).length (gapsOf (sclTimes f num den zs) (scl num den zs.sum)).length) = WF := ⟨_, rfl⟩
             rw [hWF] at FX BW RX ⊢)
          | (have FX : FluxAt (((wb.setCell ⟨wr.heap.size, 0, none⟩ (.int .i64 c)).setCell ⟨wr.heap.size, 1, none⟩ (.int .i64 g1)).setCell ⟨wr.heap.size, 2, none⟩ (.slice (some ⟨g2, 0, none⟩) (gapsOf (sclTimes f num den zs) (scl num den zs.sum)).length (gapsOf (sclTimes f num den zs) (scl num den zs.sum)).length)) wr.heap.size c g1 (some ⟨g2, 0, none⟩) (gapsOf (sclTimes f num den zs) (scl num den zs.sum)).length (gapsOf (sclTimes f num den zs) (scl num den zs.sum)).length := zB.put c g1 _ _ _
             have BW := below_set3 hbb (Nat.le_refl _) (.int .i64 c) (.int .i64 g1) (.slice (some ⟨g2, 0, none⟩) (gapsOf (sclTimes f num den zs) (scl num den zs.sum)).length (gapsOf (sclTimes f num den zs) (scl num den zs.sum)).length)
             have hne : g2 ≠ wr.heap.size := by have := zA.lt; omega
             have RX := hrow2.set3 (p := wr.heap.size) (.int .i64 c) (.int .i64 g1) (.slice (some ⟨g2, 0, none⟩) (gapsOf (sclTimes f num den zs) (scl num den zs.sum)).length (gapsOf (sclTimes f num den zs) (scl num den zs.sum)).length) hne
             have hgw : w.heap.size + 2 ≤ g2 := by have := hba.size; have := HC.out.1.lt; omega
             obtain ⟨WF, hWF⟩ : ∃ WF, ((wb.setCell ⟨wr.heap.size, 0, none⟩ (.int .i64 c)).setCell ⟨wr.heap.size, 1, none⟩ (.int .i64 g1)).setCell ⟨wr.heap.size, 2, none⟩ (.slice (some ⟨g2, 0, none⟩) (gapsOf (sclTimes f num den zs) (scl num den zs.sum)).length (gapsOf (sclTimes f num den zs) (scl num den zs.sum)).length) = WF := ⟨_, rfl⟩
             rw [hWF] at FX BW RX ⊢)
        have ZX := HC.out.1.below BW HC.out.1.lt
        have BX := HC.out.2.2.1.trans (BW.mono HC.out.2.2.1.size)
        have CX := Lib.hid (C6.out WF g2 (RowR.slO (B := 0) RX.rowR (Nat.zero_le _)).sl)
        rw [hL] at FX ⊢
        clear hks KS DB AL hneR ALW ZN T5 HSC C4 HC HB HA HT hba hba0 hbb hbb0 kA kB hrow2 hWF BW x0 x1 x2 C6
        have hsl2 := FX.lt
        have HF := Lib.hid (And.intro FX (And.intro RX (And.intro ZX BX)))
        obtain ⟨x0, x1, x2⟩ := FX
        clear RX ZX BX
        have CX1 := CX.out
        by_cases hok : fluxOk c g1 (gapsOf (sclTimes f num den zs) (scl num den zs.sum)) = true
        · rw [hok] at CX1
          have CX2 := Lib.hid CX1
          have HE2 := Lib.hid (HE.out.trans (if_pos hok))
          clear CX CX1 HE hok
          go_wp2_with fail
          refine CX2.out.mono ?_
          rintro e w5 ⟨rfl, hb5⟩
          have hx5 := HF.out.1.below hb5 hsl2
          obtain ⟨z0, z1, z2, y0, y1, y2⟩ := (HF.out.2.2.1.below hb5 HF.out.2.2.1.lt).facts
          have hb6 := HF.out.2.2.2.trans (hb5.mono HF.out.2.2.2.size)
          have HR5 := Lib.hid (HF.out.2.1.below hb5 HF.out.2.1.lt)
          clear x0 x1 x2 hb5
          obtain ⟨x0, x1, x2⟩ := hx5
          go_wp2
          rw [HE2.out]
          refine bodyPost_ret (v := .tuple #[.agg #[.int .i64 c, .int .i64 g1, .slice (some ⟨g2, 0, none⟩) zs.length zs.length], .int .i64 0]) (by simp [results, Try.results8, go_sem, z0, z1, z2]) rfl ⟨some ⟨g2, 0, none⟩, zs.length, by simp only [hL], RowR.slO (RowAt.rowR (HR5.out.set3 _ _ _ (by omega))) (by omega), below_set3 hb6 (by omega) _ _ _⟩
        · have hok' : fluxOk c g1 (gapsOf (sclTimes f num den zs) (scl num den zs.sum)) = false := by simpa using hok
          rw [hok'] at CX1
          have CX2 := Lib.hid CX1
          have HE2 := Lib.hid (HE.out.trans (if_neg hok))
          clear CX CX1 HE hok hok'
          go_wp2_with fail
          refine CX2.out.mono ?_
          rintro e w5 ⟨rfl, hb5⟩
          obtain ⟨z0, z1, z2, y0, y1, y2⟩ := (HF.out.2.2.1.below hb5 HF.out.2.2.1.lt).facts
          have hb6 := HF.out.2.2.2.trans (hb5.mono HF.out.2.2.2.size)
          clear x0 x1 x2 hb5
          go_wp2
          rw [HE2.out]
          refine bodyPost_ret (v := .tuple #[.agg #[.int .i64 0, .int .i64 0, .slice none 0 0], .int .i64 2]) (by simp [results, Try.results8, go_sem, z0, z1, z2]) rfl ⟨none, 0, rfl, .inl rfl, below_set3 hb6 (by omega) _ _ _⟩
theorem scaleFlux_any (c f : Int) (a : Option Addr) (cap : Nat) (zs : List Int) (num den : Int) (hl : zs.length ≤ 1048576) (w : World) (h : SlA w a zs) :
    Calls Try.prog 8 #[.agg #[.int .i64 c, .int .i64 f, .slice a zs.length cap], .int .i64 num, .int .i64 den] w (FluxRes (scaleVal c f zs num den) w) := by
  by_cases hv : fluxOk c f zs = true
  · by_cases hn : inB 1 1000 num = true ∧ inB 1 1000 den = true
    · exact scaleFlux_yes c f a cap zs num den hl hv hn.1 hn.2 w h
    · have e : scaleVal c f zs num den = .none 2 := by unfold scaleVal; rw [if_pos hv, if_neg hn]
      rw [e]; exact scaleFlux_no2 c f a cap zs num den hl hv hn w h
  · have e : scaleVal c f zs num den = .none 1 := by unfold scaleVal; rw [if_neg hv]
    rw [e]; exact scaleFlux_no1 c f a cap zs num den hl (by simpa using hv) w h
end Go.Proofs.Yteldnfamfjldpac
