/- impl.validJitter, impl.AddJitter -/
import Derived.Test.YtgmnaikgjfbgkaaAddDrift
namespace Go.Proofs.Ytgmnaikgjfbgkaa
open Go.RowKit
set_option linter.unusedVariables false
def jitOk (js : List Int) : Bool := decide (js.length ≤ 4000) && js.all (inB (-50) 50)
def jitAt (js : List Int) (i : Nat) (x : Int) : Int := x + js.getD (i % js.length) 0
theorem jitAt_nil (i : Nat) (x : Int) : jitAt [] i x = x := by simp [jitAt]
theorem validJitter_any (a : Option Addr) (js : List Int) (d : Nat) (w : World) (hl : js.length ≤ 1048576) (h : SlA w a js) :
    Calls Try.prog 63 #[.slice a js.length d] w fun e w' => e = .returned (.bool (jitOk js)) ∧ Below w.heap.size w w' := by
  have c1 := within_sl (-50) 50 js a d w (by unfold maxLen; omega) h
  by_cases hk : js.length ≤ 4000
  · have e1 : decide ((js.length : Int) ≤ 4000) = true := by simp; omega
    have HE := Lib.hid (show jitOk js = js.all (inB (-50) 50) by unfold jitOk; rw [show decide (js.length ≤ 4000) = true by simpa using hk]; rfl)
    have C1 := Lib.hid c1; clear c1 h
    go_enter Try.func63, Try.ntmps63
    go_wp2_with (go_at_call 84; refine (C1.out).mono ?_; rintro e w' ⟨rfl, rfl⟩)
    go_ret
    exact ⟨ret_bool HE.out.symm, Below.refl _ _⟩
  · have e1 : decide ((js.length : Int) ≤ 4000) = false := by simp; omega
    have HE := Lib.hid (show jitOk js = false by unfold jitOk; rw [show decide (js.length ≤ 4000) = false by simpa using hk]; rfl)
    clear c1 h
    go_enter Try.func63, Try.ntmps63
    go_wp2
    go_ret
    exact ⟨ret_bool HE.out.symm, Below.refl _ _⟩
def jitVal (c f : Int) (zs js : List Int) : FluxVal :=
  if fluxOk c f zs = true ∧ jitOk js = true then mkVal c (idxTo (jitAt js) (timesOf f zs) zs.length) zs.sum 2 else .none 1
theorem jitVal_len (c f : Int) (zs js : List Int) (hl : zs.length ≤ 1048576) : (jitVal c f zs js).gaps.length ≤ 1048576 := by
  unfold jitVal
  split
  · exact mkVal_len _ _ _ _ (by rw [idxTo_length, timesOf_length]; exact hl)
  · simp [FluxVal.none]
set_option maxHeartbeats 2000000 in
theorem addJitter_no (c f : Int) (a : Option Addr) (cap : Nat) (zs : List Int) (s1 : Option Addr) (cap1 : Nat) (js : List Int) (hl : zs.length ≤ 1048576) (hl1 : js.length ≤ 1048576) (hv : fluxOk c f zs = false ∨ jitOk js = false) (w : World) (h : SlA w a zs) (h1 : SlA w s1 js) :
    Calls Try.prog 37 #[.agg #[.int .i64 c, .int .i64 f, .slice a zs.length cap], .slice s1 js.length cap1] w (FluxRes (.none 1) w) := by
  have c1 := fun w' (hb : Below w.heap.size w w') => validFlux_any c f a zs cap w' hl (h.below hb (Nat.le_refl _))
  have c2 := fun w' (hb : Below w.heap.size w w') => validJitter_any s1 js cap1 w' hl1 (h1.below hb (Nat.le_refl _))
  generalize fluxOk c f zs = q1 at c1 hv
  generalize jitOk js = q2 at c2 hv
  have C1 := Lib.hid c1; have C2 := Lib.hid c2; clear c1 c2 h h1
  cases q1
  · clear hv
    go_enter Try.func37, Try.ntmps37
    go_wp2_with fail
    refine (C1.out _ (by go_grown)).mono ?_
    rintro e w1 ⟨rfl, hb1⟩
    obtain ⟨z0, z1, z2, y0, y1, y2⟩ := ((ZeroAt.new (w.alloc (.cells #[.int .i64 c, .int .i64 f, .slice a zs.length cap] 39)) (w.heap.size + 1) (by simp)).below hb1 (by simp)).facts
    have FB := Lib.hid (show Below w.heap.size w w1 from Below.trans (by go_grown) (hb1.mono (by simp; omega)))
    clear hb1
    go_wp2
    refine bodyPost_ret (v := .tuple #[.agg #[.int .i64 0, .int .i64 0, .slice none 0 0], .int .i64 1]) (by simp [results, Try.results37, go_sem, z0, z1, z2]) rfl ⟨none, 0, rfl, .inl rfl, below_set3 FB.out (by omega) _ _ _⟩
  · have e : q2 = false := by rcases hv with h | h; cases h; exact h
    subst e
    clear hv
    go_enter Try.func37, Try.ntmps37
    go_wp2_with fail
    refine (C1.out _ (by go_grown)).mono ?_
    rintro e w1 ⟨rfl, hb1⟩
    have Z1 := Lib.hid ((ZeroAt.new (w.alloc (.cells #[.int .i64 c, .int .i64 f, .slice a zs.length cap] 39)) (w.heap.size + 1) (by simp)).below hb1 (by simp))
    have FB := Lib.hid (show Below w.heap.size w w1 from Below.trans (by go_grown) (hb1.mono (by simp; omega)))
    clear hb1
    go_wp2_with fail
    refine (C2.out _ FB.out).mono ?_
    rintro e w2 ⟨rfl, hb2⟩
    obtain ⟨z0, z1, z2, y0, y1, y2⟩ := (Z1.out.below hb2 Z1.out.lt).facts
    have FB2 := Lib.hid (FB.out.trans (hb2.mono FB.out.size))
    clear hb2
    go_wp2
    refine bodyPost_ret (v := .tuple #[.agg #[.int .i64 0, .int .i64 0, .slice none 0 0], .int .i64 1]) (by simp [results, Try.results37, go_sem, z0, z1, z2]) rfl ⟨none, 0, rfl, .inl rfl, below_set3 FB2.out (by omega) _ _ _⟩
set_option maxHeartbeats 8000000 in
set_option maxRecDepth 1000000 in
theorem addJitter_more (c f : Int) (a : Option Addr) (cap : Nat) (zs : List Int) (s1 : Option Addr) (cap1 : Nat) (js : List Int) (hl : zs.length ≤ 1048576) (hl1 : js.length ≤ 1048576) (hv : fluxOk c f zs = true) (hd : jitOk js = true) (hm : 0 < js.length) (w : World) (h : SlA w a zs) (h1 : SlA w s1 js) :
    Calls Try.prog 37 #[.agg #[.int .i64 c, .int .i64 f, .slice a zs.length cap], .slice s1 js.length cap1] w (FluxRes (mkVal c (idxTo (jitAt js) (timesOf f zs) zs.length) (zs.sum) 2) w) := by
  have c1 := fun w' (hb : Below w.heap.size w w') => validFlux_any c f a zs cap w' hl (h.below hb (Nat.le_refl _))
  rw [hv] at c1
  have c2 := fun w' (hb : Below w.heap.size w w') => validJitter_any s1 js cap1 w' hl1 (h1.below hb (Nat.le_refl _))
  rw [hd] at c2
  have c3 := fun w' (hb : Below w.heap.size w w') => readingOf_any c f a cap zs hl hv w' (h.below hb (Nat.le_refl _))
  obtain ⟨_, ⟨hz1, hz4⟩, hz, hsum, hf0, hf1⟩ := fluxOk_iff.1 hv
  have hsum0 : 0 ≤ zs.sum := by have := (sum_bd hz zs.length).1; rwa [List.take_length] at this
  have htb := fun k => tAt_bd hz hsum hf0 (last_bd hv) k
  have hjb : ∀ k y, js[k]? = some y → -50 ≤ y ∧ y ≤ 50 := fun k y hy => by
    unfold jitOk at hd
    simp only [Bool.and_eq_true] at hd
    exact bd_of_all hd.2 hy
  have HJ := Lib.hid (And.intro hjb h1)
  have hil := idxTo_length (jitAt js) (timesOf f zs)
  have htl := timesOf_length f zs
  have c4 := fun w' g (hg : SlA w' (some ⟨g, 0, none⟩) (idxTo (jitAt js) (timesOf f zs) zs.length)) => readingFlux_any c f a zs.length cap (some ⟨g, 0, none⟩) (idxTo (jitAt js) (timesOf f zs) zs.length) zs.length (zs.sum) 2 w' (by rw [hil, htl]; exact hl) hg
  rw [hil, htl] at c4
  unfold ReadRes at c3
  rw [htl] at c3
  generalize mkVal c (idxTo (jitAt js) (timesOf f zs) zs.length) (zs.sum) 2 = fv at c4 ⊢
  obtain ⟨vc, vf, vg, vk⟩ := fv
  have C1 := Lib.hid c1; have C2 := Lib.hid c2; have C3 := Lib.hid c3; have C4 := Lib.hid c4
  have HT := Lib.hid (And.intro htb (And.intro htl hil))
  clear c1 c2 c3 c4 h h1 hv hd hz htb htl hil hjb
  go_enter Try.func37, Try.ntmps37
  go_wp2_with fail
  refine (C1.out _ (by go_grown)).mono ?_
  rintro e w1 ⟨rfl, hb1⟩
  have Z1 := Lib.hid ((ZeroAt.new (w.alloc (.cells #[.int .i64 c, .int .i64 f, .slice a zs.length cap] 39)) (w.heap.size + 1) (by simp)).below hb1 (by simp))
  have X1 := Lib.hid (((FluxAt.new w c f a zs.length cap 39 w.heap.size rfl).below (Below.alloc (Below.refl _ _) (Nat.le_refl _) (.cells #[.int .i64 0, .int .i64 0, .slice none 0 0] 39)) (by simp)).below hb1 (by simp; omega))
  have FB := Lib.hid (show Below w.heap.size w w1 from Below.trans (by go_grown) (hb1.mono (by simp; omega)))
  clear hb1
  go_wp2_with fail
  refine (C2.out _ FB.out).mono ?_
  rintro e w2 ⟨rfl, hb2⟩
  replace FB := Lib.hid (FB.out.trans (hb2.mono FB.out.size))
  obtain ⟨x0, x1, x2⟩ := X1.out.below hb2 X1.out.lt
  replace Z1 := Lib.hid (Z1.out.below hb2 Z1.out.lt)
  clear hb2 X1
  go_wp2_with fail
  refine (C3.out _ FB.out).mono ?_
  rintro e w3 ⟨g, rfl, hrow, hg, hb3⟩
  have hz3 := hb3.size
  have hgl := hrow.lt
  have hlz := Z1.out.lt
  have HG : w.heap.size + 2 ≤ g := by have := Z1.out.lt; omega
  replace Z1 := Lib.hid (Z1.out.below hb3 Z1.out.lt)
  replace FB := Lib.hid (FB.out.trans (hb3.mono FB.out.size))
  clear hb3 x0 x1 x2
  have HB := Lib.hid (And.intro Z1.out (And.intro FB.out hrow))
  have RD := Lib.hid (ReadAt.new w3 c f a zs.length cap g zs.length zs.sum w3.heap.size rfl)
  obtain ⟨A, hA⟩ : ∃ A, w3.alloc (.cells #[.int .i64 c, .int .i64 f, .slice a zs.length cap, .slice (some ⟨g, 0, none⟩) zs.length zs.length, .int .i64 zs.sum] 100) = A := ⟨_, rfl⟩
  have hAs : A.heap.size = w3.heap.size + 1 := by rw [← hA]; simp
  have hBA : Below w3.heap.size w3 A := by rw [← hA]; exact (Below.refl _ _).alloc (Nat.le_refl _) _
  have HA := Lib.hid hA
  rw [hA] at RD
  have ZA := Lib.hid (HB.out.1.below hBA HB.out.1.lt)
  have FA := Lib.hid (HB.out.2.1.trans (hBA.mono HB.out.2.1.size))
  have RA := Lib.hid (HB.out.2.2.below hBA hgl)
  clear hrow Z1 FB hA hBA
  go_wp2_with fail
  rw [HA.out]
  obtain ⟨r0, r1, r2, r3, r4, r5⟩ := RD.out.facts
  have hml : (0 : Int) < (js.length : Int) := by omega
  go_wp2
  clear r0 r1 r2 r3 r4 r5
  go_loopw [7, 25] (fun _ i wr => ∃ k : Nat, k ≤ zs.length ∧ i = .int .i64 (k : Int) ∧ RowR wr g (idxTo (jitAt js) (timesOf f zs) k) #[] ∧ Touch g A wr) (fun _ i _ => zs.length - (intOf i).toNat)
  case atStart => exact ⟨0, Nat.zero_le _, rfl, by rw [idxTo_zero]; exact RA.out.rowR, Touch.refl _ _⟩
  case round =>
    obtain ⟨k, hk, rfl, hrw, htc⟩ := hrel
    have hsz := htc.size
    by_cases hlt : k < zs.length
    · have hx := timesOf_at f zs k hlt
      have hbd := HT.out.1 k
      have hmm : 0 < js.length := hm
      obtain ⟨q, hq⟩ : ∃ q, k % js.length = q := ⟨_, rfl⟩
      have hql : q < js.length := by rw [← hq]; exact Nat.mod_lt _ hm
      obtain ⟨y, hy⟩ := getOf hql
      have hyb := HJ.out.1 q y hy
      have hyb0 := hyb.1
      have hyb1 := hyb.2
      obtain ⟨b1, off1, rfl, hcy⟩ := (HJ.out.2.below (FA.out.trans (htc.below (show w.heap.size ≤ g by omega))) (Nat.le_refl _)).cell hy
      have hcell := hrw.cell (idxTo_at (jitAt js) _ k _ hx)
      have hset := hrw.set k (jitAt js k (tAt f zs k)) (by rw [HT.out.2.2, HT.out.2.1]; exact hlt)
      rw [idxTo_set _ _ k _ hx] at hset
      unfold jitAt at hset
      rw [hq, getD_of hy] at hset
      have hmi : (k : Int) % (js.length : Int) = (q : Int) := by rw [← hq]; rfl
      have hmt : (k : Int).tmod (js.length : Int) = (q : Int) := by rw [Int.tmod_eq_emod_of_nonneg (by omega)]; exact hmi
      have hql2 : (q : Int) < (js.length : Int) := by omega
      have hq0 : (0 : Int) ≤ (q : Int) := by omega
      have hn0 : ((js.length : Int) == 0) = false := by rw [beq_eq_false_iff_ne]; omega
      have hn0' : ¬ (js.length : Int) = 0 := by omega
      have hn1 : ¬ js = [] := by intro h; rw [h] at hm; simp at hm
      have hn2 : ¬ js.length = 0 := by omega
      have htb0 := hbd.1
      have htb1 := hbd.2
      obtain ⟨r0, r1, r2, r3, r4, r5⟩ := (RD.out.touch htc (by omega)).facts
      generalize tAt f zs k = t at *
      obtain ⟨hc1, hc2⟩ := hcell
      have HS := Lib.hid (And.intro hset htc)
      have HQ := Lib.hid hq
      clear hset hrw hx htc hy hyb hbd hq
      have e1 : (k : Int) < (zs.length : Int) := by omega
      have e0 : (0 : Int) ≤ (k : Int) := by omega
      have q1 : IntKind.i64.wrap (t + y) = t + y := wrap_in' (by omega) (by omega)
      go_wp2
      go_still_tail 14, (by kernel_rfl)
      change wpList _ _ _ _ _ wr.drew
      go_wp2
      go_roundw
      case rel => exact ⟨k + 1, by omega, by go_num, HS.out.1, HS.out.2.drew.setCell _ _⟩
      case measure => simp [intOf]; omega
    · obtain rfl : k = zs.length := by omega
      have hgw : g < w3.heap.size := hgl
      have RDr := RD.out.touch htc (by omega)
      obtain ⟨r0, r1, r2, r3, r4, r5⟩ := RDr.facts
      have FBr := FA.out.trans (htc.below (show w.heap.size ≤ g by omega))
      have ZR := ZA.out.touch htc (show w.heap.size + 1 ≠ g by omega)
      have hlw : w.heap.size + 2 ≤ wr.heap.size := by omega
      have HE := Lib.hid (And.intro FBr (And.intro ZR (And.intro hrw RDr)))
      clear FBr ZR hrw RDr htc ZA FA RA HB
      have C5 := Lib.hid (C4.out wr g (HE.out.2.2.1.slO (B := 0) (Nat.zero_le _)).sl)
      clear C4 C1 C2 C3
      go_wp2_with fail
      refine (C5.out).mono ?_
      rintro e w5 ⟨a5, cap5, rfl, hso, hb5⟩
      have hz5 := hb5.size
      obtain ⟨z0, z1, z2, y0, y1, y2⟩ := (HE.out.2.1.below hb5 (by omega)).facts
      have FBf := Lib.hid (HE.out.1.trans (hb5.mono (by omega)))
      have HSO := Lib.hid (show SlO w5 (w.heap.size + 2) a5 vg from hso.mono (by omega))
      clear hb5 hso r0 r1 r2 r3 r4 r5
      go_wp2
      refine bodyPost_ret (v := .tuple #[.agg #[.int .i64 vc, .int .i64 vf, .slice a5 vg.length cap5], .int .i64 vk]) (by simp [results, Try.results37, go_sem, z0, z1, z2]) rfl ⟨a5, cap5, rfl, ?_, below_set3 FBf.out (by omega) _ _ _⟩
      exact (HSO.out.set3 _ _ _ (by omega)).mono (by omega)
set_option maxHeartbeats 8000000 in
set_option maxRecDepth 1000000 in
theorem addJitter_nil (c f : Int) (a : Option Addr) (cap : Nat) (zs : List Int) (s1 : Option Addr) (cap1 : Nat) (js : List Int) (hl : zs.length ≤ 1048576) (hl1 : js.length ≤ 1048576) (hv : fluxOk c f zs = true) (hd : jitOk js = true) (hm : ¬ 0 < js.length) (w : World) (h : SlA w a zs) (h1 : SlA w s1 js) :
    Calls Try.prog 37 #[.agg #[.int .i64 c, .int .i64 f, .slice a zs.length cap], .slice s1 js.length cap1] w (FluxRes (mkVal c (idxTo (jitAt js) (timesOf f zs) zs.length) (zs.sum) 2) w) := by
  have c1 := fun w' (hb : Below w.heap.size w w') => validFlux_any c f a zs cap w' hl (h.below hb (Nat.le_refl _))
  rw [hv] at c1
  have c2 := fun w' (hb : Below w.heap.size w w') => validJitter_any s1 js cap1 w' hl1 (h1.below hb (Nat.le_refl _))
  rw [hd] at c2
  have c3 := fun w' (hb : Below w.heap.size w w') => readingOf_any c f a cap zs hl hv w' (h.below hb (Nat.le_refl _))
  obtain ⟨_, ⟨hz1, hz4⟩, hz, hsum, hf0, hf1⟩ := fluxOk_iff.1 hv
  have hsum0 : 0 ≤ zs.sum := by have := (sum_bd hz zs.length).1; rwa [List.take_length] at this
  have htb := fun k => tAt_bd hz hsum hf0 (last_bd hv) k
  have hjb : ∀ k y, js[k]? = some y → -50 ≤ y ∧ y ≤ 50 := fun k y hy => by
    unfold jitOk at hd
    simp only [Bool.and_eq_true] at hd
    exact bd_of_all hd.2 hy
  have HJ := Lib.hid (And.intro hjb h1)
  have hil := idxTo_length (jitAt js) (timesOf f zs)
  have htl := timesOf_length f zs
  have c4 := fun w' g (hg : SlA w' (some ⟨g, 0, none⟩) (idxTo (jitAt js) (timesOf f zs) zs.length)) => readingFlux_any c f a zs.length cap (some ⟨g, 0, none⟩) (idxTo (jitAt js) (timesOf f zs) zs.length) zs.length (zs.sum) 2 w' (by rw [hil, htl]; exact hl) hg
  rw [hil, htl] at c4
  unfold ReadRes at c3
  rw [htl] at c3
  generalize mkVal c (idxTo (jitAt js) (timesOf f zs) zs.length) (zs.sum) 2 = fv at c4 ⊢
  obtain ⟨vc, vf, vg, vk⟩ := fv
  have C1 := Lib.hid c1; have C2 := Lib.hid c2; have C3 := Lib.hid c3; have C4 := Lib.hid c4
  have hid0 : idxTo (jitAt js) (timesOf f zs) zs.length = timesOf f zs := by
    have hnil : js = [] := List.eq_nil_of_length_eq_zero (by omega)
    subst hnil
    exact idxTo_same jitAt_nil _ _
  have HT := Lib.hid (And.intro htb (And.intro htl (And.intro hil hid0)))
  clear c1 c2 c3 c4 h h1 hv hd hz htb htl hil hjb hid0
  go_enter Try.func37, Try.ntmps37
  go_wp2_with fail
  refine (C1.out _ (by go_grown)).mono ?_
  rintro e w1 ⟨rfl, hb1⟩
  have Z1 := Lib.hid ((ZeroAt.new (w.alloc (.cells #[.int .i64 c, .int .i64 f, .slice a zs.length cap] 39)) (w.heap.size + 1) (by simp)).below hb1 (by simp))
  have X1 := Lib.hid (((FluxAt.new w c f a zs.length cap 39 w.heap.size rfl).below (Below.alloc (Below.refl _ _) (Nat.le_refl _) (.cells #[.int .i64 0, .int .i64 0, .slice none 0 0] 39)) (by simp)).below hb1 (by simp; omega))
  have FB := Lib.hid (show Below w.heap.size w w1 from Below.trans (by go_grown) (hb1.mono (by simp; omega)))
  clear hb1
  go_wp2_with fail
  refine (C2.out _ FB.out).mono ?_
  rintro e w2 ⟨rfl, hb2⟩
  replace FB := Lib.hid (FB.out.trans (hb2.mono FB.out.size))
  obtain ⟨x0, x1, x2⟩ := X1.out.below hb2 X1.out.lt
  replace Z1 := Lib.hid (Z1.out.below hb2 Z1.out.lt)
  clear hb2 X1
  go_wp2_with fail
  refine (C3.out _ FB.out).mono ?_
  rintro e w3 ⟨g, rfl, hrow, hg, hb3⟩
  have hz3 := hb3.size
  have hgl := hrow.lt
  have hlz := Z1.out.lt
  have HG : w.heap.size + 2 ≤ g := by have := Z1.out.lt; omega
  replace Z1 := Lib.hid (Z1.out.below hb3 Z1.out.lt)
  replace FB := Lib.hid (FB.out.trans (hb3.mono FB.out.size))
  clear hb3 x0 x1 x2
  have HB := Lib.hid (And.intro Z1.out (And.intro FB.out hrow))
  have RD := Lib.hid (ReadAt.new w3 c f a zs.length cap g zs.length zs.sum w3.heap.size rfl)
  obtain ⟨A, hA⟩ : ∃ A, w3.alloc (.cells #[.int .i64 c, .int .i64 f, .slice a zs.length cap, .slice (some ⟨g, 0, none⟩) zs.length zs.length, .int .i64 zs.sum] 100) = A := ⟨_, rfl⟩
  have hAs : A.heap.size = w3.heap.size + 1 := by rw [← hA]; simp
  have hBA : Below w3.heap.size w3 A := by rw [← hA]; exact (Below.refl _ _).alloc (Nat.le_refl _) _
  have HA := Lib.hid hA
  rw [hA] at RD
  have ZA := Lib.hid (HB.out.1.below hBA HB.out.1.lt)
  have FA := Lib.hid (HB.out.2.1.trans (hBA.mono HB.out.2.1.size))
  have RA := Lib.hid (HB.out.2.2.below hBA hgl)
  clear hrow Z1 FB hA hBA
  go_wp2_with fail
  rw [HA.out]
  obtain ⟨r0, r1, r2, r3, r4, r5⟩ := RD.out.facts
  have hml : ¬ (0 : Int) < (js.length : Int) := by omega
  have hlw : w.heap.size + 2 ≤ A.heap.size := by omega
  have C5 := Lib.hid (C4.out A g (show SlA A _ _ from by rw [HT.out.2.2.2]; exact RA.out.sl))
  clear C4 C1 C2 C3
  go_wp2_with fail
  refine (C5.out).mono ?_
  rintro e w5 ⟨a5, cap5, rfl, hso, hb5⟩
  have hz5 := hb5.size
  obtain ⟨z0, z1, z2, y0, y1, y2⟩ := (ZA.out.below hb5 (by omega)).facts
  have FBf := Lib.hid (FA.out.trans (hb5.mono (by omega)))
  have HSO := Lib.hid (show SlO w5 (w.heap.size + 2) a5 vg from hso.mono (by omega))
  clear hb5 hso r0 r1 r2 r3 r4 r5
  go_wp2
  refine bodyPost_ret (v := .tuple #[.agg #[.int .i64 vc, .int .i64 vf, .slice a5 vg.length cap5], .int .i64 vk]) (by simp [results, Try.results37, go_sem, z0, z1, z2]) rfl ⟨a5, cap5, rfl, ?_, below_set3 FBf.out (by omega) _ _ _⟩
  exact (HSO.out.set3 _ _ _ (by omega)).mono (by omega)
theorem addJitter_any (c f : Int) (a : Option Addr) (cap : Nat) (zs : List Int) (s1 : Option Addr) (cap1 : Nat) (js : List Int) (hl : zs.length ≤ 1048576) (hl1 : js.length ≤ 1048576) (w : World) (h : SlA w a zs) (h1 : SlA w s1 js) :
    Calls Try.prog 37 #[.agg #[.int .i64 c, .int .i64 f, .slice a zs.length cap], .slice s1 js.length cap1] w (FluxRes (jitVal c f zs js) w) := by
  unfold jitVal
  by_cases hv : fluxOk c f zs = true
  · by_cases hd : jitOk js = true
    · rw [if_pos ⟨hv, hd⟩]; exact (if hm : 0 < js.length then addJitter_more c f a cap zs s1 cap1 js hl hl1 hv hd hm w h h1 else addJitter_nil c f a cap zs s1 cap1 js hl hl1 hv hd hm w h h1)
    · rw [if_neg (fun h => hd h.2)]; exact addJitter_no c f a cap zs s1 cap1 js hl hl1 (.inr (by simpa using hd)) w h h1
  · rw [if_neg (fun h => hv h.1)]; exact addJitter_no c f a cap zs s1 cap1 js hl hl1 (.inl (by simpa using hv)) w h h1
end Go.Proofs.Ytgmnaikgjfbgkaa
