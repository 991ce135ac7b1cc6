/- spec.l04Jitter, spec.AddJitter -/
import Derived.Test.YtgmnaikgjfbgkaaAddJitter
import Derived.Test.YtgmnaikgjfbgkaaSpecDrift
namespace Go.Proofs.Ytgmnaikgjfbgkaa
open Go.RowKit
set_option linter.unusedVariables false
set_option maxHeartbeats 1000000 in
theorem l04Jitter_any (a : Option Addr) (js : List Int) (d : Nat) (w : World) (hl : js.length ≤ 1048576) (h : SlA w a js) :
    Calls Try.prog 81 #[.slice a js.length d] w fun e w' => e = .returned (.bool (jitOk js)) ∧ w = w' := by
  have H := Lib.hid h; clear h
  go_enter Try.func81, Try.ntmps81
  go_wp2
  go_loop [3] (fun i => ∃ k : Nat, k ≤ js.length ∧ i = .int .i64 (k : Int) ∧ Hid ((js.take k).all (inB (-50) 50) = true)) (fun i => js.length - (intOf i).toNat)
  case atStart => exact ⟨0, Nat.zero_le _, rfl, Lib.hid (by simp)⟩
  case round =>
    obtain ⟨k, hk, rfl, ha⟩ := hrel
    by_cases hlt : k < js.length
    · obtain ⟨x, hx⟩ := getOf hlt
      obtain ⟨b, off, rfl, hcx⟩ := H.out.cell hx
      have HX := Lib.hid hx; clear hx
      have c1 := fun w => l00In_any x (-50) 50 w
      obtain ⟨q, hq⟩ : ∃ q, inB (-50) 50 x = q := ⟨_, rfl⟩
      rw [hq] at c1
      have HQ := Lib.hid hq
      have C1 := Lib.hid c1; clear c1 hq
      cases q
      · have HN := Lib.hid (show jitOk js = false by unfold jitOk; rw [all_false_of HX.out HQ.out]; simp)
        go_wp2_with (go_at_call 99; refine (C1.out _).mono ?_; rintro e w' ⟨rfl, rfl⟩)
        go_ret
        exact ⟨ret_bool HN.out.symm, rfl⟩
      · go_wp2_with (go_at_call 99; refine (C1.out _).mono ?_; rintro e w' ⟨rfl, rfl⟩)
        go_round
        case rel => exact ⟨k + 1, by omega, by go_num, Lib.hid (by rw [all_take_snoc HX.out, ha.out, HQ.out]; rfl)⟩
        case measure => simp [intOf]; omega
    · obtain rfl : k = js.length := by omega
      clear H
      have HE := Lib.hid (show jitOk js = decide ((js.length : Int) ≤ 4000) by
        have := ha.out
        rw [List.take_length] at this
        unfold jitOk; rw [this, Bool.and_true, Bool.eq_iff_iff]; simp; omega)
      go_wp2
      go_ret
      exact ⟨ret_bool HE.out.symm, rfl⟩
set_option maxHeartbeats 2000000 in
theorem specAddJitter_no (c f : Int) (a : Option Addr) (cap : Nat) (zs : List Int) (s1 : Option Addr) (cap1 : Nat) (js : List Int) (hl : zs.length ≤ 1048576) (hl1 : js.length ≤ 1048576) (hv : fluxOk c f zs = false ∨ jitOk js = false) (w : World) (h : SlA w a zs) (h1 : SlA w s1 js) :
    Calls Try.prog 36 #[.agg #[.int .i64 c, .int .i64 f, .slice a zs.length cap], .slice s1 js.length cap1] w (FluxRes (.none 1) w) := by
  have c1 := fun w' (hb : Below w.heap.size w w') (hf : FluxAt w' w.heap.size c f a zs.length cap) => l02Ok_any w.heap.size c f a zs cap w' hl hf (h.below hb (Nat.le_refl _))
  have c2 := fun w' (hb : Below w.heap.size w w') => l04Jitter_any s1 js cap1 w' hl1 (h1.below hb (Nat.le_refl _))
  generalize fluxOk c f zs = q1 at c1 hv
  generalize jitOk js = q2 at c2 hv
  have C1 := Lib.hid c1; have C2 := Lib.hid c2; clear c1 c2 h h1
  cases q1
  · clear hv
    go_enter Try.func36, Try.ntmps36
    go_wp2_with fail
    refine (C1.out _ (by go_grown) (two_at w c f a zs.length cap)).mono ?_
    rintro e w1 ⟨rfl, hb1⟩
    have T1 := Lib.hid (two_start w c f a zs.length cap hb1)
    obtain ⟨z0, z1, z2, y0, y1, y2⟩ := T1.out.2.1.facts
    clear hb1
    go_wp2
    refine bodyPost_ret (v := .tuple #[.agg #[.int .i64 0, .int .i64 0, .slice none 0 0], .int .i64 1]) (by simp [results, Try.results36, go_sem, z0, z1, z2]) rfl ⟨none, 0, rfl, .inl rfl, below_set3 T1.out.2.2.1 (by omega) _ _ _⟩
  · have e : q2 = false := by rcases hv with h | h; cases h; exact h
    subst e
    clear hv
    go_enter Try.func36, Try.ntmps36
    go_wp2_with fail
    refine (C1.out _ (by go_grown) (two_at w c f a zs.length cap)).mono ?_
    rintro e w1 ⟨rfl, hb1⟩
    have T1 := Lib.hid (two_start w c f a zs.length cap hb1)
    obtain ⟨z0, z1, z2, y0, y1, y2⟩ := T1.out.2.1.facts
    clear hb1
    go_wp2_with fail
    refine (C2.out _ T1.out.2.2.1).mono ?_
    rintro e w2 ⟨rfl, rfl⟩
    go_wp2
    refine bodyPost_ret (v := .tuple #[.agg #[.int .i64 0, .int .i64 0, .slice none 0 0], .int .i64 1]) (by simp [results, Try.results36, go_sem, z0, z1, z2]) rfl ⟨none, 0, rfl, .inl rfl, below_set3 T1.out.2.2.1 (by omega) _ _ _⟩
set_option maxHeartbeats 8000000 in
set_option maxRecDepth 1000000 in
theorem specAddJitter_yes (c f : Int) (a : Option Addr) (cap : Nat) (zs : List Int) (s1 : Option Addr) (cap1 : Nat) (js : List Int) (hl : zs.length ≤ 1048576) (hl1 : js.length ≤ 1048576) (hv : fluxOk c f zs = true) (hd : jitOk js = true) (w : World) (h : SlA w a zs) (h1 : SlA w s1 js) :
    Calls Try.prog 36 #[.agg #[.int .i64 c, .int .i64 f, .slice a zs.length cap], .slice s1 js.length cap1] w (FluxRes (mkVal c (idxTo (jitAt js) (timesOf f zs) zs.length) (zs.sum) 2) w) := by
  have c1 := fun w' (hb : Below w.heap.size w w') (hf : FluxAt w' w.heap.size c f a zs.length cap) => l02Ok_any w.heap.size c f a zs cap w' hl hf (h.below hb (Nat.le_refl _))
  rw [hv] at c1
  have c2 := fun w' (hb : Below w.heap.size w w') => l04Jitter_any s1 js cap1 w' hl1 (h1.below hb (Nat.le_refl _))
  rw [hd] at c2
  obtain ⟨_, ⟨hz1, hz4⟩, hz, hsum, hf0, hf1⟩ := fluxOk_iff.1 hv
  have c3 := fun w' (hb : Below w.heap.size w w') (hf : FluxAt w' w.heap.size c f a zs.length cap) => l02Changes_any w.heap.size c f a zs cap w' hz4 hz hf0 (last_bd hv) hf (h.below hb (Nat.le_refl _))
  have c5 := fun w' (hb : Below w.heap.size w w') (hf : FluxAt w' w.heap.size c f a zs.length cap) => l02Revolution_any w.heap.size c f a zs cap w' hl hz hf (h.below hb (Nat.le_refl _))
  have hsum0 : 0 ≤ zs.sum := by have := (sum_bd hz zs.length).1; rwa [List.take_length] at this
  have htb := fun k => tAt_bd hz hsum hf0 (last_bd hv) k
  have hjb : ∀ k y, js[k]? = some y → -50 ≤ y ∧ y ≤ 50 := fun k y hy => by
    unfold jitOk at hd
    simp only [Bool.and_eq_true] at hd
    exact bd_of_all hd.2 hy
  have HJ := Lib.hid (And.intro hjb h1)
  have hid0 : ¬ 0 < js.length → idxTo (jitAt js) (timesOf f zs) 0 = idxTo (jitAt js) (timesOf f zs) zs.length := by
    intro hm
    have hnil : js = [] := List.eq_nil_of_length_eq_zero (by omega)
    subst hnil
    rw [idxTo_same jitAt_nil, idxTo_same jitAt_nil]
  have HI := Lib.hid hid0
  have hil := idxTo_length (jitAt js) (timesOf f zs)
  have htl := timesOf_length f zs
  have c4 := fun w' g cp (hg : SlA w' (some ⟨g, 0, none⟩) (idxTo (jitAt js) (timesOf f zs) zs.length)) => l04Done_any c (some ⟨g, 0, none⟩) (idxTo (jitAt js) (timesOf f zs) zs.length) cp (zs.sum) w' (by rw [hil, htl]; exact hl) (by omega) (by omega) hg
  rw [hil, htl] at c4
  generalize mkVal c (idxTo (jitAt js) (timesOf f zs) zs.length) (zs.sum) 2 = fv at c4 ⊢
  obtain ⟨vc, vf, vg, vk⟩ := fv
  have C1 := Lib.hid c1; have C2 := Lib.hid c2; have C3 := Lib.hid c3; have C4 := Lib.hid c4; have C5 := Lib.hid c5
  have HT := Lib.hid (And.intro htb (And.intro htl hil))
  clear c1 c2 c3 c4 c5 h h1 hv hd hz htb htl hil hjb hid0
  go_enter Try.func36, Try.ntmps36
  go_wp2_with fail
  refine (C1.out _ (by go_grown) (two_at w c f a zs.length cap)).mono ?_
  rintro e w1 ⟨rfl, hb1⟩
  have T1 := Lib.hid (two_start w c f a zs.length cap hb1)
  clear hb1
  go_wp2_with fail
  refine (C2.out _ T1.out.2.2.1).mono ?_
  rintro e w2 ⟨rfl, rfl⟩
  go_wp2_with fail
  refine (C3.out _ T1.out.2.2.1 T1.out.1).mono ?_
  rintro e w3 ⟨a3, cp3, rfl, hso, hb3⟩
  obtain ⟨g, rest, rfl, hg, hrow⟩ := slO_row hso (by rw [HT.out.2.1]; omega)
  have hgl := hrow.lt
  have hs1 := T1.out.2.2.2
  have hz3 := hb3.size
  have T3 := Lib.hid (And.intro (T1.out.1.below hb3 (by omega)) (And.intro (T1.out.2.1.below hb3 (by omega)) (And.intro (T1.out.2.2.1.trans (hb3.mono (by omega))) hrow)))
  clear hb3 hso hrow
  go_wp2
  go_loopw [7] (fun i wr => ∃ k : Nat, k ≤ zs.length ∧ i = .int .i64 (k : Int) ∧ RowR wr g (idxTo (jitAt js) (timesOf f zs) k) rest ∧ Touch g w3 wr) (fun i _ => zs.length - (intOf i).toNat)
  case atStart => exact ⟨0, Nat.zero_le _, rfl, by rw [idxTo_zero]; exact T3.out.2.2.2, Touch.refl _ _⟩
  case round =>
    obtain ⟨k, hk, rfl, hrw, htc⟩ := hrel
    have hsz := htc.size
    by_cases hltm : k < zs.length ∧ 0 < js.length
    · obtain ⟨hlt, hm⟩ := hltm
      have hx := timesOf_at f zs k hlt
      have hbd := HT.out.1 k
      have hmm : 0 < js.length := hm
      obtain ⟨q, hq⟩ : ∃ q, k % js.length = q := ⟨_, rfl⟩
      have hql : q < js.length := by rw [← hq]; exact Nat.mod_lt _ hm
      obtain ⟨y, hy⟩ := getOf hql
      have hyb := HJ.out.1 q y hy
      have hyb0 := hyb.1
      have hyb1 := hyb.2
      obtain ⟨b1, off1, rfl, hcy⟩ := (HJ.out.2.below (T3.out.2.2.1.trans (htc.below (show w.heap.size ≤ g by omega))) (Nat.le_refl _)).cell hy
      have hcell := hrw.cell (idxTo_at (jitAt js) _ k _ hx)
      have hset := hrw.set k (jitAt js k (tAt f zs k)) (by rw [HT.out.2.2, HT.out.2.1]; exact hlt)
      rw [idxTo_set _ _ k _ hx] at hset
      unfold jitAt at hset
      rw [hq, getD_of hy] at hset
      have hmi : (k : Int) % (js.length : Int) = (q : Int) := by rw [← hq]; rfl
      have hmt : (k : Int).tmod (js.length : Int) = (q : Int) := by rw [Int.tmod_eq_emod_of_nonneg (by omega)]; exact hmi
      have hql2 : (q : Int) < (js.length : Int) := by omega
      have hq0 : (0 : Int) ≤ (q : Int) := by omega
      have hn0 : ((js.length : Int) == 0) = false := by rw [beq_eq_false_iff_ne]; omega
      have hn0' : ¬ (js.length : Int) = 0 := by omega
      have hn1 : ¬ js = [] := by intro h; rw [h] at hm; simp at hm
      have hn2 : ¬ js.length = 0 := by omega
      have htb0 := hbd.1
      have htb1 := hbd.2
      generalize tAt f zs k = t at *
      obtain ⟨hc1, hc2⟩ := hcell
      have HS := Lib.hid (And.intro hset htc)
      have HQ := Lib.hid hq
      clear hset hrw hx htc hy hyb hbd hq
      have e1 : (k : Int) < (zs.length : Int) := by omega
      have e0 : (0 : Int) ≤ (k : Int) := by omega
      have hml : (0 : Int) < (js.length : Int) := by omega
      have q1 : IntKind.i64.wrap (t + y) = t + y := wrap_in' (by omega) (by omega)
      go_wp2
      go_still_tail 13, (by kernel_rfl)
      change wpList _ _ _ _ _ wr.drew
      go_wp2
      go_roundw
      case rel => exact ⟨k + 1, by omega, by go_num, HS.out.1, HS.out.2.drew.setCell _ _⟩
      case measure => simp [intOf]; omega
    · have hfull : idxTo (jitAt js) (timesOf f zs) k = idxTo (jitAt js) (timesOf f zs) zs.length := by
        by_cases hm : 0 < js.length
        · obtain rfl : k = zs.length := by
            by_cases hlt : k < zs.length
            · exact absurd ⟨hlt, hm⟩ hltm
            · omega
          rfl
        · have hnil : js = [] := List.eq_nil_of_length_eq_zero (by omega)
          subst hnil
          rw [idxTo_same jitAt_nil, idxTo_same jitAt_nil]
      rw [hfull] at hrw
      have hcase : ¬ k < zs.length ∨ (k < zs.length ∧ ¬ 0 < js.length) := by
        by_cases hlt : k < zs.length
        · exact .inr ⟨hlt, fun hm => hltm ⟨hlt, hm⟩⟩
        · exact .inl hlt
      clear hltm hfull
      have hgp : w.heap.size + 2 ≤ g := by omega
      have hbt := htc.below (show w1.heap.size ≤ g by omega)
      have R3 := Lib.hid (And.intro (T3.out.1.below hbt (by omega)) (And.intro (T3.out.2.1.below hbt (by omega)) (And.intro (T3.out.2.2.1.trans (hbt.mono (by omega))) hrw)))
      clear hbt htc hrw
      have K5 := Lib.hid (C5.out wr.drew R3.out.2.2.1.drew R3.out.1)
      have K4 := Lib.hid (C4.out wr.drew g cp3 (show SlA wr.drew _ _ from (R3.out.2.2.2.slO (B := 0) (Nat.zero_le _)).sl))
      obtain ⟨x0, x1, x2⟩ := R3.out.1
      have HX := Lib.hid (fun w' (hb : Below wr.drew.heap.size wr.drew w') => (R3.out.1.below (below_undrew hb) R3.out.1.lt).1)
      clear x1 x2
      obtain ⟨WO, rfl⟩ : ∃ WO, WO = wr := ⟨_, rfl⟩
      rcases hcase with hk1 | ⟨hk1, hk2⟩
      case' inl => have f1 : ¬ (k : Int) < (zs.length : Int) := by omega
      case' inr =>
        have f1 : (k : Int) < (zs.length : Int) := by omega
        have f2 : ¬ (0 : Int) < (js.length : Int) := by omega
        have f3 : decide ((0 : Int) < (js.length : Int)) = false := by simpa using f2
      all_goals
        go_wp2_with fail
        go_region_held3 (fun w' => w'.cell? ⟨w.heap.size, 0, none⟩ = some (.int .i64 c))
          (first | (with_reducible exact HX.out _ hb5) | go_keep)
          (first
            | (go_at_call 79; refine (K5.out).mono ?_; rintro e w4 ⟨rfl, rfl⟩)
            | (go_at_call 78; refine (K4.out).mono ?_; rintro e w5 ⟨a5, cap5, rfl, hso, hb5⟩; obtain ⟨z0, z1, z2, y0, y1, y2⟩ := (R3.out.2.1.below (below_undrew hb5) R3.out.2.1.lt).facts)
            | fail)
        all_goals
          have hb6 := below_undrew hb5
          have hz6 := hb6.size
          have FBf := Lib.hid (R3.out.2.2.1.trans (hb6.mono R3.out.2.2.1.size))
          have HSO := Lib.hid (show SlO w5 (w.heap.size + 2) a5 vg from hso.mono (show w.heap.size + 2 ≤ WO.heap.size by omega))
          clear hb5 hb6 hso
          go_wp2
          refine bodyPost_ret (v := .tuple #[.agg #[.int .i64 vc, .int .i64 vf, .slice a5 vg.length cap5], .int .i64 vk]) (by simp [results, Try.results36, go_sem, z0, z1, z2]) rfl ⟨a5, cap5, rfl, ?_, below_set3 FBf.out (by omega) _ _ _⟩
          exact (HSO.out.set3 _ _ _ (by omega)).mono (by omega)
theorem specAddJitter_any (c f : Int) (a : Option Addr) (cap : Nat) (zs : List Int) (s1 : Option Addr) (cap1 : Nat) (js : List Int) (hl : zs.length ≤ 1048576) (hl1 : js.length ≤ 1048576) (w : World) (h : SlA w a zs) (h1 : SlA w s1 js) :
    Calls Try.prog 36 #[.agg #[.int .i64 c, .int .i64 f, .slice a zs.length cap], .slice s1 js.length cap1] w (FluxRes (jitVal c f zs js) w) := by
  unfold jitVal
  by_cases hv : fluxOk c f zs = true
  · by_cases hd : jitOk js = true
    · rw [if_pos ⟨hv, hd⟩]; exact specAddJitter_yes c f a cap zs s1 cap1 js hl hl1 hv hd w h h1
    · rw [if_neg (fun h => hd h.2)]; exact specAddJitter_no c f a cap zs s1 cap1 js hl hl1 (.inr (by simpa using hd)) w h h1
  · rw [if_neg (fun h => hv h.1)]; exact specAddJitter_no c f a cap zs s1 cap1 js hl hl1 (.inl (by simpa using hv)) w h h1
end Go.Proofs.Ytgmnaikgjfbgkaa
