/- spec.DropChanges -/
import Derived.Test.YtgmnaikgjfbgkaaDropChanges
namespace Go.Proofs.Ytgmnaikgjfbgkaa
open Go.RowKit
set_option linter.unusedVariables false
set_option maxHeartbeats 2000000 in
theorem specDropChanges_no (c f : Int) (a : Option Addr) (cap : Nat) (zs : List Int) (s1 : Option Addr) (cap1 : Nat) (js : List Int) (hl : zs.length ≤ 1048576) (hl1 : js.length ≤ 1048576) (hv : fluxOk c f zs = false ∨ risesB 0 3999 js = false) (w : World) (h : SlA w a zs) (h1 : SlA w s1 js) :
    Calls Try.prog 38 #[.agg #[.int .i64 c, .int .i64 f, .slice a zs.length cap], .slice s1 js.length cap1] w (FluxRes (.none 1) w) := by
  have c1 := fun w' (hb : Below w.heap.size w w') (hf : FluxAt w' w.heap.size c f a zs.length cap) => l02Ok_any w.heap.size c f a zs cap w' hl hf (h.below hb (Nat.le_refl _))
  have c2 := fun w' (hb : Below w.heap.size w w') => l04Drops_any s1 js cap1 w' hl1 (h1.below hb (Nat.le_refl _))
  generalize fluxOk c f zs = q1 at c1 hv
  generalize risesB 0 3999 js = q2 at c2 hv
  have C1 := Lib.hid c1; have C2 := Lib.hid c2; clear c1 c2 h h1
  cases q1
  · clear hv
    go_enter Try.func38, Try.ntmps38
    go_wp2_with fail
    refine (C1.out _ (by go_grown) (two_at w c f a zs.length cap)).mono ?_
    rintro e w1 ⟨rfl, hb1⟩
    have T1 := Lib.hid (two_start w c f a zs.length cap hb1)
    obtain ⟨z0, z1, z2, y0, y1, y2⟩ := T1.out.2.1.facts
    clear hb1
    go_wp2
    refine bodyPost_ret (v := .tuple #[.agg #[.int .i64 0, .int .i64 0, .slice none 0 0], .int .i64 1]) (by simp [results, Try.results38, go_sem, z0, z1, z2]) rfl ⟨none, 0, rfl, .inl rfl, below_set3 T1.out.2.2.1 (by omega) _ _ _⟩
  · have e : q2 = false := by rcases hv with h | h; cases h; exact h
    subst e
    clear hv
    go_enter Try.func38, Try.ntmps38
    go_wp2_with fail
    refine (C1.out _ (by go_grown) (two_at w c f a zs.length cap)).mono ?_
    rintro e w1 ⟨rfl, hb1⟩
    have T1 := Lib.hid (two_start w c f a zs.length cap hb1)
    clear hb1
    go_wp2_with fail
    refine (C2.out _ T1.out.2.2.1).mono ?_
    rintro e w2 ⟨rfl, hb2⟩
    obtain ⟨z0, z1, z2, y0, y1, y2⟩ := (T1.out.2.1.below hb2 T1.out.2.1.lt).facts
    have FB2 := Lib.hid (T1.out.2.2.1.trans (hb2.mono T1.out.2.2.1.size))
    clear hb2
    go_wp2
    refine bodyPost_ret (v := .tuple #[.agg #[.int .i64 0, .int .i64 0, .slice none 0 0], .int .i64 1]) (by simp [results, Try.results38, go_sem, z0, z1, z2]) rfl ⟨none, 0, rfl, .inl rfl, below_set3 FB2.out (by omega) _ _ _⟩
set_option maxHeartbeats 8000000 in
set_option maxRecDepth 1000000 in
theorem specDropChanges_go (c f : Int) (a : Option Addr) (cap : Nat) (zs : List Int) (s1 : Option Addr) (cap1 : Nat) (js : List Int) (hl : zs.length ≤ 1048576) (hl1 : js.length ≤ 1048576) (hv : fluxOk c f zs = true) (hd : risesB 0 3999 js = true) (w : World) (h : SlA w a zs) (h1 : SlA w s1 js) :
    Calls Try.prog 38 #[.agg #[.int .i64 c, .int .i64 f, .slice a zs.length cap], .slice s1 js.length cap1] w (FluxRes (if js.all (inB 0 ((zs.length : Int) - 1)) = true then mkVal c (keepTo js (timesOf f zs) zs.length) zs.sum 2 else .none 2) w) := by
  have c1 := fun w' (hb : Below w.heap.size w w') (hf : FluxAt w' w.heap.size c f a zs.length cap) => l02Ok_any w.heap.size c f a zs cap w' hl hf (h.below hb (Nat.le_refl _))
  rw [hv] at c1
  have c2 := fun w' (hb : Below w.heap.size w w') => l04Drops_any s1 js cap1 w' hl1 (h1.below hb (Nat.le_refl _))
  rw [hd] at c2
  obtain ⟨_, ⟨hz1, hz4⟩, hz, hsum, hf0, hf1⟩ := fluxOk_iff.1 hv
  have c3 := fun w' (hb : Below w.heap.size w w') (hf : FluxAt w' w.heap.size c f a zs.length cap) => l02Changes_any w.heap.size c f a zs cap w' hz4 hz hf0 (last_bd hv) hf (h.below hb (Nat.le_refl _))
  have c5 := fun w' (hb : Below w.heap.size w w') (hf : FluxAt w' w.heap.size c f a zs.length cap) => l02Revolution_any w.heap.size c f a zs cap w' hl hz hf (h.below hb (Nat.le_refl _))
  have c6 := fun w' (hb : Below w.heap.size w w') => l00Rises_any 0 ((zs.length : Int) - 1) s1 js cap1 w' hl1 (h1.below hb (Nat.le_refl _))
  rw [risesB_within hd (by omega)] at c6
  have c7 := fun w' t (hb : Below w.heap.size w w') => l00Has_any s1 js cap1 t w' hl1 (h1.below hb (Nat.le_refl _))
  have hsum0 : 0 ≤ zs.sum := by have := (sum_bd hz zs.length).1; rwa [List.take_length] at this
  have htl := timesOf_length f zs
  generalize timesOf f zs = ts at c3 htl ⊢
  have hkl := keepTo_length js ts
  have c4 := fun w' x cp (hg : SlA w' x (keepTo js ts zs.length)) => l04Done_any c x (keepTo js ts zs.length) cp zs.sum w' (Nat.le_trans (hkl _) hl) (by omega) (by omega) hg
  generalize js.all (inB 0 ((zs.length : Int) - 1)) = q at c6 ⊢
  generalize mkVal c (keepTo js ts zs.length) zs.sum 2 = fv at c4 ⊢
  obtain ⟨vc, vf, vg, vk⟩ := fv
  have C1 := Lib.hid c1; have C2 := Lib.hid c2; have C3 := Lib.hid c3; have C4 := Lib.hid c4; have C5 := Lib.hid c5; have C6 := Lib.hid c6; have C7 := Lib.hid c7
  have HT := Lib.hid (And.intro htl hkl)
  clear c1 c2 c3 c4 c5 c6 c7 h h1 hv hd hz htl hkl
  have ew : IntKind.i64.wrap ((zs.length : Int) - 1) = (zs.length : Int) - 1 := IntWalk.i64_in _ (by omega)
  have EW := Lib.hid ew; clear ew
  cases q
  all_goals
    go_enter Try.func38, Try.ntmps38
    go_wp2_with fail
    refine (C1.out _ (by go_grown) (two_at w c f a zs.length cap)).mono ?_
    rintro e w1 ⟨rfl, hb1⟩
    have T1 := Lib.hid (two_start w c f a zs.length cap hb1)
    clear hb1
    go_wp2_with fail
    refine (C2.out _ T1.out.2.2.1).mono ?_
    rintro e w2 ⟨rfl, hb2⟩
    have hz2 := hb2.size
    have hz1' := T1.out.2.2.2
    have T2 := Lib.hid (And.intro (T1.out.1.below hb2 (by omega)) (And.intro (T1.out.2.1.below hb2 (by omega)) (T1.out.2.2.1.trans (hb2.mono (by omega)))))
    obtain ⟨x0, x1, x2⟩ := T2.out.1
    clear hb2 T1
    go_wp2_with fail
    refine (C6.out _ T2.out.2.2).mono ?_
    rintro e w3 ⟨rfl, hb3⟩
    have hz3 := hb3.size
    have T3 := Lib.hid (And.intro (T2.out.1.below hb3 (by omega)) (And.intro (T2.out.2.1.below hb3 (by omega)) (T2.out.2.2.trans (hb3.mono (by omega)))))
    clear hb3 x0 x1 x2 T2
  · obtain ⟨z0, z1, z2, y0, y1, y2⟩ := T3.out.2.1.facts
    go_wp2
    refine bodyPost_ret (v := .tuple #[.agg #[.int .i64 0, .int .i64 0, .slice none 0 0], .int .i64 2]) (by simp [results, Try.results38, go_sem, z0, z1, z2]) rfl ⟨none, 0, rfl, .inl rfl, below_set3 T3.out.2.2 (by omega) _ _ _⟩
  · go_wp2_with fail
    refine (C3.out _ T3.out.2.2 T3.out.1).mono ?_
    rintro e A ⟨a3, cp3, rfl, hso, hb4⟩
    obtain ⟨g, rest, rfl, hg, hrow⟩ := slO_row hso (by rw [HT.out.1]; omega)
    have hgl := hrow.lt
    have hz4' := hb4.size
    have HE := Lib.hid (And.intro (T3.out.1.below hb4 (by omega)) (And.intro (T3.out.2.1.below hb4 (by omega)) (And.intro (T3.out.2.2.trans (hb4.mono (by omega))) hrow)))
    clear hb4 hso hrow T3
    go_wp2
    go_loopw [7, 8] (fun v i wr => ∃ k : Nat, k ≤ zs.length ∧ i = .int .i64 (k : Int) ∧ OwnI wr A.heap.size v (keepTo js ts k) ∧ Below A.heap.size A wr) (fun _ i _ => zs.length - (intOf i).toNat)
    case atStart => exact ⟨0, Nat.zero_le _, rfl, OwnI.empty A _ (Nat.le_refl _), (Below.refl _ A).alloc (Nat.le_refl _) _⟩
    case round =>
      obtain ⟨k, hk, rfl, hown, hbw⟩ := hrel
      have hsw := hbw.size
      by_cases hlt : k < zs.length
      · obtain ⟨x, hx⟩ : ∃ x, ts[k]? = some x := getOf (by rw [HT.out.1]; exact hlt)
        have hcx : wr.cell? ⟨g, k, none⟩ = some (.int .i64 x) := by rw [hbw.cell (p := ⟨g, k, none⟩) (show g < A.heap.size by omega)]; exact (HE.out.2.2.2.cell hx).1
        have hll := HT.out.2 k
        have HS := Lib.hid (keepTo_succ (js := js) hx)
        have BQ0 := C7.out wr (k : Int) (HE.out.2.2.1.trans (hbw.mono HE.out.2.2.1.size))
        obtain ⟨b, hb⟩ : ∃ b, hasB js (k : Int) = b := ⟨_, rfl⟩
        rw [hb] at HS BQ0
        have BQ := Lib.hid BQ0
        have e1 : (k : Int) < (zs.length : Int) := by omega
        have e0 : (0 : Int) ≤ (k : Int) := by omega
        have HO := Lib.hid (And.intro hown hbw)
        generalize keepTo js ts k = l at hown HO HS hll
        clear hx hb BQ0 hown hbw
        cases b
        · go_wp2_with fail
          refine (BQ.out).mono ?_
          rintro e w5 ⟨rfl, rfl⟩
          have hb5 : Below A.heap.size A wr := HO.out.2
          have hown5 := HO.out.1
          go_wp2_with (at_builtin; refine wpList_appendI 22 Try.underlying22 rfl _ _ rfl rfl (hown5.alloc _) x ⟨wr.heap.size, 0, none⟩ 1 rfl (World.news_of_block (cs := #[.int .i64 x]) (t := 2) (fr := (0, 0)) (heap_alloc_new wr _)) (by omega) (by simp; omega) ?_; intro g6 cap6 w6 hown6 hb6 _)
          go_roundw
          case rel => exact ⟨k + 1, by omega, by go_num, by rw [HS.out]; exact hown6, (hb5.alloc hb5.size _).trans (hb6.mono (by first | omega | (simp; omega) | simp))⟩
          case measure => simp [intOf]; omega
        · go_wp2_with fail
          refine (BQ.out).mono ?_
          rintro e w5 ⟨rfl, rfl⟩
          go_wp2
          go_roundw
          case rel => exact ⟨k + 1, by omega, by go_num, by rw [HS.out]; exact HO.out.1, HO.out.2⟩
          case measure => simp [intOf]; omega
      · obtain rfl : k = zs.length := by omega
        obtain ⟨a', c', rfl, hsl⟩ := hown.slO
        have R3 := Lib.hid (And.intro (HE.out.1.below hbw (by omega)) (And.intro (HE.out.2.1.below hbw (by omega)) (And.intro (HE.out.2.2.1.trans (hbw.mono HE.out.2.2.1.size)) hsl)))
        clear hown hsl hbw
        obtain ⟨WO, rfl⟩ : ∃ WO, WO = wr := ⟨_, rfl⟩
        have K5 := Lib.hid (C5.out WO.drew R3.out.2.2.1.drew R3.out.1)
        have K4 := Lib.hid (C4.out WO.drew a' c' (show SlA WO.drew _ _ from R3.out.2.2.2.sl))
        obtain ⟨x0, x1, x2⟩ := R3.out.1
        have HX := Lib.hid (fun w' (hb : Below WO.drew.heap.size WO.drew w') => (R3.out.1.below (below_undrew hb) R3.out.1.lt).1)
        clear x1 x2 C1 C2 C3 C4 C5 C6 C7
        go_wp2_with fail
        go_region_held3 (fun w' => w'.cell? ⟨w.heap.size, 0, none⟩ = some (.int .i64 c))
          (first | (with_reducible exact HX.out _ hb5) | go_keep)
          (first
            | (go_at_call 79; refine (K5.out).mono ?_; rintro e w4 ⟨rfl, rfl⟩)
            | (go_at_call 78; refine (K4.out).mono ?_; rintro e w5 ⟨a5, cap5, rfl, hso, hb5⟩; obtain ⟨z0, z1, z2, y0, y1, y2⟩ := (R3.out.2.1.below (below_undrew hb5) R3.out.2.1.lt).facts)
            | fail)
        all_goals
          have hb6 := below_undrew hb5
          have hz6 := hb6.size
          have FBf := Lib.hid (R3.out.2.2.1.trans (hb6.mono R3.out.2.2.1.size))
          have HSO := Lib.hid (show SlO w5 (w.heap.size + 2) a5 vg from hso.mono (show w.heap.size + 2 ≤ WO.heap.size by omega))
          clear hb5 hb6 hso
          go_wp2
          refine bodyPost_ret (v := .tuple #[.agg #[.int .i64 vc, .int .i64 vf, .slice a5 vg.length cap5], .int .i64 vk]) (by simp [results, Try.results38, go_sem, z0, z1, z2]) rfl ⟨a5, cap5, rfl, ?_, below_set3 FBf.out (by omega) _ _ _⟩
          exact (HSO.out.set3 _ _ _ (by omega)).mono (by omega)
theorem specDropChanges_any (c f : Int) (a : Option Addr) (cap : Nat) (zs : List Int) (s1 : Option Addr) (cap1 : Nat) (js : List Int) (hl : zs.length ≤ 1048576) (hl1 : js.length ≤ 1048576) (w : World) (h : SlA w a zs) (h1 : SlA w s1 js) :
    Calls Try.prog 38 #[.agg #[.int .i64 c, .int .i64 f, .slice a zs.length cap], .slice s1 js.length cap1] w (FluxRes (dropVal c f zs js) w) := by
  unfold dropVal
  by_cases hv : fluxOk c f zs = true
  · by_cases hd : risesB 0 3999 js = true
    · rw [if_pos ⟨hv, hd⟩]; exact specDropChanges_go c f a cap zs s1 cap1 js hl hl1 hv hd w h h1
    · rw [if_neg (fun h => hd h.2)]; exact specDropChanges_no c f a cap zs s1 cap1 js hl hl1 (.inr (by simpa using hd)) w h h1
  · rw [if_neg (fun h => hv h.1)]; exact specDropChanges_no c f a cap zs s1 cap1 js hl hl1 (.inl (by simpa using hv)) w h h1
end Go.Proofs.Ytgmnaikgjfbgkaa
