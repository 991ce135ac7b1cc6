/- impl.DropChanges -/
import Derived.Test.YtgmnaikgjfbgkaaDropVal
namespace Go.Proofs.Ytgmnaikgjfbgkaa
open Go.RowKit
set_option linter.unusedVariables false
theorem OwnI.drewN {w : World} {B : Nat} {v : Value} {l : List Int} (h : OwnI w B v l) (n : Nat) : OwnI (w.drewN n) B v l := h
set_option maxHeartbeats 2000000 in
theorem dropChanges_no (c f : Int) (a : Option Addr) (cap : Nat) (zs : List Int) (s1 : Option Addr) (cap1 : Nat) (js : List Int) (hl : zs.length ≤ 1048576) (hl1 : js.length ≤ 1048576) (hv : fluxOk c f zs = false ∨ risesB 0 3999 js = false) (w : World) (h : SlA w a zs) (h1 : SlA w s1 js) :
    Calls Try.prog 39 #[.agg #[.int .i64 c, .int .i64 f, .slice a zs.length cap], .slice s1 js.length cap1] w (FluxRes (.none 1) w) := by
  have c1 := fun w' (hb : Below w.heap.size w w') => validFlux_any c f a zs cap w' hl (h.below hb (Nat.le_refl _))
  have c2 := fun w' (hb : Below w.heap.size w w') => validDrops_any s1 js cap1 w' hl1 (h1.below hb (Nat.le_refl _))
  generalize fluxOk c f zs = q1 at c1 hv
  generalize risesB 0 3999 js = q2 at c2 hv
  have C1 := Lib.hid c1; have C2 := Lib.hid c2; clear c1 c2 h h1
  cases q1
  · clear hv
    go_enter Try.func39, Try.ntmps39
    go_wp2_with fail
    refine (C1.out _ (by go_grown)).mono ?_
    rintro e w1 ⟨rfl, hb1⟩
    have T1 := Lib.hid (two_start w c f a zs.length cap hb1)
    obtain ⟨z0, z1, z2, y0, y1, y2⟩ := T1.out.2.1.facts
    clear hb1
    go_wp2
    refine bodyPost_ret (v := .tuple #[.agg #[.int .i64 0, .int .i64 0, .slice none 0 0], .int .i64 1]) (by simp [results, Try.results39, go_sem, z0, z1, z2]) rfl ⟨none, 0, rfl, .inl rfl, below_set3 T1.out.2.2.1 (by omega) _ _ _⟩
  · have e : q2 = false := by rcases hv with h | h; cases h; exact h
    subst e
    clear hv
    go_enter Try.func39, Try.ntmps39
    go_wp2_with fail
    refine (C1.out _ (by go_grown)).mono ?_
    rintro e w1 ⟨rfl, hb1⟩
    have T1 := Lib.hid (two_start w c f a zs.length cap hb1)
    clear hb1
    go_wp2_with fail
    refine (C2.out _ T1.out.2.2.1).mono ?_
    rintro e w2 ⟨rfl, hb2⟩
    obtain ⟨z0, z1, z2, y0, y1, y2⟩ := (T1.out.2.1.below hb2 T1.out.2.1.lt).facts
    have FB2 := Lib.hid (T1.out.2.2.1.trans (hb2.mono T1.out.2.2.1.size))
    clear hb2
    go_wp2
    refine bodyPost_ret (v := .tuple #[.agg #[.int .i64 0, .int .i64 0, .slice none 0 0], .int .i64 1]) (by simp [results, Try.results39, go_sem, z0, z1, z2]) rfl ⟨none, 0, rfl, .inl rfl, below_set3 FB2.out (by omega) _ _ _⟩
set_option maxHeartbeats 8000000 in
set_option maxRecDepth 1000000 in
theorem dropChanges_go (c f : Int) (a : Option Addr) (cap : Nat) (zs : List Int) (s1 : Option Addr) (cap1 : Nat) (js : List Int) (hl : zs.length ≤ 1048576) (hl1 : js.length ≤ 1048576) (hv : fluxOk c f zs = true) (hd : risesB 0 3999 js = true) (w : World) (h : SlA w a zs) (h1 : SlA w s1 js) :
    Calls Try.prog 39 #[.agg #[.int .i64 c, .int .i64 f, .slice a zs.length cap], .slice s1 js.length cap1] w (FluxRes (if js.all (inB 0 ((zs.length : Int) - 1)) = true then mkVal c (keepTo js (timesOf f zs) zs.length) zs.sum 2 else .none 2) w) := by
  have c1 := fun w' (hb : Below w.heap.size w w') => validFlux_any c f a zs cap w' hl (h.below hb (Nat.le_refl _))
  rw [hv] at c1
  have c2 := fun w' (hb : Below w.heap.size w w') => validDrops_any s1 js cap1 w' hl1 (h1.below hb (Nat.le_refl _))
  rw [hd] at c2
  have c3 := fun w' (hb : Below w.heap.size w w') => readingOf_any c f a cap zs hl hv w' (h.below hb (Nat.le_refl _))
  have c6 := fun w' (hb : Below w.heap.size w w') => within_sl 0 ((zs.length : Int) - 1) js s1 cap1 w' (by unfold maxLen; omega) (h1.below hb (Nat.le_refl _))
  have c7 := fun w' t (hb : Below w.heap.size w w') => bsearch_any s1 js cap1 t w' hl1 (rises_of_risesB hd) (h1.below hb (Nat.le_refl _))
  obtain ⟨_, ⟨hz1, hz4⟩, _⟩ := fluxOk_iff.1 hv
  have htl := timesOf_length f zs
  unfold ReadRes at c3
  rw [htl] at c3
  generalize timesOf f zs = ts at c3 htl ⊢
  have hkl := keepTo_length js ts
  have c4 := fun w' x cp (hg : SlA w' x (keepTo js ts zs.length)) => readingFlux_any c f a zs.length cap x (keepTo js ts zs.length) cp zs.sum 2 w' (Nat.le_trans (hkl _) hl) hg
  generalize js.all (inB 0 ((zs.length : Int) - 1)) = q at c6 ⊢
  generalize mkVal c (keepTo js ts zs.length) zs.sum 2 = fv at c4 ⊢
  obtain ⟨vc, vf, vg, vk⟩ := fv
  have C1 := Lib.hid c1; have C2 := Lib.hid c2; have C3 := Lib.hid c3; have C4 := Lib.hid c4; have C6 := Lib.hid c6; have C7 := Lib.hid c7
  have HT := Lib.hid (And.intro htl hkl)
  clear c1 c2 c3 c4 c6 c7 h h1 hv hd htl hkl
  cases q
  all_goals
    go_enter Try.func39, Try.ntmps39
    go_wp2_with fail
    refine (C1.out _ (by go_grown)).mono ?_
    rintro e w1 ⟨rfl, hb1⟩
    have T1 := Lib.hid (two_start w c f a zs.length cap hb1)
    clear hb1
    go_wp2_with fail
    refine (C2.out _ T1.out.2.2.1).mono ?_
    rintro e w2 ⟨rfl, hb2⟩
    have hz2 := hb2.size
    have hz1' := T1.out.2.2.2
    have T2 := Lib.hid (And.intro (T1.out.1.below hb2 (by omega)) (And.intro (T1.out.2.1.below hb2 (by omega)) (T1.out.2.2.1.trans (hb2.mono (by omega)))))
    obtain ⟨x0, x1, x2⟩ := T2.out.1
    clear hb2 T1
    go_wp2_with fail
    refine (C3.out _ T2.out.2.2).mono ?_
    rintro e w3 ⟨g, rfl, hrow, hg, hb3⟩
    have hz3 := hb3.size
    have hgl := hrow.lt
    have RD : ReadV (w3.alloc (.cells #[.int .i64 c, .int .i64 f, .slice a zs.length cap, .slice (some ⟨g, 0, none⟩) zs.length zs.length, .int .i64 zs.sum] 100)) w3.heap.size c f a zs.length cap (.slice (some ⟨g, 0, none⟩) zs.length zs.length) zs.sum := heap_alloc_new w3 _
    have hBA : Below w3.heap.size w3 (w3.alloc (.cells #[.int .i64 c, .int .i64 f, .slice a zs.length cap, .slice (some ⟨g, 0, none⟩) zs.length zs.length, .int .i64 zs.sum] 100)) := (Below.refl _ _).alloc (Nat.le_refl _) _
    obtain ⟨A, hA⟩ : ∃ A, w3.alloc (.cells #[.int .i64 c, .int .i64 f, .slice a zs.length cap, .slice (some ⟨g, 0, none⟩) zs.length zs.length, .int .i64 zs.sum] 100) = A := ⟨_, rfl⟩
    rw [hA] at RD hBA
    have hAs : A.heap.size = w3.heap.size + 1 := by rw [← hA]; simp
    have HA := Lib.hid hA
    have HE := Lib.hid (And.intro RD (And.intro ((T2.out.2.1.below hb3 (by omega)).below hBA (by omega)) (And.intro ((T2.out.2.2.trans (hb3.mono (by omega))).trans (hBA.mono (by omega))) (hrow.below hBA hgl))))
    clear hb3 x0 x1 x2 RD hBA hrow hA T2
    go_wp2_with fail
    rw [HA.out]
    obtain ⟨r0, r1, r2, r3, r4, r5⟩ := HE.out.1.facts
    go_wp2_with fail
    refine (C6.out _ HE.out.2.2.1).mono ?_
    rintro e w4 ⟨rfl, rfl⟩
  · obtain ⟨z0, z1, z2, y0, y1, y2⟩ := HE.out.2.1.facts
    go_wp2
    refine bodyPost_ret (v := .tuple #[.agg #[.int .i64 0, .int .i64 0, .slice none 0 0], .int .i64 2]) (by simp [results, Try.results39, go_sem, z0, z1, z2]) rfl ⟨none, 0, rfl, .inl rfl, below_set3 HE.out.2.2.1 (by omega) _ _ _⟩
  · go_wp2
    clear r0 r1 r2 r3 r4 r5
    go_loopw [7, 8, 9, 34] (fun v _ _ i wr => ∃ k : Nat, k ≤ zs.length ∧ i = .int .i64 (k : Int) ∧ OwnI wr A.heap.size v (keepTo js ts k) ∧ Below A.heap.size A wr) (fun _ _ _ i _ => zs.length - (intOf i).toNat)
    case atStart => exact ⟨0, Nat.zero_le _, rfl, OwnI.nil _ _, Below.refl _ _⟩
    case round =>
      obtain ⟨k, hk, rfl, hown, hbw⟩ := hrel
      have hsw := hbw.size
      by_cases hlt : k < zs.length
      · obtain ⟨x, hx⟩ : ∃ x, ts[k]? = some x := getOf (by rw [HT.out.1]; exact hlt)
        have hcx : wr.cell? ⟨g, k, none⟩ = some (.int .i64 x) := by rw [hbw.cell (p := ⟨g, k, none⟩) (show g < A.heap.size by omega)]; simpa using HE.out.2.2.2.ints k x hx
        have hll := HT.out.2 k
        have HS := Lib.hid (keepTo_succ (js := js) hx)
        have BQ0 := C7.out wr (k : Int) (HE.out.2.2.1.trans (hbw.mono HE.out.2.2.1.size))
        obtain ⟨b, hb⟩ : ∃ b, hasB js (k : Int) = b := ⟨_, rfl⟩
        rw [hb] at HS BQ0
        have BQ := Lib.hid BQ0
        have e1 : (k : Int) < (zs.length : Int) := by omega
        have HO := Lib.hid (And.intro hown hbw)
        generalize keepTo js ts k = l at hown HO HS hll
        clear hx hb BQ0 hown hbw
        cases b
        · go_wp2_with fail
          refine (BQ.out).mono ?_
          rintro e w5 ⟨⟨i, _, rfl⟩, q', rfl⟩
          have hb5 : Below A.heap.size A (wr.drewN q') := below_drewN HO.out.2 _
          have hown5 := HO.out.1.drewN q'
          go_wp2_with (at_builtin; refine wpList_appendI 98 Try.underlying98 rfl _ _ rfl rfl (hown5.alloc _) x ⟨(wr.drewN q').heap.size, 0, none⟩ 1 rfl (World.news_of_block (cs := #[.int .i64 x]) (t := 2) (fr := (0, 0)) (heap_alloc_new (wr.drewN q') _)) (by omega) (by simp; omega) ?_; intro g6 cap6 w6 hown6 hb6 _)
          go_roundw
          case rel => exact ⟨k + 1, by omega, by go_num, by rw [HS.out]; exact hown6, (hb5.alloc hb5.size _).trans (hb6.mono (by first | omega | (simp; omega) | simp))⟩
          case measure => simp [intOf]; omega
        · go_wp2_with fail
          refine (BQ.out).mono ?_
          rintro e w5 ⟨⟨i, _, rfl⟩, q', rfl⟩
          have hb5 : Below A.heap.size A (wr.drewN q') := below_drewN HO.out.2 _
          have hown5 := HO.out.1.drewN q'
          go_wp2
          go_roundw
          case rel => exact ⟨k + 1, by omega, by go_num, by rw [HS.out]; exact hown5, hb5⟩
          case measure => simp [intOf]; omega
      · obtain rfl : k = zs.length := by omega
        obtain ⟨a', c', rfl, hsl⟩ := hown.slO
        have RDr := HE.out.1.below hbw (by omega)
        have hS : Below A.heap.size A (wr.setCell ⟨w3.heap.size, 3, none⟩ (.slice a' (keepTo js ts zs.length).length c')) ∨ True := .inr trivial
        have FBr : Below w.heap.size w (wr.setCell ⟨w3.heap.size, 3, none⟩ (.slice a' (keepTo js ts zs.length).length c')) := (HE.out.2.2.1.trans (hbw.mono HE.out.2.2.1.size)).setCell (p := ⟨w3.heap.size, 3, none⟩) (by first | omega | (simp; omega)) _
        have ZR : ZeroAt (wr.setCell ⟨w3.heap.size, 3, none⟩ (.slice a' (keepTo js ts zs.length).length c')) (w.heap.size + 1) := (HE.out.2.1.below hbw (by omega)).setCell _ (by simp; omega)
        have SR : SlO (wr.setCell ⟨w3.heap.size, 3, none⟩ (.slice a' (keepTo js ts zs.length).length c')) A.heap.size a' (keepTo js ts zs.length) := hsl.setCell _ (by simp; omega)
        have RP := RDr.put (.slice a' (keepTo js ts zs.length).length c')
        have C5 := Lib.hid (C4.out _ a' c' SR.sl)
        have HF := Lib.hid (And.intro FBr (And.intro ZR RP))
        have hszS : (wr.setCell ⟨w3.heap.size, 3, none⟩ (.slice a' (keepTo js ts zs.length).length c')).heap.size = wr.heap.size := by simp
        obtain ⟨r0, r1, r2, r3, r4, r5⟩ := RDr.facts
        clear FBr ZR SR RP RDr hS hown hsl hbw C1 C2 C3 C4 C6 C7
        go_wp2_with fail
        refine (C5.out).mono ?_
        rintro e w5 ⟨a5, cap5, rfl, hso, hb5⟩
        have hz5 := hb5.size
        rw [hszS] at hz5
        obtain ⟨z0, z1, z2, y0, y1, y2⟩ := (HF.out.2.1.below hb5 (by rw [hszS]; omega)).facts
        have FBf := Lib.hid (HF.out.1.trans (hb5.mono (by rw [hszS]; omega)))
        have HSO := Lib.hid (show SlO w5 (w.heap.size + 2) a5 vg from hso.mono (by rw [hszS]; omega))
        clear hb5 hso r0 r1 r2 r3 r4 r5
        go_wp2
        refine bodyPost_ret (v := .tuple #[.agg #[.int .i64 vc, .int .i64 vf, .slice a5 vg.length cap5], .int .i64 vk]) (by simp [results, Try.results39, go_sem, z0, z1, z2]) rfl ⟨a5, cap5, rfl, ?_, below_set3 FBf.out (by omega) _ _ _⟩
        exact (HSO.out.set3 _ _ _ (by omega)).mono (by omega)
theorem dropChanges_any (c f : Int) (a : Option Addr) (cap : Nat) (zs : List Int) (s1 : Option Addr) (cap1 : Nat) (js : List Int) (hl : zs.length ≤ 1048576) (hl1 : js.length ≤ 1048576) (w : World) (h : SlA w a zs) (h1 : SlA w s1 js) :
    Calls Try.prog 39 #[.agg #[.int .i64 c, .int .i64 f, .slice a zs.length cap], .slice s1 js.length cap1] w (FluxRes (dropVal c f zs js) w) := by
  unfold dropVal
  by_cases hv : fluxOk c f zs = true
  · by_cases hd : risesB 0 3999 js = true
    · rw [if_pos ⟨hv, hd⟩]; exact dropChanges_go c f a cap zs s1 cap1 js hl hl1 hv hd w h h1
    · rw [if_neg (fun h => hd h.2)]; exact dropChanges_no c f a cap zs s1 cap1 js hl hl1 (.inr (by simpa using hd)) w h h1
  · rw [if_neg (fun h => hv h.1)]; exact dropChanges_no c f a cap zs s1 cap1 js hl hl1 (.inl (by simpa using hv)) w h h1
end Go.Proofs.Ytgmnaikgjfbgkaa
