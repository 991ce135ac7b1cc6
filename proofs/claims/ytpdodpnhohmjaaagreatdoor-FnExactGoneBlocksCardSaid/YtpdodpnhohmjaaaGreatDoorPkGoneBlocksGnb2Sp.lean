/- spec: the blocks that a deleted file probably had; spec.GoneBlocks -/
import Derived.Test.YtpdodpnhohmjaaaGreatDoorPkGoneBlocksGnbSp
namespace Go.Proofs.YtpdodpnhohmjaaaGreatDoor
open Go.RowKit
set_option maxRecDepth 20000
set_option linter.unusedVariables false
set_option linter.unusedSimpArgs false
set_option maxRecDepth 20000
def gbT (l : List Int) (f : Int) (n : Nat) : List Int := (l.filter (fun x => decide (f ≤ x))).take n
theorem pre_done {l T : List Int} {f : Int} {n k : Nat} (hT : T = (l.take k).filter (fun x => decide (f ≤ x))) (hn : T.length ≤ n) (h : l.length ≤ k ∨ n ≤ T.length) : T = gbT l f n := by
  have e : l.filter (fun x => decide (f ≤ x)) = T ++ (l.drop k).filter (fun x => decide (f ≤ x)) := by
    rw [hT, ← List.filter_append, List.take_append_drop]
  unfold gbT
  rcases h with h | h
  · rw [e, List.drop_eq_nil_of_le h, List.filter_nil, List.append_nil, List.take_of_length_le hn]
  · have h2 : n = T.length := by omega
    rw [e, h2, List.take_left]
theorem pre_yes {l T : List Int} {f x : Int} {k : Nat} (hT : T = (l.take k).filter (fun x => decide (f ≤ x))) (hx : l[k]? = some x) (hf : f ≤ x) : T ++ [x] = (l.take (k + 1)).filter (fun x => decide (f ≤ x)) := by
  rw [List.take_add_one, hx, Option.toList_some, List.filter_append, ← hT, List.filter_cons_of_pos (by simpa using hf), List.filter_nil]
theorem pre_no {l T : List Int} {f x : Int} {k : Nat} (hT : T = (l.take k).filter (fun x => decide (f ≤ x))) (hx : l[k]? = some x) (hf : ¬ f ≤ x) : T = (l.take (k + 1)).filter (fun x => decide (f ≤ x)) := by
  rw [List.take_add_one, hx, Option.toList_some, List.filter_append, ← hT, List.filter_cons_of_neg (by simpa using hf), List.filter_nil, List.append_nil]
theorem gbT_eq {l : List Int} (ha : l.Pairwise (· < ·)) (f : Int) (n : Nat) : gbT l f n = (dwL l f).take n := by unfold gbT; rw [asc_filter ha]
theorem gbOk_of {l T : List Int} {f : Int} (ha : l.Pairwise (· < ·)) (n : Nat) (hT : T = gbT l f n) : gbOk l f n = (decide (n = 0) || (decide (T.length = n) && decide (T.head? = some f))) := by
  rw [hT, gbT_eq ha]
  unfold gbOk
  by_cases hn : n = 0
  · rw [decide_eq_true hn]; rfl
  · obtain ⟨m, rfl⟩ : ∃ m, n = m + 1 := ⟨n - 1, by omega⟩
    rw [Bool.and_comm (decide (List.length _ = _))]
    congr 2
    · cases dwL l f <;> rfl
    · congr 1
      rw [List.length_take]
      apply propext
      omega
/-- The blocks, and whether they are all. -/
def L21B (fl : List Int) (f : Int) (n : Nat) (w : World) (e : Ending) (w' : World) : Prop :=
  ∃ a cap, e = .returned (.tuple #[.slice a (gbT fl f n).length cap, .bool (gbOk fl f n)]) ∧ SlO w' w.heap.size a (gbT fl f n) ∧ Below w.heap.size w w'
set_option maxHeartbeats 8000000 in
theorem l21Blocks_any (p g cap q : Nat) (es : List StringV) (r : ChainEntryV) (w : World) (hD : DAt w p g cap (chLay es.length (len0 es)) (flatL es)) (hd : diskB es = true) (hr0 : 0 ≤ r.f2) (hr1 : r.f2 ≤ 65535) (hq : BoxAt w q #[.string r.f0, .int .i64 r.f1, .int .i64 r.f2, .bool r.f3, .bool r.f4]) :
    Calls Tryz.prog 26 #[.pointer (some ⟨p, 0, none⟩), .pointer (some ⟨q, 0, none⟩)] w (L21B (fre es) r.f1 (ndK es r) w) := by
  obtain ⟨⟨hn8, hn128⟩, _, hz⟩ := diskB_facts hd
  obtain ⟨n0, hn0⟩ : ∃ m : Nat, r.f2 = m := ⟨r.f2.toNat, by omega⟩
  have hlt := hD.lt
  have hql := hq.lt (by simp)
  have ND := Lib.hid (dNeed_any p g cap n0 es w hD hz (by omega))
  have FR := Lib.hid (fun w' (hb : Below w.heap.size w w') => dFree_any p g cap es w' (hD.below hb hlt.1 hlt.2) hd)
  have QX := Lib.hid (fun w' (hb : Below w.heap.size w w') => show w'.cell? ⟨q, 1, none⟩ = some (.int .i64 r.f1) from (hq.below hb hql) 1 _ rfl)
  have q2 : w.cell? ⟨q, 2, none⟩ = some (.int .i64 (n0 : Int)) := by rw [← hn0]; exact hq 2 _ rfl
  have hnd : ndK es r = (n0 + len0 es - 1) / len0 es := by unfold ndK; rw [hn0]; rfl
  have hfl := frL_len es (chD es) es.length
  have HA := Lib.hid (frL_asc es (chD es) es.length)
  have hfl2 : (frL es (chD es) es.length).length ≤ 1048576 := by omega
  unfold fre L21B
  rw [hnd]
  have hnn : (n0 + len0 es - 1) / len0 es ≤ 70000 := Nat.le_trans (Nat.div_le_self _ _) (by omega)
  generalize frL es (chD es) es.length = fl at *
  generalize (n0 + len0 es - 1) / len0 es = n at *
  generalize r.f1 = f at *
  clear hD hd hr0 hr1 hq hnd hfl hn8 hn128 hz hn0 hlt hql
  go_enter Tryz.func26, Tryz.ntmps26
  go_wp2_with fail
  refine ND.out.mono ?_
  rintro e w1 ⟨rfl, hb1⟩
  have FB := Lib.hid (hb1.alloc hb1.size (.cells #[] 2))
  have hz1 := hb1.size
  clear q2 ND hb1
  go_wp2_with fail
  refine (FR.out _ FB.out).mono ?_
  rintro e w2 ⟨fa, fc, rfl, hso, hb2⟩
  have HV := Lib.hid (OwnI.below' (OwnI.empty w1 w.heap.size hz1) hb2)
  have AP := Lib.hid (show fl ≠ [] → ∀ g, fa = some ⟨g, 0, none⟩ → (Value.slice (some ⟨w1.heap.size, 0, none⟩) 0 0).ownBlock ≠ some g by
    intro hne g hg
    rcases hso with h | ⟨g', rest, e, hgB, hh⟩
    · exact absurd h hne
    · rw [hg] at e
      have e2 : g = g' := by simpa using e
      subst e2
      simp at hgB
      intro h
      have : w1.heap.size = g := by simpa [Value.ownBlock] using h
      omega)
  have HSO := Lib.hid (hso.mono FB.out.size)
  replace FB := Lib.hid (FB.out.trans (hb2.mono FB.out.size))
  clear hso hb2
  go_wp2
  go_loopw [7, 9] (fun v i wr => ∃ (k : Nat) (T : List Int), k ≤ fl.length ∧ i = .int .i64 k ∧ T = (fl.take k).filter (fun x => decide (f ≤ x)) ∧ T.length ≤ n ∧ OwnI wr w.heap.size v T ∧ SlO wr w.heap.size fa fl ∧ (fl ≠ [] → ∀ g, fa = some ⟨g, 0, none⟩ → v.ownBlock ≠ some g) ∧ Below w.heap.size w wr) (fun _ i _ => fl.length - (intOf i).toNat)
  case atStart => exact ⟨0, [], Nat.zero_le _, rfl, rfl, Nat.zero_le _, HV.out, HSO.out, AP.out, FB.out⟩
  case round =>
    obtain ⟨k, T, hk, rfl, hT, hTn, hown, hso, hap, hb⟩ := hrel
    clear HV HSO AP FB
    by_cases hkl : k < fl.length
    · have hkl2 : (k : Int) < (fl.length : Int) := by omega
      by_cases hTl : T.length < n
      · have hTl2 : (T.length : Int) < (n : Int) := by omega
        obtain ⟨x, hx⟩ : ∃ x, fl[k]? = some x := ⟨fl[k], List.getElem?_eq_getElem hkl⟩
        have hfn : fl ≠ [] := by rintro rfl; simp at hkl
        have HAP := Lib.hid (hap hfn)
        have HSO := Lib.hid hso
        obtain ⟨gf, hgf⟩ : ∃ gf, fa = some ⟨gf, 0, none⟩ := by
          rcases hso with h | ⟨g', rest, e, _⟩
          · exact absurd h hfn
          · exact ⟨g', e⟩
        subst hgf
        have ck : wr.cell? ⟨gf, k, none⟩ = some (.int .i64 x) := by
          rcases hso.sl with h | ⟨b, off, e, _, hc⟩
          · exact absurd h hfn
          · cases e
            simpa using hc k x hx
        have qf := QX.out _ hb
        obtain ⟨va, vc, rfl, hvso⟩ := hown.slO
        have HB := Lib.hid hb
        have HOW := Lib.hid hown
        have hTb : T.length < 1073741824 := by omega
        have hzr := hb.size
        clear hvso hown hap hso hb FR
        by_cases hf : f ≤ x
        · have HT := Lib.hid (pre_yes hT hx hf)
          have hf2 : x ≥ f := hf
          clear hT hx
          go_wp2
          go_region
          go_wp2_with (at_builtin; refine wpList_appendI2 24 Tryz.underlying24 rfl _ _ rfl rfl (HOW.out.drew.alloc _) x ⟨wr.heap.size, 0, none⟩ 1 rfl (World.news_of_block (cs := #[.int .i64 x]) (t := 2) (fr := (0, 0)) (heap_alloc_new wr.drew _)) hTb (by simp; omega) ?_; intro g5 cap5 w5 hown5 hgr5 hb5 h45)
          have HB5 := Lib.hid (HB.out.trans ((((Below.refl w.heap.size wr).drew).alloc (by simpa using hzr) (.cells #[.int .i64 x] 2)).trans hb5))
          have HSO5 := Lib.hid ((HSO.out.drew.below (C := wr.heap.size) ((Below.refl wr.heap.size wr.drew).alloc (Nat.le_refl _) (.cells #[.int .i64 x] 2)) (Nat.le_refl _)).grown HAP.out hgr5)
          have HAP5 := Lib.hid (show fl ≠ [] → ∀ g, (some (⟨gf, 0, none⟩ : Addr)) = some ⟨g, 0, none⟩ → (Value.slice (some ⟨g5, 0, none⟩) (T.length + 1) cap5).ownBlock ≠ some g by
            intro _ g hg h
            have e1 : gf = g := by simpa using hg
            have e2 : g5 = g := by simpa [Value.ownBlock] using h
            have hlt := HSO.out.blkLt hfn
            rcases h45 with h | h
            · exact HAP.out gf rfl (h.trans (by rw [e2, e1]))
            · simp at h; omega)
          clear hb5 hgr5 h45
          go_wp2
          go_roundw
          case rel => exact ⟨k + 1, T ++ [x], by omega, by go_num, HT.out, by simp; omega, by simpa using hown5, HSO5.out, HAP5.out, HB5.out⟩
          case measure => simp [intOf]; omega
        · have HT := Lib.hid (pre_no hT hx hf)
          have hf2 : ¬ x ≥ f := hf
          clear hT hx
          go_wp2
          go_region
          go_wp2
          go_roundw
          case rel => exact ⟨k + 1, T, by omega, by go_num, HT.out, hTn, HOW.out.drew, HSO.out.drew, fun _ => HAP.out, HB.out.drew⟩
          case measure => simp [intOf]; omega
      · have hTl2 : ¬ (T.length : Int) < (n : Int) := by omega
        have HT := Lib.hid (pre_done hT hTn (by omega))
        have HO := Lib.hid (gbOk_of HA.out n HT.out)
        obtain ⟨va, vc, rfl, hvso⟩ := hown.slO
        have HV := Lib.hid hvso
        have HB := Lib.hid hb
        have HLT := Lib.hid hTn
        have l1 : (T.length : Int) ≤ 70000 := by omega
        clear hT hTn hown hso hap hb hvso FR
        by_cases hn0 : n = 0
        · subst hn0
          have ok : gbOk fl f 0 = true := by rw [HO.out]; rfl
          have HOK := Lib.hid ok
          clear ok
          go_wp2
          go_region
          go_wp2
          go_ret2
          exact ⟨va, vc, by rw [← HT.out, HOK.out]; rfl, by rw [← HT.out]; exact HV.out.drew, HB.out.drew⟩
        · have hne : ((n : Int) == 0) = false := by rw [beq_eq_false_iff_ne]; omega
          by_cases hTe : T.length = n
          · have hTe2 : ((T.length : Int) == (n : Int)) = true := by rw [hTe]; simp
            have hTe3 : ((n : Int) == (n : Int)) = true := by simp
            obtain ⟨x, T', rfl⟩ : ∃ x T', T = x :: T' := by
              cases T with
              | nil => exact absurd hTe.symm hn0
              | cons x T' => exact ⟨x, T', rfl⟩
            obtain ⟨gv, rest, rfl, hgv, hhv⟩ : ∃ gv rest, va = some ⟨gv, 0, none⟩ ∧ w.heap.size ≤ gv ∧ wr.heap[gv]? = some (.cells ((((x :: T').map (Value.int .i64))).toArray ++ rest) 2 (0, 0)) := by
              rcases HV.out with h | h
              · cases h
              · exact h
            have c0 : wr.cell? ⟨gv, 0, none⟩ = some (.int .i64 x) := by simp [World.cell?, hhv, Array.getElem?_append]
            have qf := QX.out _ HB.out
            clear hhv
            have ok : gbOk fl f n = (x == f) := by
              rw [HO.out, decide_eq_false hn0, decide_eq_true hTe]
              by_cases hxf : x = f <;> simp [hxf]
            have HOK := Lib.hid ok
            have hln : 0 < (x :: T').length := by simp
            generalize hTT : x :: T' = T at *
            have HTT := Lib.hid hTT
            have HTE := Lib.hid hTe
            have h0n : (0 : Int) < (T.length : Int) := by omega
            clear ok hTT hn0
            go_wp2
            go_region
            go_wp2
            go_ret2
            exact ⟨some ⟨gv, 0, none⟩, vc, by rw [← HT.out, HTE.out, HOK.out]; rfl, by rw [← HT.out]; exact HV.out.drew, HB.out.drew⟩
          · have hTe2 : ((T.length : Int) == (n : Int)) = false := by rw [beq_eq_false_iff_ne]; omega
            have ok : gbOk fl f n = false := by rw [HO.out, decide_eq_false hn0, decide_eq_false hTe]; rfl
            have HOK := Lib.hid ok
            clear ok hn0 hTe
            go_wp2
            go_region
            go_wp2
            go_ret2
            exact ⟨va, vc, by rw [← HT.out, HOK.out]; rfl, by rw [← HT.out]; exact HV.out.drew, HB.out.drew⟩
    · have hkl2 : ¬ (k : Int) < (fl.length : Int) := by omega
      have HT := Lib.hid (pre_done hT hTn (by omega))
      have HO := Lib.hid (gbOk_of HA.out n HT.out)
      obtain ⟨va, vc, rfl, hvso⟩ := hown.slO
      have HV := Lib.hid hvso
      have HB := Lib.hid hb
      have HLT := Lib.hid hTn
      have l1 : (T.length : Int) ≤ 70000 := by omega
      clear hT hTn hown hso hap hb hvso FR
      by_cases hn0 : n = 0
      · subst hn0
        have ok : gbOk fl f 0 = true := by rw [HO.out]; rfl
        have HOK := Lib.hid ok
        clear ok
        go_wp2
        go_region
        go_wp2
        go_ret2
        exact ⟨va, vc, by rw [← HT.out, HOK.out]; rfl, by rw [← HT.out]; exact HV.out.drew, HB.out.drew⟩
      · have hne : ((n : Int) == 0) = false := by rw [beq_eq_false_iff_ne]; omega
        by_cases hTe : T.length = n
        · have hTe2 : ((T.length : Int) == (n : Int)) = true := by rw [hTe]; simp
          have hTe3 : ((n : Int) == (n : Int)) = true := by simp
          obtain ⟨x, T', rfl⟩ : ∃ x T', T = x :: T' := by
            cases T with
            | nil => exact absurd hTe.symm hn0
            | cons x T' => exact ⟨x, T', rfl⟩
          obtain ⟨gv, rest, rfl, hgv, hhv⟩ : ∃ gv rest, va = some ⟨gv, 0, none⟩ ∧ w.heap.size ≤ gv ∧ wr.heap[gv]? = some (.cells ((((x :: T').map (Value.int .i64))).toArray ++ rest) 2 (0, 0)) := by
            rcases HV.out with h | h
            · cases h
            · exact h
          have c0 : wr.cell? ⟨gv, 0, none⟩ = some (.int .i64 x) := by simp [World.cell?, hhv, Array.getElem?_append]
          have qf := QX.out _ HB.out
          clear hhv
          have ok : gbOk fl f n = (x == f) := by
            rw [HO.out, decide_eq_false hn0, decide_eq_true hTe]
            by_cases hxf : x = f <;> simp [hxf]
          have HOK := Lib.hid ok
          have hln : 0 < (x :: T').length := by simp
          generalize hTT : x :: T' = T at *
          have HTT := Lib.hid hTT
          have HTE := Lib.hid hTe
          have h0n : (0 : Int) < (T.length : Int) := by omega
          clear ok hTT hn0
          go_wp2
          go_region
          go_wp2
          go_ret2
          exact ⟨some ⟨gv, 0, none⟩, vc, by rw [← HT.out, HTE.out, HOK.out]; rfl, by rw [← HT.out]; exact HV.out.drew, HB.out.drew⟩
        · have hTe2 : ((T.length : Int) == (n : Int)) = false := by rw [beq_eq_false_iff_ne]; omega
          have ok : gbOk fl f n = false := by rw [HO.out, decide_eq_false hn0, decide_eq_false hTe]; rfl
          have HOK := Lib.hid ok
          clear ok hn0 hTe
          go_wp2
          go_region
          go_wp2
          go_ret2
          exact ⟨va, vc, by rw [← HT.out, HOK.out]; rfl, by rw [← HT.out]; exact HV.out.drew, HB.out.drew⟩
set_option maxHeartbeats 8000000 in
theorem specGoneBlocks_any (a : Option Addr) (c : Nat) (es : List StringV) (b : Int) (hm : es.length ≤ 1048576) (hs : ∀ e ∈ es, e.f0.size ≤ 1048576) (w : World) (h : SlS rowString w a es) :
    Calls Tryz.prog 15 #[.slice a es.length c, .int .i64 b] w (IntsRes2 (gnbL es b) (gnbC es b) w) := by
  have LE := Lib.hid (fun w' (hb : Below w.heap.size w w') => l21Entry_any a c es b hm hs w' (h.below hb (Nat.le_refl _)))
  unfold L21Res at LE
  unfold IntsRes2
  by_cases h0 : gnC es b = 0
  case neg =>
    obtain ⟨e1, e2⟩ := gnb_bad h0
    rw [e1, e2]
    have hne : (gnC es b != 0) = true := by simpa using h0
    have H0 := Lib.hid h0
    generalize gnC es b = cc at *
    clear e1 e2 h0 h hs
    go_enter Tryz.func15, Tryz.ntmps15
    go_wp2_with fail
    refine (LE.out _ (Below.refl _ _)).mono ?_
    rintro e w1 ⟨_, hy, hb1⟩
    obtain rfl := hy H0.out
    clear hy LE
    have HB := Lib.hid hb1
    clear hb1
    go_wp2
    go_ret2
    exact ⟨none, 0, rfl, .inl rfl, by first | exact HB.out.alloc HB.out.size _ | exact (HB.out.alloc HB.out.size _).drew⟩
  have h0c : chCode es = 0 := by
    have h2 := h0
    unfold gnC at h2
    split at h2
    · assumption
    · exact h2
  obtain ⟨hd, _⟩ := chCode_facts h0c
  obtain ⟨f1, f2⟩ := gnC_facts h0c h0
  obtain ⟨e1, e2⟩ := gnb_good h0
  have LB := Lib.hid (fun p g cap q w1 hD hq => l21Blocks_any p g cap q es (gnR es b) w1 hD hd f1 f2 hq)
  have HT := Lib.hid (show gbT (fre es) (gnR es b).f1 (ndK es (gnR es b)) = (dwL (fre es) (gnR es b).f1).take (ndK es (gnR es b)) from gbT_eq (frL_asc es (chD es) es.length) _ _)
  have GY := Lib.hid (fun hg => gb_yes (l := fre es) (f := (gnR es b).f1) (n := ndK es (gnR es b)) hg)
  have GN := Lib.hid (fun hg => gb_no (l := fre es) (f := (gnR es b).f1) (n := ndK es (gnR es b)) hg)
  have H0 := Lib.hid h0
  unfold L21B at LB
  rw [e1, e2]
  clear e1 e2 f1 f2 h0c h0 h hs hd
  generalize gbLs (fre es) (gnR es b).f1 (ndK es (gnR es b)) = L at *
  generalize gbCd (fre es) (gnR es b).f1 (ndK es (gnR es b)) = cd at *
  generalize gbOk (fre es) (gnR es b).f1 (ndK es (gnR es b)) = ok at *
  generalize gbT (fre es) (gnR es b).f1 (ndK es (gnR es b)) = T at *
  generalize gnR es b = r at *
  go_enter Tryz.func15, Tryz.ntmps15
  go_wp2_with fail
  refine (LE.out _ (Below.refl _ _)).mono ?_
  rintro e w1 ⟨hy, _, hb1⟩
  obtain ⟨p, g, cap, rfl, hp, hpg, hD⟩ := hy H0.out
  have hltD := hD.lt
  have HD := Lib.hid hD
  have FB := Lib.hid hb1
  clear hy hD hb1 LE
  go_wp2_with fail
  have BA := Lib.hid (show Below w1.heap.size w1 (w1.alloc (.cells #[.string r.f0, .int .i64 r.f1, .int .i64 r.f2, .bool r.f3, .bool r.f4] 45)) from (Below.refl w1.heap.size w1).alloc (Nat.le_refl _) _)
  have HQ := Lib.hid (BoxAt.new w1 #[.string r.f0, .int .i64 r.f1, .int .i64 r.f2, .bool r.f3, .bool r.f4] 45 _ rfl)
  replace HD := Lib.hid (HD.out.below BA.out hltD.1 hltD.2)
  replace FB := Lib.hid (FB.out.trans (BA.out.mono FB.out.size))
  refine (LB.out p g cap w1.heap.size _ HD.out HQ.out).mono ?_
  rintro e w4 ⟨ad, cp, rfl, hso, hb4⟩
  have HSO := Lib.hid (hso.mono FB.out.size)
  replace FB := Lib.hid (FB.out.trans (hb4.mono FB.out.size))
  clear hso hb4 BA HQ HD LB hltD
  cases ok with
  | true =>
    obtain ⟨e1, e2⟩ := GY.out rfl
    have hTL : T = L := by rw [HT.out, e1]
    subst hTL
    subst e2
    clear GY GN HT e1
    go_wp2
    go_ret2
    exact ⟨ad, cp, rfl, HSO.out, FB.out⟩
  | false =>
    obtain ⟨e1, e2⟩ := GN.out rfl
    subst e1
    subst e2
    clear GY GN HT
    go_wp2
    go_ret2
    exact ⟨none, 0, rfl, .inl rfl, FB.out⟩
end Go.Proofs.YtpdodpnhohmjaaaGreatDoor
