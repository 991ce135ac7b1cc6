/- impl: the blocks of a deleted entry; impl.GoneBlocks -/
import Derived.Test.YtpdodpnhohmjaaaGreatDoorPkGoneBlocksGoneIm
import Derived.Test.YtpdodpnhohmjaaaGreatDoorPkGoneBlocksGnbVal
import Derived.Test.YtpdodpnhohmjaaaGreatDoorPkGoneBlocksFreeIm
import Derived.Test.YtpdodpnhohmjaaaGreatDoorPkGoneBlocksOffI
import Derived.Test.YtpdodpnhohmjaaaGreatDoorPkGoneBlocksF
namespace Go.Proofs.YtpdodpnhohmjaaaGreatDoor
open Go.RowKit
set_option maxRecDepth 20000
set_option linter.unusedVariables false
set_option linter.unusedSimpArgs false
set_option maxRecDepth 20000
set_option maxHeartbeats 4000000 in
theorem freeMO_any (l1 l2 l3 : Int) (p : Nat) (a : Option Addr) (c : Nat) (es : List StringV) (w : World) (h : CD w p a c es) (hsl : SlS rowString w a es) (hd : diskB es = true) :
    Calls Tryz.prog 42 #[.agg #[.int .i64 (es.length : Int), .int .i64 l1, .int .i64 l2, .int .i64 l3, .int .i64 (chD es : Int), .pointer (some ⟨p, 0, none⟩)]] w (fun e w' => ∃ v, e = .returned v ∧ OwnI w' w.heap.size v (frL es (chD es) es.length) ∧ Below w.heap.size w w') := by
  obtain ⟨hn, _, _⟩ := diskB_facts hd
  obtain ⟨hD, _⟩ := chD_le hd
  have LK := Lib.hid (fun k (hk : k < es.length) w' (hb : Below w.heap.size w w') => linkM_any (es.length : Int) l1 l2 l3 (chD es : Int) p k a c es w' (h.below hb h.1) (hsl.below hb (Nat.le_refl _)) hd hk)
  have FY := Lib.hid (fun t ht hl => frL_yes (es := es) (d := chD es) (t := t) ht hl)
  have FN := Lib.hid (fun t ht hl => frL_no (es := es) (d := chD es) (t := t) ht hl)
  have FL := Lib.hid (fun t => frL_len es (chD es) t)
  have F0 := Lib.hid (frL_nil es (chD es))
  clear h hsl hd
  generalize hdd : chD es = d at *
  clear hdd
  go_enter Tryz.func42, Tryz.ntmps42
  have R0 := BoxAt.new w #[.int .i64 (es.length : Int), .int .i64 l1, .int .i64 l2, .int .i64 l3, .int .i64 (d : Int), .pointer (some ⟨p, 0, none⟩)] 50 _ rfl
  have FB0 := (Below.refl w.heap.size w).alloc (Nat.le_refl _) (.cells #[.int .i64 (es.length : Int), .int .i64 l1, .int .i64 l2, .int .i64 l3, .int .i64 (d : Int), .pointer (some ⟨p, 0, none⟩)] 50)
  have hz0 : w.heap.size + 1 ≤ (w.alloc (.cells #[.int .i64 (es.length : Int), .int .i64 l1, .int .i64 l2, .int .i64 l3, .int .i64 (d : Int), .pointer (some ⟨p, 0, none⟩)] 50)).heap.size := by simp
  go_wp2
  go_loopw [3, 4] (fun v i wr => ∃ t : Nat, d ≤ t ∧ t ≤ es.length ∧ i = .int .i64 t ∧ OwnI wr (w.heap.size + 1) v (frL es d t) ∧ BoxAt wr w.heap.size #[.int .i64 (es.length : Int), .int .i64 l1, .int .i64 l2, .int .i64 l3, .int .i64 (d : Int), .pointer (some ⟨p, 0, none⟩)] ∧ Below w.heap.size w wr ∧ Hid (w.heap.size + 1 ≤ wr.heap.size)) (fun _ i _ => es.length - (intOf i).toNat)
  case atStart => exact ⟨d, Nat.le_refl _, hD, rfl, by rw [F0.out]; exact OwnI.nil _ _, R0, FB0, Lib.hid hz0⟩
  case round =>
    obtain ⟨t, ht1, ht2, rfl, hown, hbx, hb, hzr⟩ := hrel
    have x0 := hbx 0 _ rfl
    by_cases hlt : t < es.length
    · have LT := Lib.hid (LK.out t hlt)
      have x1 := hbx 1 _ rfl
      have x2 := hbx 2 _ rfl
      have x3 := hbx 3 _ rfl
      have x4 := hbx 4 _ rfl
      have x5 := hbx 5 _ rfl
      have YT := Lib.hid (FY.out t ht1)
      have NT := Lib.hid (FN.out t ht1)
      have hll : (frL es d t).length < 1073741824 := by have := FL.out t; omega
      generalize frL es d t = l at *
      have HB := Lib.hid hb; have HBX := Lib.hid hbx
      clear hb hbx
      go_wp2_with fail
      refine (LT.out _ HB.out).mono ?_
      rintro e w2 ⟨rfl, hb2⟩
      have hz2 := hb2.size
      have hown2 := hown.below' hb2
      have HBX2 := Lib.hid (HBX.out.below hb2 (by have := hzr.out; omega))
      have HB2 := Lib.hid (HB.out.trans (hb2.mono HB.out.size))
      have hzr2 := Nat.le_trans hzr.out hz2
      clear hb2 x0 x1 x2 x3 x4 x5 hown
      by_cases hl0 : lnk es t = 0
      · have HY := Lib.hid (YT.out hl0)
        rw [hl0]
        clear hl0
        go_wp2_with (at_builtin; refine wpList_appendI 24 Tryz.underlying24 rfl _ _ rfl rfl (hown2.alloc _) (t : Int) ⟨w2.heap.size, 0, none⟩ 1 rfl (World.news_of_block (cs := #[.int .i64 (t : Int)]) (t := 2) (fr := (0, 0)) (heap_alloc_new w2 _)) hll (by simp; omega) ?_; intro g cap w5 hown5 hb5 _)
        have hba := (((Below.refl (w.heap.size + 1) w2).alloc hzr2 (.cells #[.int .i64 (t : Int)] 2)).trans hb5)
        have HBX5 := Lib.hid (HBX2.out.below hba (by omega))
        have HB5 := Lib.hid (HB2.out.trans (hba.mono (by omega)))
        have HZ5 := Lib.hid (Nat.le_trans hzr2 hba.size)
        clear hb5 hba
        go_wp2
        go_roundw
        case rel => exact ⟨t + 1, by omega, by omega, by go_num, by rw [HY.out]; simpa using hown5, HBX5.out, HB5.out, HZ5⟩
        case measure => simp [intOf]; omega
      · have HN := Lib.hid (NT.out hl0)
        have hne : ((lnk es t : Int) == 0) = false := by rw [beq_eq_false_iff_ne]; omega
        clear hl0
        go_wp2
        go_roundw
        case rel => exact ⟨t + 1, by omega, by omega, by go_num, by rw [HN.out]; exact hown2, HBX2.out, HB2.out, Lib.hid hzr2⟩
        case measure => simp [intOf]; omega
    · obtain rfl : t = es.length := by omega
      have HB := Lib.hid hb
      clear hb hbx
      go_wp2
      go_ret
      exact ⟨_, rfl, hown.mono (by omega), HB.out⟩
theorem OwnI.slO4 {w : World} {B : Nat} {v : Value} {l : List Int} (h : OwnI w B v l) : ∃ a c, v = .slice a l.length c ∧ l.length ≤ c ∧ SlO w B a l := by
  obtain ⟨h1, h2⟩ := h
  rcases h2 with ⟨rfl, hl⟩ | ⟨g, cap, cur, rfl, hg, hh, hn, hm, hs, ht⟩
  · exact ⟨none, 0, by rw [hl], by rw [hl]; exact Nat.le_refl _, .inl (List.length_eq_zero_iff.1 hl)⟩
  · refine ⟨_, _, rfl, hn, .inr ⟨g, (cur.toList.drop l.length).toArray, rfl, hg, ?_⟩⟩
    rw [hh]
    congr 2
    apply Array.ext'
    simp only [Array.toList_append]
    rw [← ht]
    simp
set_option maxHeartbeats 400000 in
theorem indexN_any (a : Option Addr) (zs : List Int) (d : Nat) (t : Int) (w : World) (hl : zs.length ≤ 1048576) (h : SlA w a zs) :
    Calls Tryz.prog 43 #[.slice a zs.length d, .int .i64 t] w fun e w' => ((e = .returned (.int .i64 (-1)) ∧ t ∉ zs) ∨ ∃ k : Nat, e = .returned (.int .i64 (k : Int)) ∧ zs[k]? = some t) ∧ w = w' := by
  have H := Lib.hid h; clear h
  go_enter Tryz.func43, Tryz.ntmps43
  go_wp2
  go_loop [8] (fun i => ∃ k : Nat, k ≤ zs.length ∧ i = .int .i64 k ∧ Hid (t ∉ zs.take k)) (fun i => zs.length - (intOf i).toNat)
  case atStart => exact ⟨0, Nat.zero_le _, rfl, Lib.hid (by simp)⟩
  case round =>
    obtain ⟨k, hk, rfl, hn⟩ := hrel
    by_cases hlt : k < zs.length
    · obtain ⟨x, hx⟩ := getOf hlt
      obtain ⟨b, off, rfl, hcx⟩ := H.out.cell hx
      have HX := Lib.hid hx; clear hx
      by_cases hxt : x = t
      · subst hxt
        go_wp2
        go_ret
        exact ⟨.inr ⟨k, rfl, HX.out⟩, rfl⟩
      · have he : (x == t) = false := by simpa using hxt
        have he2 : (t == x) = false := by simpa using fun h => hxt h.symm
        have HT := Lib.hid hxt
        clear hxt
        go_wp2
        go_round
        case rel => exact ⟨k + 1, by omega, by go_num, Lib.hid (by
          rw [List.take_add_one, HX.out]
          intro hm
          rcases List.mem_append.1 hm with h | h
          · exact hn.out h
          · simp at h
            exact HT.out h.symm)⟩
        case measure => simp [intOf]; omega
    · obtain rfl : k = zs.length := by omega
      clear H
      go_wp2
      go_ret
      exact ⟨.inl ⟨rfl, by have := hn.out; rwa [List.take_length] at this⟩, rfl⟩
/-- A list of blocks, maybe a part of a longer one, and a code. -/
def GbRes (l : List Int) (code : Int) (w : World) (e : Ending) (w' : World) : Prop :=
  ∃ a cap, e = .returned (.tuple #[.slice a l.length cap, .int .i64 code]) ∧ SlOP w' w.heap.size a l ∧ Below w.heap.size w w'
set_option maxHeartbeats 8000000 in
theorem goneBlk_any (l2 l3 : Int) (p : Nat) (a : Option Addr) (c : Nat) (es : List StringV) (r : ChainEntryV) (hr0 : 0 ≤ r.f2) (hr1 : r.f2 ≤ 65535) (w : World) (h : CD w p a c es) (hsl : SlS rowString w a es) (hd : diskB es = true) :
    Calls Tryz.prog 27 #[.agg #[.int .i64 (es.length : Int), .int .i64 (len0 es : Int), .int .i64 l2, .int .i64 l3, .int .i64 (chD es : Int), .pointer (some ⟨p, 0, none⟩)], .agg #[.string r.f0, .int .i64 r.f1, .int .i64 r.f2, .bool r.f3, .bool r.f4]] w (GbRes (gbLs (fre es) r.f1 (ndK es r)) (gbCd (fre es) r.f1 (ndK es r)) w) := by
  unfold GbRes
  obtain ⟨⟨hn8, hn128⟩, _, hz⟩ := diskB_facts hd
  obtain ⟨q, hq⟩ : ∃ q : Nat, r.f2 = q := ⟨r.f2.toNat, by omega⟩
  have BF := Lib.hid (fun w => blocksFor_any q (len0 es) w (by omega) (by omega) (by omega))
  have FR := Lib.hid (fun w1 (hb : Below w.heap.size w w1) => freeMO_any (len0 es : Int) l2 l3 p a c es w1 (h.below hb h.1) (hsl.below hb (Nat.le_refl _)) hd)
  have hnd : ndK es r = (q + len0 es - 1) / len0 es := by unfold ndK; rw [hq]; rfl
  have HA := Lib.hid (frL_asc es (chD es) es.length)
  have hfl := frL_len es (chD es) es.length
  unfold fre
  rw [hnd]
  generalize frL es (chD es) es.length = fl at *
  have hnn : (q + len0 es - 1) / len0 es ≤ 70000 := Nat.le_trans (Nat.div_le_self _ _) (by omega)
  generalize (q + len0 es - 1) / len0 es = n at *
  obtain ⟨r0, r1, r2, r3, r4⟩ := r
  dsimp only at hq hr0 hr1 ⊢
  subst hq
  generalize len0 es = z at *
  generalize (es.length : Int) = l0 at *
  generalize ((chD es : Nat) : Int) = l4 at *
  clear h hsl hd hnd hr0 hr1 hz hn8
  have D0 := Lib.hid (((BoxAt.new w #[.int .i64 l0, .int .i64 (z : Int), .int .i64 l2, .int .i64 l3, .int .i64 l4, .pointer (some ⟨p, 0, none⟩)] 50 _ rfl).alloc (.cells #[.string r0, .int .i64 r1, .int .i64 (q : Int), .bool r3, .bool r4] 45) (by simp)))
  have E0 := Lib.hid (show BoxAt ((w.alloc (.cells #[.int .i64 l0, .int .i64 (z : Int), .int .i64 l2, .int .i64 l3, .int .i64 l4, .pointer (some ⟨p, 0, none⟩)] 50)).alloc (.cells #[.string r0, .int .i64 r1, .int .i64 (q : Int), .bool r3, .bool r4] 45)) (w.heap.size + 1) #[.string r0, .int .i64 r1, .int .i64 (q : Int), .bool r3, .bool r4] from BoxAt.new _ _ _ _ (by simp))
  have F0 := Lib.hid (((Below.refl w.heap.size w).alloc (Nat.le_refl _) (.cells #[.int .i64 l0, .int .i64 (z : Int), .int .i64 l2, .int .i64 l3, .int .i64 l4, .pointer (some ⟨p, 0, none⟩)] 50)).alloc (by simp) (.cells #[.string r0, .int .i64 r1, .int .i64 (q : Int), .bool r3, .bool r4] 45))
  have hz0 : w.heap.size + 1 < ((w.alloc (.cells #[.int .i64 l0, .int .i64 (z : Int), .int .i64 l2, .int .i64 l3, .int .i64 l4, .pointer (some ⟨p, 0, none⟩)] 50)).alloc (.cells #[.string r0, .int .i64 r1, .int .i64 (q : Int), .bool r3, .bool r4] 45)).heap.size := by simp
  go_enter Tryz.func27, Tryz.ntmps27
  go_upto_region 1 with (fail)
  generalize ((w.alloc (.cells #[.int .i64 l0, .int .i64 (z : Int), .int .i64 l2, .int .i64 l3, .int .i64 l4, .pointer (some ⟨p, 0, none⟩)] 50)).alloc (.cells #[.string r0, .int .i64 r1, .int .i64 (q : Int), .bool r3, .bool r4] 45)) = W0 at *
  have x1 := D0.out 1 _ rfl
  have y2 := E0.out 2 _ rfl
  go_wp2_with fail
  refine (BF.out _).mono ?_
  rintro e w1 ⟨rfl, rfl⟩
  by_cases hn0 : n = 0
  · obtain ⟨e1, e2⟩ := gb_zero fl r1
    subst hn0
    clear BF FR HA hfl
    go_wp2
    go_ret2
    exact ⟨none, 0, by rw [e1, e2]; rfl, by rw [e1]; exact .inl rfl, F0.out⟩
  have hne : ((n : Int) == 0) = false := by rw [beq_eq_false_iff_ne]; omega
  have x0 := D0.out 0 _ rfl
  have x2 := D0.out 2 _ rfl
  have x3 := D0.out 3 _ rfl
  have x4 := D0.out 4 _ rfl
  have x5 := D0.out 5 _ rfl
  have HN0 := Lib.hid hn0
  clear hn0
  go_wp2_with fail
  refine (FR.out _ F0.out).mono ?_
  rintro e w2 ⟨v, rfl, hown, hb2⟩
  obtain ⟨a2, c2, rfl, hlc, hso⟩ := hown.slO4
  replace E0 := Lib.hid (E0.out.below hb2 (by omega))
  have HSO := Lib.hid (hso.mono F0.out.size)
  replace F0 := Lib.hid (F0.out.trans (hb2.mono F0.out.size))
  clear hb2 hown hso x0 x1 x2 x3 x4 x5 y2 D0 FR BF hz0
  have y1 := E0.out 1 _ rfl
  have hl1 : fl.length ≤ 1048576 := by omega
  have IX := Lib.hid (indexN_any a2 fl c2 r1 w2 hl1 HSO.out.sl)
  go_wp2_with fail
  refine IX.out.mono ?_
  rintro e w3 ⟨hcase, rfl⟩
  clear y1 E0 IX
  rcases hcase with ⟨rfl, hno⟩ | ⟨k, rfl, hk⟩
  · obtain ⟨e1, e2⟩ := gb_no (gbOk_none HN0.out hno)
    have E12 := Lib.hid (And.intro e1 e2)
    clear e1 e2 hno HSO HA
    go_wp2
    go_ret2
    exact ⟨none, 0, by rw [E12.out.1, E12.out.2]; rfl, by rw [E12.out.1]; exact .inl rfl, F0.out⟩
  · obtain ⟨hok, hdw⟩ := gbOk_at HA.out HN0.out hk
    have hkl : k < fl.length := (List.getElem?_eq_some_iff.1 hk).1
    have e0 : ¬ (k : Int) < 0 := by omega
    by_cases hle : n ≤ fl.length - k
    case neg =>
      rw [decide_eq_false hle] at hok
      have E12 := Lib.hid (gb_no hok)
      have hgt : (fl.length : Int) - (k : Int) < (n : Int) := by omega
      clear hok hdw hk hle HSO HA
      go_wp2
      go_ret2
      exact ⟨none, 0, by rw [E12.out.1, E12.out.2]; rfl, by rw [E12.out.1]; exact .inl rfl, F0.out⟩
    case pos =>
      rw [decide_eq_true hle] at hok
      obtain ⟨e1, e2⟩ := gb_yes hok
      rw [hdw] at e1
      have E12 := Lib.hid (And.intro e1 e2)
      have hgt : ¬ (fl.length : Int) - (k : Int) < (n : Int) := by omega
      obtain ⟨g, rfl⟩ : ∃ g, a2 = some ⟨g, 0, none⟩ := by
        rcases HSO.out with h | ⟨g, rest, e, _⟩
        · rw [h] at hkl; simp at hkl
        · exact ⟨g, e⟩
      have HP := Lib.hid (HSO.out.part k n (by omega))
      have hlen : ((fl.drop k).take n).length = n := by rw [List.length_take, List.length_drop]; omega
      have hkc : k + n ≤ c2 := by omega
      have hkc2 : (k : Int) + (n : Int) ≤ (c2 : Int) := by omega
      have hk0 : (0 : Int) ≤ (k : Int) := by omega
      have hkn : (k : Int) ≤ (k : Int) + (n : Int) := by omega
      have hck : ¬ c2 = k := by have := HN0.out; omega
      have HLN := Lib.hid hlen
      clear hok hdw e1 e2 hk HSO HA hlen
      go_wp2
      go_ret2
      refine ⟨some ⟨g, k, none⟩, c2 - k, ?_, by rw [E12.out.1]; exact HP.out, F0.out⟩
      rw [E12.out.1, E12.out.2, HLN.out]
      show Ending.returned (.tuple #[.slice (some ⟨g, k, none⟩) (k + n - k) (c2 - k), .int .i64 0]) = _
      rw [Nat.add_sub_cancel_left]
def gX (es : List StringV) (b : Int) : ChainEntryV := if gnC es b = 0 then gnR es b else zeroE
theorem gX_yes {es : List StringV} {b : Int} (h : gnC es b = 0) : gX es b = gnR es b := if_pos h
theorem gX_no {es : List StringV} {b : Int} (h : gnC es b ≠ 0) : gX es b = zeroE := if_neg h
theorem gnb_bad {es : List StringV} {b : Int} (h : gnC es b ≠ 0) : gnbC es b = gnC es b ∧ gnbL es b = [] := ⟨if_neg h, if_neg h⟩
theorem gnb_good {es : List StringV} {b : Int} (h : gnC es b = 0) : gnbC es b = gbCd (fre es) (gnR es b).f1 (ndK es (gnR es b)) ∧ gnbL es b = gbLs (fre es) (gnR es b).f1 (ndK es (gnR es b)) := ⟨if_pos h, if_pos h⟩
theorem gnC_in {es : List StringV} {k : Nat} (h0 : chCode es = 0) (h : inB 0 (((es.length / 8 : Nat) : Int) - 1) (k : Int) = true) : gnC es (k : Int) = if goneB es k = true then 0 else 3 := by
  unfold gnC; rw [if_pos h0, if_pos h, Int.toNat_natCast]
theorem gnC_out {es : List StringV} {b : Int} (h0 : chCode es = 0) (h : inB 0 (((es.length / 8 : Nat) : Int) - 1) b = false) : gnC es b = 2 := by
  unfold gnC; rw [if_pos h0, if_neg (by rw [h]; simp)]
theorem gnC_bad {es : List StringV} {b : Int} (h0 : chCode es ≠ 0) : gnC es b = chCode es := by unfold gnC; rw [if_neg h0]
theorem gnR_nat (es : List StringV) (k : Nat) : gnR es (k : Int) = entR (entL es k) := by unfold gnR; rw [Int.toNat_natCast]
theorem gnC_facts {es : List StringV} {b : Int} (h0 : chCode es = 0) (h : gnC es b = 0) : 0 ≤ (gnR es b).f2 ∧ (gnR es b).f2 ≤ 65535 := by
  unfold gnC at h
  rw [if_pos h0] at h
  split at h
  · split at h
    · rename_i hg
      exact entR_bds (goneB_yes hg).1
    · omega
  · omega
set_option maxHeartbeats 8000000 in
theorem goneEntry_out (l0 l1 l2 l3 l4 : Int) (p : Nat) (b : Int) (w : World) (hl : 0 ≤ l2 ∧ l2 ≤ 16) (hb : inB 0 (l2 - 1) b = false) :
    Calls Tryz.prog 23 #[.agg #[.int .i64 l0, .int .i64 l1, .int .i64 l2, .int .i64 l3, .int .i64 l4, .pointer (some ⟨p, 0, none⟩)], .int .i64 b] w fun x w' => x = .returned (.tuple #[.agg #[.string ⟨#[]⟩, .int .i64 0, .int .i64 0, .bool false, .bool false], .int .i64 2]) ∧ Below w.heap.size w w' := by
  have PL := Lib.hid (fun w => isPlace_any b l2 w (by omega) (by omega))
  rw [hb] at PL
  have D0 := Lib.hid (((BoxAt.new w #[.int .i64 l0, .int .i64 l1, .int .i64 l2, .int .i64 l3, .int .i64 l4, .pointer (some ⟨p, 0, none⟩)] 50 _ rfl).alloc (.cells #[.string ⟨#[]⟩, .int .i64 0, .int .i64 0, .bool false, .bool false] 45) (by simp)))
  have R0 := Lib.hid ((BoxF.new (w.alloc (.cells #[.int .i64 l0, .int .i64 l1, .int .i64 l2, .int .i64 l3, .int .i64 l4, .pointer (some ⟨p, 0, none⟩)] 50)) #[.string ⟨#[]⟩, .int .i64 0, .int .i64 0, .bool false, .bool false] 45 _ rfl))
  have F0 := Lib.hid (((Below.refl w.heap.size w).alloc (Nat.le_refl _) (.cells #[.int .i64 l0, .int .i64 l1, .int .i64 l2, .int .i64 l3, .int .i64 l4, .pointer (some ⟨p, 0, none⟩)] 50)).alloc (by simp) (.cells #[.string ⟨#[]⟩, .int .i64 0, .int .i64 0, .bool false, .bool false] 45))
  have hz0 : w.heap.size + 1 < ((w.alloc (.cells #[.int .i64 l0, .int .i64 l1, .int .i64 l2, .int .i64 l3, .int .i64 l4, .pointer (some ⟨p, 0, none⟩)] 50)).alloc (.cells #[.string ⟨#[]⟩, .int .i64 0, .int .i64 0, .bool false, .bool false] 45)).heap.size := by simp
  have R0 : Hid (BoxF ((w.alloc (.cells #[.int .i64 l0, .int .i64 l1, .int .i64 l2, .int .i64 l3, .int .i64 l4, .pointer (some ⟨p, 0, none⟩)] 50)).alloc (.cells #[.string ⟨#[]⟩, .int .i64 0, .int .i64 0, .bool false, .bool false] 45)) (w.heap.size + 1) #[.string ⟨#[]⟩, .int .i64 0, .int .i64 0, .bool false, .bool false]) := by have := R0.out; exact Lib.hid (by simpa using this)
  clear hb hl
  go_enter Tryz.func23, Tryz.ntmps23
  go_upto_region 1 with (fail)
  generalize ((w.alloc (.cells #[.int .i64 l0, .int .i64 l1, .int .i64 l2, .int .i64 l3, .int .i64 l4, .pointer (some ⟨p, 0, none⟩)] 50)).alloc (.cells #[.string ⟨#[]⟩, .int .i64 0, .int .i64 0, .bool false, .bool false] 45)) = W0 at *
  have x2 := D0.out 2 _ rfl
  go_wp2_with fail
  refine (PL.out _).mono ?_
  rintro e w1 ⟨rfl, hb1⟩
  replace R0 := Lib.hid (R0.out.below hb1 hz0)
  replace F0 := Lib.hid (F0.out.trans (hb1.mono F0.out.size))
  clear hb1 x2 D0
  obtain ⟨a0, z0⟩ := R0.out 0 _ rfl
  obtain ⟨a1, z1⟩ := R0.out 1 _ rfl
  obtain ⟨a2, z2⟩ := R0.out 2 _ rfl
  obtain ⟨a3, z3⟩ := R0.out 3 _ rfl
  obtain ⟨a4, z4⟩ := R0.out 4 _ rfl
  go_wp2
  refine bodyPost_ret (v := .tuple #[.agg #[.string ⟨#[]⟩, .int .i64 0, .int .i64 0, .bool false, .bool false], .int .i64 2]) (by simp [results, Tryz.results23, go_sem, a0, a1, a2, a3, a4]) rfl ⟨rfl, ?_⟩
  exact ((((F0.out.setCell (by simp) _).setCell (by simp) _).setCell (by simp) _).setCell (by simp) _).setCell (by simp) _
theorem goneEntry_all (p : Nat) (a : Option Addr) (c : Nat) (es : List StringV) (b : Int) (w : World) (h : CD w p a c es) (hsl : SlS rowString w a es) (h0 : chCode es = 0) :
    Calls Tryz.prog 23 #[.agg #[.int .i64 (es.length : Int), .int .i64 (len0 es : Int), .int .i64 (es.length / 8 : Nat), .int .i64 (chDir es.length (len0 es) : Nat), .int .i64 (chD es : Int), .pointer (some ⟨p, 0, none⟩)], .int .i64 b] w fun x w' => x = .returned (.tuple #[.agg #[.string (gX es b).f0, .int .i64 (gX es b).f1, .int .i64 (gX es b).f2, .bool (gX es b).f3, .bool (gX es b).f4], .int .i64 (gnC es b)]) ∧ Below w.heap.size w w' := by
  obtain ⟨hd, _⟩ := chCode_facts h0
  have hn := (diskB_facts hd).1
  by_cases hin : inB 0 (((es.length / 8 : Nat) : Int) - 1) b = true
  · obtain ⟨hb0, hb1⟩ := inB_iff.1 hin
    obtain ⟨k, rfl⟩ : ∃ k : Nat, b = (k : Int) := ⟨b.toNat, by omega⟩
    have hc := gnC_in h0 hin
    by_cases hg : goneB es k = true
    · rw [if_pos hg] at hc
      rw [gX_yes hc, hc, gnR_nat]
      exact goneEntry_yes _ _ _ p k a c es w h hsl hd (by omega) hg
    · rw [if_neg hg] at hc
      rw [gX_no (by rw [hc]; omega), hc]
      exact goneEntry_no _ _ _ p k a c es w h hsl hd (by omega) (by simpa using hg)
  · have hin' : inB 0 (((es.length / 8 : Nat) : Int) - 1) b = false := by simpa using hin
    have hc := gnC_out h0 hin'
    rw [gX_no (by rw [hc]; omega), hc]
    exact goneEntry_out _ _ _ _ _ p b w (by omega) hin'
set_option maxHeartbeats 8000000 in
theorem goneBlocks_any (a : Option Addr) (c : Nat) (es : List StringV) (b : Int) (hm : es.length ≤ 1048576) (hs : ∀ e ∈ es, e.f0.size ≤ 1048576) (w : World) (h : SlS rowString w a es) :
    Calls Tryz.prog 16 #[.slice a es.length c, .int .i64 b] w (GbRes (gnbL es b) (gnbC es b) w) := by
  have CO := Lib.hid (fun w' (hb : Below w.heap.size w w') => chainsOn_any a c es hm hs w' (h.below hb (Nat.le_refl _)))
  unfold CoRes at CO
  unfold GbRes
  by_cases h0 : chCode es = 0
  case neg =>
    have hg := gnC_bad (b := b) h0
    obtain ⟨e1, e2⟩ := gnb_bad (es := es) (b := b) (by rw [hg]; exact h0)
    rw [e1, e2, hg]
    have hne : (chCode es != 0) = true := by simpa using h0
    generalize chL es = L at *
    generalize chCode es = cc at *
    clear h0 e1 e2 hg h hs
    go_enter Tryz.func16, Tryz.ntmps16
    go_wp2_with fail
    refine (CO.out _ (Below.refl _ _)).mono ?_
    rintro e w1 ⟨p, rfl, hp, _, hb1⟩
    go_wp2
    go_ret2
    exact ⟨none, 0, rfl, .inl rfl, hb1.alloc hb1.size _⟩
  obtain ⟨hd, _⟩ := chCode_facts h0
  have hL : chL es = chLay es.length (len0 es) := by unfold chL; rw [if_pos h0]
  rw [hL, h0] at CO
  unfold chLay at CO
  have hC : chData es.length (len0 es) = chD es := rfl
  rw [hC] at CO
  have GE := Lib.hid (fun p w1 (h1 : CD w1 p a c es) (hb1 : Below w.heap.size w w1) => goneEntry_all p a c es b w1 h1 (h.below hb1 (Nat.le_refl _)) h0)
  have GB := Lib.hid (fun (hg : gnC es b = 0) p w1 (h1 : CD w1 p a c es) (hb1 : Below w.heap.size w w1) => goneBlk_any ((es.length / 8 : Nat) : Int) (chDir es.length (len0 es) : Nat) p a c es (gnR es b) (gnC_facts h0 hg).1 (gnC_facts h0 hg).2 w1 h1 (h.below hb1 (Nat.le_refl _)) hd)
  have BAD := Lib.hid (fun h => gnb_bad (es := es) (b := b) h)
  have GOOD := Lib.hid (fun h => gnb_good (es := es) (b := b) h)
  have XY := Lib.hid (fun h => gX_yes (es := es) (b := b) h)
  have XN := Lib.hid (fun h => gX_no (es := es) (b := b) h)
  clear h0 h hs hL hd hC
  generalize gX es b = x at *
  generalize gnR es b = r at *
  generalize gnC es b = gc at *
  generalize gnbL es b = LL at *
  generalize gnbC es b = CC at *
  unfold GbRes at GB
  generalize gbLs (fre es) r.f1 (ndK es r) = ll at *
  generalize gbCd (fre es) r.f1 (ndK es r) = cc at *
  generalize ((es.length / 8 : Nat) : Int) = l2 at *
  generalize ((chDir es.length (len0 es) : Nat) : Int) = l3 at *
  generalize ((chD es : Nat) : Int) = l4 at *
  generalize (len0 es : Int) = l1 at *
  obtain ⟨l0, hl0⟩ : ∃ l0, (es.length : Int) = l0 := ⟨_, rfl⟩
  rw [hl0] at CO GE GB
  clear hl0
  go_enter Tryz.func16, Tryz.ntmps16
  go_wp2_with fail
  refine (CO.out _ (Below.refl _ _)).mono ?_
  rintro e w1 ⟨p, rfl, hp, hcd, hb1⟩
  go_upto_region 2 with (fail)
  have BA := Lib.hid (show Below w1.heap.size w1 (w1.alloc (.cells #[.int .i64 l0, .int .i64 l1, .int .i64 l2, .int .i64 l3, .int .i64 l4, .pointer (some ⟨p, 0, none⟩)] 50)) from (Below.refl w1.heap.size w1).alloc (Nat.le_refl _) _)
  have BX := Lib.hid (BoxAt.new w1 #[.int .i64 l0, .int .i64 l1, .int .i64 l2, .int .i64 l3, .int .i64 l4, .pointer (some ⟨p, 0, none⟩)] 50 _ rfl)
  have hlt2 : w1.heap.size < (w1.alloc (.cells #[.int .i64 l0, .int .i64 l1, .int .i64 l2, .int .i64 l3, .int .i64 l4, .pointer (some ⟨p, 0, none⟩)] 50)).heap.size := by simp
  have CD1 := Lib.hid (hcd.below BA.out hcd.1)
  have FB := Lib.hid (hb1.trans (BA.out.mono hb1.size))
  clear BA hb1 hcd hp CO
  generalize (w1.alloc (.cells #[.int .i64 l0, .int .i64 l1, .int .i64 l2, .int .i64 l3, .int .i64 l4, .pointer (some ⟨p, 0, none⟩)] 50)) = W at *
  generalize w1.heap.size = gb at *
  have x0 := BX.out 0 _ rfl
  have x1 := BX.out 1 _ rfl
  have x2 := BX.out 2 _ rfl
  have x3 := BX.out 3 _ rfl
  have x4 := BX.out 4 _ rfl
  have x5 := BX.out 5 _ rfl
  go_wp2_with fail
  refine (GE.out p _ CD1.out FB.out).mono ?_
  rintro e w2 ⟨rfl, hb2⟩
  have BX2 := Lib.hid (BX.out.below hb2 hlt2)
  have CD2 := Lib.hid (CD1.out.below hb2 CD1.out.1)
  have FB2 := Lib.hid (FB.out.trans (hb2.mono FB.out.size))
  replace hlt2 := Nat.lt_of_lt_of_le hlt2 hb2.size
  clear hb2 x0 x1 x2 x3 x4 x5 BX CD1 FB GE
  go_upto_region 5 with (fail)
  have BA := Lib.hid (show Below w2.heap.size w2 (w2.alloc (.cells #[.string x.f0, .int .i64 x.f1, .int .i64 x.f2, .bool x.f3, .bool x.f4] 45)) from (Below.refl w2.heap.size w2).alloc (Nat.le_refl _) _)
  have KB := Lib.hid (BoxAt.new w2 #[.string x.f0, .int .i64 x.f1, .int .i64 x.f2, .bool x.f3, .bool x.f4] 45 _ rfl)
  have BX3 := Lib.hid (BX2.out.below BA.out hlt2)
  have CD3 := Lib.hid (CD2.out.below BA.out CD2.out.1)
  have FB3 := Lib.hid (FB2.out.trans (BA.out.mono FB2.out.size))
  clear BA BX2 CD2 FB2 hlt2
  generalize (w2.alloc (.cells #[.string x.f0, .int .i64 x.f1, .int .i64 x.f2, .bool x.f3, .bool x.f4] 45)) = W3 at *
  generalize w2.heap.size = g3 at *
  by_cases hg : gc = 0
  case neg =>
    have hne : (gc != 0) = true := by simpa using hg
    obtain ⟨e1, e2⟩ := BAD.out hg
    have E12 := Lib.hid (And.intro e1 e2)
    clear hg e1 e2 BAD GOOD XY XN GB KB BX3
    go_wp2
    go_ret2
    exact ⟨none, 0, by rw [E12.out.1, E12.out.2]; rfl, by rw [E12.out.2]; exact .inl rfl, FB3.out⟩
  case pos =>
    have hx := XY.out hg
    have GB1 := Lib.hid (GB.out hg p _ CD3.out FB3.out)
    obtain ⟨e1, e2⟩ := GOOD.out hg
    have E12 := Lib.hid (And.intro e1 e2)
    subst hg
    subst hx
    clear e1 e2 BAD GOOD XY XN GB
    have x0 := BX3.out 0 _ rfl
    have x1 := BX3.out 1 _ rfl
    have x2 := BX3.out 2 _ rfl
    have x3 := BX3.out 3 _ rfl
    have x4 := BX3.out 4 _ rfl
    have x5 := BX3.out 5 _ rfl
    have k0 := KB.out 0 _ rfl
    have k1 := KB.out 1 _ rfl
    have k2 := KB.out 2 _ rfl
    have k3 := KB.out 3 _ rfl
    have k4 := KB.out 4 _ rfl
    go_wp2_with fail
    refine GB1.out.mono ?_
    rintro e w4 ⟨a4, c4, rfl, hso, hb4⟩
    have HSO := Lib.hid (hso.mono FB3.out.size)
    have FB4 := Lib.hid (FB3.out.trans (hb4.mono FB3.out.size))
    clear hso hb4
    go_wp2
    go_ret2
    exact ⟨a4, c4, by rw [E12.out.1, E12.out.2]; rfl, by rw [E12.out.2]; exact HSO.out, FB4.out⟩
end Go.Proofs.YtpdodpnhohmjaaaGreatDoor
