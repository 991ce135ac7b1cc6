/- impl.FreeChains -/
import Derived.Test.YthcbekfgkbhpeaaDoorPkChainFromLinkIm
import Derived.Test.YthcbekfgkbhpeaaDoorPkChainFromFreeVal
import Derived.Test.YthcbekfgkbhpeaaDoorPkChainFromSlRes
namespace Go.Proofs.YthcbekfgkbhpeaaDoor
open Go.RowKit
set_option maxRecDepth 20000
set_option linter.unusedVariables false
set_option linter.unusedSimpArgs false
set_option maxRecDepth 20000
set_option maxHeartbeats 4000000 in
theorem freeM_any (l1 l2 l3 : Int) (p : Nat) (a : Option Addr) (c : Nat) (es : List StringV) (w : World) (h : CD w p a c es) (hsl : SlS rowString w a es) (hd : diskB es = true) :
    Calls Tryd.prog 58 #[.agg #[.int .i64 (es.length : Int), .int .i64 l1, .int .i64 l2, .int .i64 l3, .int .i64 (chD es : Int), .pointer (some ⟨p, 0, none⟩)]] w (SlRes (frL es (chD es) es.length) w) := by
  obtain ⟨hn, _, _⟩ := diskB_facts hd
  obtain ⟨hD, _⟩ := chD_le hd
  have LK := Lib.hid (fun k (hk : k < es.length) w' (hb : Below w.heap.size w w') => linkM_any (es.length : Int) l1 l2 l3 (chD es : Int) p k a c es w' (h.below hb h.1) (hsl.below hb (Nat.le_refl _)) hd hk)
  have FY := Lib.hid (fun t ht hl => frL_yes (es := es) (d := chD es) (t := t) ht hl)
  have FN := Lib.hid (fun t ht hl => frL_no (es := es) (d := chD es) (t := t) ht hl)
  have FL := Lib.hid (fun t => frL_len es (chD es) t)
  have F0 := Lib.hid (frL_nil es (chD es))
  clear h hsl hd
  generalize hdd : chD es = d at *
  clear hdd
  go_enter Tryd.func58, Tryd.ntmps58
  have R0 := BoxAt.new w #[.int .i64 (es.length : Int), .int .i64 l1, .int .i64 l2, .int .i64 l3, .int .i64 (d : Int), .pointer (some ⟨p, 0, none⟩)] 73 _ rfl
  have FB0 := (Below.refl w.heap.size w).alloc (Nat.le_refl _) (.cells #[.int .i64 (es.length : Int), .int .i64 l1, .int .i64 l2, .int .i64 l3, .int .i64 (d : Int), .pointer (some ⟨p, 0, none⟩)] 73)
  have hz0 : w.heap.size + 1 ≤ (w.alloc (.cells #[.int .i64 (es.length : Int), .int .i64 l1, .int .i64 l2, .int .i64 l3, .int .i64 (d : Int), .pointer (some ⟨p, 0, none⟩)] 73)).heap.size := by simp
  go_wp2
  go_loopw [3, 4] (fun v i wr => ∃ t : Nat, d ≤ t ∧ t ≤ es.length ∧ i = .int .i64 t ∧ OwnI wr (w.heap.size + 1) v (frL es d t) ∧ BoxAt wr w.heap.size #[.int .i64 (es.length : Int), .int .i64 l1, .int .i64 l2, .int .i64 l3, .int .i64 (d : Int), .pointer (some ⟨p, 0, none⟩)] ∧ Below w.heap.size w wr ∧ Hid (w.heap.size + 1 ≤ wr.heap.size)) (fun _ i _ => es.length - (intOf i).toNat)
  case atStart => exact ⟨d, Nat.le_refl _, hD, rfl, by rw [F0.out]; exact OwnI.nil _ _, R0, FB0, Lib.hid hz0⟩
  case round =>
    obtain ⟨t, ht1, ht2, rfl, hown, hbx, hb, hzr⟩ := hrel
    have x0 := hbx 0 _ rfl
    by_cases hlt : t < es.length
    · have LT := Lib.hid (LK.out t hlt)
      have x1 := hbx 1 _ rfl
      have x2 := hbx 2 _ rfl
      have x3 := hbx 3 _ rfl
      have x4 := hbx 4 _ rfl
      have x5 := hbx 5 _ rfl
      have YT := Lib.hid (FY.out t ht1)
      have NT := Lib.hid (FN.out t ht1)
      have hll : (frL es d t).length < 1073741824 := by have := FL.out t; omega
      generalize frL es d t = l at *
      have HB := Lib.hid hb; have HBX := Lib.hid hbx
      clear hb hbx
      go_wp2_with fail
      refine (LT.out _ HB.out).mono ?_
      rintro e w2 ⟨rfl, hb2⟩
      have hz2 := hb2.size
      have hown2 := hown.below' hb2
      have HBX2 := Lib.hid (HBX.out.below hb2 (by have := hzr.out; omega))
      have HB2 := Lib.hid (HB.out.trans (hb2.mono HB.out.size))
      have hzr2 := Nat.le_trans hzr.out hz2
      clear hb2 x0 x1 x2 x3 x4 x5 hown
      by_cases hl0 : lnk es t = 0
      · have HY := Lib.hid (YT.out hl0)
        rw [hl0]
        clear hl0
        go_wp2_with (at_builtin; refine wpList_appendI 40 Tryd.underlying40 rfl _ _ rfl rfl (hown2.alloc _) (t : Int) ⟨w2.heap.size, 0, none⟩ 1 rfl (World.news_of_block (cs := #[.int .i64 (t : Int)]) (t := 2) (fr := (0, 0)) (heap_alloc_new w2 _)) hll (by simp; omega) ?_; intro g cap w5 hown5 hb5 _)
        have hba := (((Below.refl (w.heap.size + 1) w2).alloc hzr2 (.cells #[.int .i64 (t : Int)] 2)).trans hb5)
        have HBX5 := Lib.hid (HBX2.out.below hba (by omega))
        have HB5 := Lib.hid (HB2.out.trans (hba.mono (by omega)))
        have HZ5 := Lib.hid (Nat.le_trans hzr2 hba.size)
        clear hb5 hba
        go_wp2
        go_roundw
        case rel => exact ⟨t + 1, by omega, by omega, by go_num, by rw [HY.out]; simpa using hown5, HBX5.out, HB5.out, HZ5⟩
        case measure => simp [intOf]; omega
      · have HN := Lib.hid (NT.out hl0)
        have hne : ((lnk es t : Int) == 0) = false := by rw [beq_eq_false_iff_ne]; omega
        clear hl0
        go_wp2
        go_roundw
        case rel => exact ⟨t + 1, by omega, by omega, by go_num, by rw [HN.out]; exact hown2, HBX2.out, HB2.out, Lib.hid hzr2⟩
        case measure => simp [intOf]; omega
    · obtain rfl : t = es.length := by omega
      have HB := Lib.hid hb
      clear hb hbx
      go_wp2
      go_ret
      exact SlRes.of (hown.mono (by omega)) HB.out
set_option maxHeartbeats 4000000 in
theorem freeChains_any (a : Option Addr) (c : Nat) (es : List StringV) (hm : es.length ≤ 1048576) (hs : ∀ e ∈ es, e.f0.size ≤ 1048576) (w : World) (h : SlS rowString w a es) :
    Calls Tryd.prog 29 #[.slice a es.length c] w (IntsRes2 (freeL es) (chCode es) w) := by
  have CO := Lib.hid (fun w' (hb : Below w.heap.size w w') => chainsOn_any a c es hm hs w' (h.below hb (Nat.le_refl _)))
  unfold CoRes at CO
  unfold IntsRes2
  by_cases h0 : chCode es = 0
  case neg =>
    have hL : freeL es = [] := by unfold freeL; rw [if_neg h0]
    have hne : (chCode es != 0) = true := by simpa using h0
    rw [hL]
    generalize chL es = L at *
    generalize chCode es = cc at *
    clear h0 hL h hs
    go_enter Tryd.func29, Tryd.ntmps29
    go_wp2_with fail
    refine (CO.out _ (Below.refl _ _)).mono ?_
    rintro e w1 ⟨p, rfl, hp, _, hb1⟩
    go_wp2
    go_ret2
    exact ⟨none, 0, rfl, .inl rfl, hb1.alloc hb1.size _⟩
  obtain ⟨hd, _⟩ := chCode_facts h0
  have hL : chL es = chLay es.length (len0 es) := by unfold chL; rw [if_pos h0]
  have hF : freeL es = frL es (chD es) es.length := by unfold freeL; rw [if_pos h0]
  rw [hL, h0] at CO
  rw [hF, h0]
  unfold chLay at CO
  have hC : chData es.length (len0 es) = chD es := rfl
  rw [hC] at CO
  have LK := Lib.hid (fun l1 l2 l3 p w1 (h1 : CD w1 p a c es) (hb1 : Below w.heap.size w w1) => freeM_any l1 l2 l3 p a c es w1 h1 (h.below hb1 (Nat.le_refl _)) hd)
  clear h0 h hs hL hd hF hC
  generalize frL es (chD es) es.length = fl at *
  go_enter Tryd.func29, Tryd.ntmps29
  go_wp2_with fail
  refine (CO.out _ (Below.refl _ _)).mono ?_
  rintro e w1 ⟨p, rfl, hp, hcd, hb1⟩
  generalize ((es.length / 8 : Nat) : Int) = l2 at *
  generalize (chDir es.length (len0 es) : Int) = l3 at *
  generalize (len0 es : Int) = l1 at *
  have FB := Lib.hid hb1; clear hb1
  have CD1 := Lib.hid hcd; clear hcd
  go_wp2_with fail
  have CD2 := CD1.out.below ((Below.refl w1.heap.size w1).alloc (Nat.le_refl _) (.cells #[.int .i64 (es.length : Int), .int .i64 l1, .int .i64 l2, .int .i64 l3, .int .i64 (chD es : Int), .pointer (some ⟨p, 0, none⟩)] 73)) CD1.out.1
  have FA := FB.out.alloc FB.out.size (.cells #[.int .i64 (es.length : Int), .int .i64 l1, .int .i64 l2, .int .i64 l3, .int .i64 (chD es : Int), .pointer (some ⟨p, 0, none⟩)] 73)
  refine (LK.out _ _ _ p _ CD2 FA).mono ?_
  rintro e w3 ⟨ad, cap, rfl, hso, hb3⟩
  have FB3 := Lib.hid (FA.trans (hb3.mono FA.size))
  have HSO := Lib.hid (hso.mono FA.size)
  clear hb3 hso CD2 FA
  go_wp2
  go_ret2
  exact ⟨ad, cap, rfl, HSO.out, FB3.out⟩
end Go.Proofs.YthcbekfgkbhpeaaDoor
