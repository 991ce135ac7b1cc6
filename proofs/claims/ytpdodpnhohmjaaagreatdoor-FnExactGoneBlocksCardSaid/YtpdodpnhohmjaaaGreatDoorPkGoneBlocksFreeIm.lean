/- impl.FreeChains -/
import Derived.Test.YtpdodpnhohmjaaaGreatDoorPkGoneBlocksLinkIm
import Derived.Test.YtpdodpnhohmjaaaGreatDoorPkGoneBlocksFreeVal
import Derived.Test.YtpdodpnhohmjaaaGreatDoorPkGoneBlocksD
namespace Go.Proofs.YtpdodpnhohmjaaaGreatDoor
open Go.RowKit
set_option maxRecDepth 20000
set_option linter.unusedVariables false
set_option linter.unusedSimpArgs false
set_option maxRecDepth 20000
set_option maxHeartbeats 4000000 in
theorem freeM_any (l1 l2 l3 : Int) (p : Nat) (a : Option Addr) (c : Nat) (es : List StringV) (w : World) (h : CD w p a c es) (hsl : SlS rowString w a es) (hd : diskB es = true) :
    Calls Tryz.prog 42 #[.agg #[.int .i64 (es.length : Int), .int .i64 l1, .int .i64 l2, .int .i64 l3, .int .i64 (chD es : Int), .pointer (some ⟨p, 0, none⟩)]] w (SlRes (frL es (chD es) es.length) w) := by
  obtain ⟨hn, _, _⟩ := diskB_facts hd
  obtain ⟨hD, _⟩ := chD_le hd
  have LK := Lib.hid (fun k (hk : k < es.length) w' (hb : Below w.heap.size w w') => linkM_any (es.length : Int) l1 l2 l3 (chD es : Int) p k a c es w' (h.below hb h.1) (hsl.below hb (Nat.le_refl _)) hd hk)
  have FY := Lib.hid (fun t ht hl => frL_yes (es := es) (d := chD es) (t := t) ht hl)
  have FN := Lib.hid (fun t ht hl => frL_no (es := es) (d := chD es) (t := t) ht hl)
  have FL := Lib.hid (fun t => frL_len es (chD es) t)
  have F0 := Lib.hid (frL_nil es (chD es))
  clear h hsl hd
  generalize hdd : chD es = d at *
  clear hdd
  go_enter Tryz.func42, Tryz.ntmps42
  have R0 := BoxAt.new w #[.int .i64 (es.length : Int), .int .i64 l1, .int .i64 l2, .int .i64 l3, .int .i64 (d : Int), .pointer (some ⟨p, 0, none⟩)] 50 _ rfl
  have FB0 := (Below.refl w.heap.size w).alloc (Nat.le_refl _) (.cells #[.int .i64 (es.length : Int), .int .i64 l1, .int .i64 l2, .int .i64 l3, .int .i64 (d : Int), .pointer (some ⟨p, 0, none⟩)] 50)
  have hz0 : w.heap.size + 1 ≤ (w.alloc (.cells #[.int .i64 (es.length : Int), .int .i64 l1, .int .i64 l2, .int .i64 l3, .int .i64 (d : Int), .pointer (some ⟨p, 0, none⟩)] 50)).heap.size := by simp
  go_wp2
  go_loopw [3, 4] (fun v i wr => ∃ t : Nat, d ≤ t ∧ t ≤ es.length ∧ i = .int .i64 t ∧ OwnI wr (w.heap.size + 1) v (frL es d t) ∧ BoxAt wr w.heap.size #[.int .i64 (es.length : Int), .int .i64 l1, .int .i64 l2, .int .i64 l3, .int .i64 (d : Int), .pointer (some ⟨p, 0, none⟩)] ∧ Below w.heap.size w wr ∧ Hid (w.heap.size + 1 ≤ wr.heap.size)) (fun _ i _ => es.length - (intOf i).toNat)
  case atStart => exact ⟨d, Nat.le_refl _, hD, rfl, by rw [F0.out]; exact OwnI.nil _ _, R0, FB0, Lib.hid hz0⟩
  case round =>
    obtain ⟨t, ht1, ht2, rfl, hown, hbx, hb, hzr⟩ := hrel
    have x0 := hbx 0 _ rfl
    by_cases hlt : t < es.length
    · have LT := Lib.hid (LK.out t hlt)
      have x1 := hbx 1 _ rfl
      have x2 := hbx 2 _ rfl
      have x3 := hbx 3 _ rfl
      have x4 := hbx 4 _ rfl
      have x5 := hbx 5 _ rfl
      have YT := Lib.hid (FY.out t ht1)
      have NT := Lib.hid (FN.out t ht1)
      have hll : (frL es d t).length < 1073741824 := by have := FL.out t; omega
      generalize frL es d t = l at *
      have HB := Lib.hid hb; have HBX := Lib.hid hbx
      clear hb hbx
      go_wp2_with fail
      refine (LT.out _ HB.out).mono ?_
      rintro e w2 ⟨rfl, hb2⟩
      have hz2 := hb2.size
      have hown2 := hown.below' hb2
      have HBX2 := Lib.hid (HBX.out.below hb2 (by have := hzr.out; omega))
      have HB2 := Lib.hid (HB.out.trans (hb2.mono HB.out.size))
      have hzr2 := Nat.le_trans hzr.out hz2
      clear hb2 x0 x1 x2 x3 x4 x5 hown
      by_cases hl0 : lnk es t = 0
      · have HY := Lib.hid (YT.out hl0)
        rw [hl0]
        clear hl0
        go_wp2_with (at_builtin; refine wpList_appendI 24 Tryz.underlying24 rfl _ _ rfl rfl (hown2.alloc _) (t : Int) ⟨w2.heap.size, 0, none⟩ 1 rfl (World.news_of_block (cs := #[.int .i64 (t : Int)]) (t := 2) (fr := (0, 0)) (heap_alloc_new w2 _)) hll (by simp; omega) ?_; intro g cap w5 hown5 hb5 _)
        have hba := (((Below.refl (w.heap.size + 1) w2).alloc hzr2 (.cells #[.int .i64 (t : Int)] 2)).trans hb5)
        have HBX5 := Lib.hid (HBX2.out.below hba (by omega))
        have HB5 := Lib.hid (HB2.out.trans (hba.mono (by omega)))
        have HZ5 := Lib.hid (Nat.le_trans hzr2 hba.size)
        clear hb5 hba
        go_wp2
        go_roundw
        case rel => exact ⟨t + 1, by omega, by omega, by go_num, by rw [HY.out]; simpa using hown5, HBX5.out, HB5.out, HZ5⟩
        case measure => simp [intOf]; omega
      · have HN := Lib.hid (NT.out hl0)
        have hne : ((lnk es t : Int) == 0) = false := by rw [beq_eq_false_iff_ne]; omega
        clear hl0
        go_wp2
        go_roundw
        case rel => exact ⟨t + 1, by omega, by omega, by go_num, by rw [HN.out]; exact hown2, HBX2.out, HB2.out, Lib.hid hzr2⟩
        case measure => simp [intOf]; omega
    · obtain rfl : t = es.length := by omega
      have HB := Lib.hid hb
      clear hb hbx
      go_wp2
      go_ret
      exact SlRes.of (hown.mono (by omega)) HB.out
end Go.Proofs.YtpdodpnhohmjaaaGreatDoor
