/- spec.FreeChains -/
import Derived.Test.YtpdodpnhohmjaaaGreatDoorPkGoneBlocksLinkSp
import Derived.Test.YtpdodpnhohmjaaaGreatDoorPkGoneBlocksFreeVal
import Derived.Test.YtpdodpnhohmjaaaGreatDoorPkGoneBlocksD
namespace Go.Proofs.YtpdodpnhohmjaaaGreatDoor
open Go.RowKit
set_option maxRecDepth 20000
set_option linter.unusedVariables false
set_option linter.unusedSimpArgs false
set_option maxRecDepth 20000
theorem DAt.below {w w' : World} {p g cap B : Nat} {L : ChainLayoutV} {bs : List UInt8} (h : DAt w p g cap L bs) (hb : Below B w w') (hp : p < B) (hg : g < B) : DAt w' p g cap L bs := by
  obtain ⟨h1, cur, h2, h3⟩ := h
  exact ⟨h1.below hb hp, cur, by rw [hb.block g hg]; exact h2, h3⟩
theorem DAt.lt {w : World} {p g cap : Nat} {L : ChainLayoutV} {bs : List UInt8} (h : DAt w p g cap L bs) : p < w.heap.size ∧ g < w.heap.size := by
  obtain ⟨h1, cur, h2, h3⟩ := h
  exact ⟨h1.box.lt (by simp), (Array.getElem?_eq_some_iff.1 h2).1⟩
set_option maxHeartbeats 4000000 in
theorem dFree_any (p g cap : Nat) (es : List StringV) (w : World) (h : DAt w p g cap (chLay es.length (len0 es)) (flatL es)) (hd : diskB es = true) :
    Calls Tryz.prog 40 #[.pointer (some ⟨p, 0, none⟩)] w (SlRes (frL es (chD es) es.length) w) := by
  obtain ⟨hn, _, _⟩ := diskB_facts hd
  obtain ⟨hD, _⟩ := chD_le hd
  have hlt0 := h.lt
  have LK := Lib.hid (fun k (hk : k < es.length) w' (hb : Below w.heap.size w w') => dLink_any p g cap k es w' (h.below hb hlt0.1 hlt0.2) hd hk)
  have X0 := Lib.hid (fun w' (hb : Below w.heap.size w w') => show w'.cell? ⟨p, 0, none⟩ = some (.int .i64 (es.length : Int)) ∧ w'.cell? ⟨p, 4, none⟩ = some (.int .i64 (chD es : Int)) from ⟨((h.below hb hlt0.1 hlt0.2).1 0 _ rfl).1, ((h.below hb hlt0.1 hlt0.2).1 4 _ rfl).1⟩)
  have FY := Lib.hid (fun t ht hl => frL_yes (es := es) (d := chD es) (t := t) ht hl)
  have FN := Lib.hid (fun t ht hl => frL_no (es := es) (d := chD es) (t := t) ht hl)
  have FL := Lib.hid (fun t => frL_len es (chD es) t)
  have F0 := Lib.hid (frL_nil es (chD es))
  clear h hd hlt0
  generalize hdd : chD es = d at *
  clear hdd
  obtain ⟨x0, x4⟩ := X0.out _ ((Below.refl w.heap.size w).alloc (Nat.le_refl _) (.cells #[] 2))
  go_enter Tryz.func40, Tryz.ntmps40
  go_wp2
  clear x0 x4
  go_loopw [3, 4] (fun v i wr => ∃ t : Nat, d ≤ t ∧ t ≤ es.length ∧ i = .int .i64 t ∧ OwnI wr w.heap.size v (frL es d t) ∧ Below w.heap.size w wr) (fun _ i _ => es.length - (intOf i).toNat)
  case atStart => exact ⟨d, Nat.le_refl _, hD, rfl, by rw [F0.out]; exact OwnI.empty w _ (Nat.le_refl _), (Below.refl _ _).alloc (Nat.le_refl _) _⟩
  case round =>
    obtain ⟨t, ht1, ht2, rfl, hown, hb⟩ := hrel
    obtain ⟨x0, x4⟩ := X0.out _ hb
    by_cases hlt : t < es.length
    · have LT := Lib.hid (LK.out t hlt)
      have YT := Lib.hid (FY.out t ht1)
      have NT := Lib.hid (FN.out t ht1)
      have hll : (frL es d t).length < 1073741824 := by have := FL.out t; omega
      generalize frL es d t = l at *
      have HB := Lib.hid hb
      clear hb
      go_wp2_with fail
      refine (LT.out _ HB.out).mono ?_
      rintro e w2 ⟨rfl, hb2⟩
      have hz2 := hb2.size
      have hown2 := hown.below' hb2
      have HB2 := Lib.hid (HB.out.trans (hb2.mono HB.out.size))
      have hzw := HB2.out.size
      clear hb2 x0 x4 hown
      by_cases hl0 : lnk es t = 0
      · have HY := Lib.hid (YT.out hl0)
        rw [hl0]
        clear hl0
        go_wp2_with (at_builtin; refine wpList_appendI 24 Tryz.underlying24 rfl _ _ rfl rfl (hown2.alloc _) (t : Int) ⟨w2.heap.size, 0, none⟩ 1 rfl (World.news_of_block (cs := #[.int .i64 (t : Int)]) (t := 2) (fr := (0, 0)) (heap_alloc_new w2 _)) hll (by simp; omega) ?_; intro g5 cap5 w5 hown5 hb5 _)
        have HB5 := Lib.hid (HB2.out.trans (((Below.refl w.heap.size w2).alloc hzw (.cells #[.int .i64 (t : Int)] 2)).trans hb5))
        clear hb5
        go_wp2
        go_roundw
        case rel => exact ⟨t + 1, by omega, by omega, by go_num, by rw [HY.out]; simpa using hown5, HB5.out⟩
        case measure => simp [intOf]; omega
      · have HN := Lib.hid (NT.out hl0)
        have hne : ((lnk es t : Int) == 0) = false := by rw [beq_eq_false_iff_ne]; omega
        clear hl0
        go_wp2
        go_roundw
        case rel => exact ⟨t + 1, by omega, by omega, by go_num, by rw [HN.out]; exact hown2, HB2.out⟩
        case measure => simp [intOf]; omega
    · obtain rfl : t = es.length := by omega
      have HB := Lib.hid hb
      clear hb
      go_wp2
      go_ret
      exact SlRes.of hown HB.out
end Go.Proofs.YtpdodpnhohmjaaaGreatDoor
