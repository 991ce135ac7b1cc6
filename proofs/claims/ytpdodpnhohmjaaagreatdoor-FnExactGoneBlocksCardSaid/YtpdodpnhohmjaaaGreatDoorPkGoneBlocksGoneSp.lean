/- spec.GoneChains -/
import Derived.Test.YtpdodpnhohmjaaaGreatDoorPkGoneBlocksDEntAt
import Derived.Test.YtpdodpnhohmjaaaGreatDoorPkGoneBlocksFreeSp
import Derived.Test.YtpdodpnhohmjaaaGreatDoorPkGoneBlocksGoneVal
namespace Go.Proofs.YtpdodpnhohmjaaaGreatDoor
open Go.RowKit
set_option maxRecDepth 20000
set_option linter.unusedVariables false
set_option linter.unusedSimpArgs false
set_option maxRecDepth 20000
set_option maxHeartbeats 8000000 in
theorem specGoneChains_any (a : Option Addr) (c : Nat) (es : List StringV) (hm : es.length ≤ 1048576) (hs : ∀ e ∈ es, e.f0.size ≤ 1048576) (w : World) (h : SlS rowString w a es) :
    Calls Tryz.prog 7 #[.slice a es.length c] w (IntsRes2 (goneL es) (chCode es) w) := by
  have OP := Lib.hid (fun w' (hb : Below w.heap.size w w') => l16Open_any a c es hm hs w' (h.below hb (Nat.le_refl _)))
  unfold OpRes OpYes at OP
  unfold IntsRes2
  by_cases h0 : chCode es = 0
  case neg =>
    have hL : goneL es = [] := by unfold goneL; rw [if_neg h0]
    have hne : (chCode es != 0) = true := by simpa using h0
    have H0 := Lib.hid h0
    rw [hL]
    generalize chCode es = cc at *
    clear h0 hL h hs
    go_enter Tryz.func7, Tryz.ntmps7
    go_wp2_with fail
    refine (OP.out _ (Below.refl _ _)).mono ?_
    rintro e w1 ⟨_, hy, hb1⟩
    obtain rfl := hy H0.out
    clear hy
    go_wp2
    go_ret2
    exact ⟨none, 0, rfl, .inl rfl, hb1⟩
  obtain ⟨hd, _⟩ := chCode_facts h0
  have hF : goneL es = gnL es (es.length / 8) := by unfold goneL; rw [if_pos h0]
  have H0 := Lib.hid h0
  rw [hF, h0]
  have LK := Lib.hid (fun k (hk : k < es.length / 8) p g cap w1 hD => dEntryR_any p g cap k es w1 hD hd hk)
  have BY := Lib.hid (fun t => goneB_yes (es := es) (k := t))
  have BN := Lib.hid (fun t => goneB_no (es := es) (k := t))
  have GY := Lib.hid (fun t => gnL_yes (es := es) (t := t))
  have GN := Lib.hid (fun t => gnL_no (es := es) (t := t))
  have GL := Lib.hid (fun t => gnL_len es t)
  have G0 := Lib.hid (gnL_nil es)
  have hn := (diskB_facts hd).1
  have hN16 : es.length / 8 ≤ 16 := by omega
  clear h0 h hs hd hF hn
  obtain ⟨N, hN⟩ : ∃ N, es.length / 8 = N := ⟨_, rfl⟩
  rw [hN] at LK hN16 ⊢
  have HN8 := Lib.hid hN
  clear hN
  go_enter Tryz.func7, Tryz.ntmps7
  go_wp2_with fail
  refine (OP.out _ (Below.refl _ _)).mono ?_
  rintro e w1 ⟨hy, _, hb1⟩
  obtain ⟨p, g, cap, rfl, hp, hpg, hD⟩ := hy H0.out
  have FB := Lib.hid hb1
  have hw1 := hb1.size
  have hlt0 := hD.lt
  have DK := Lib.hid (fun w' (hb : Below w1.heap.size w1 w') => hD.below hb hlt0.1 hlt0.2)
  have X2 := Lib.hid (fun w' (hb : Below w1.heap.size w1 w') => show w'.cell? ⟨p, 2, none⟩ = some (.int .i64 ((es.length / 8 : Nat) : Int)) from ((DK.out w' hb).1 2 _ rfl).1)
  clear hy hD hb1 hlt0
  rw [HN8.out] at X2
  have x2 := X2.out _ ((Below.refl w1.heap.size w1).alloc (Nat.le_refl _) (.cells #[] 2))
  go_wp2
  clear x2
  go_loopw [6, 7] (fun v i wr => ∃ t : Nat, t ≤ N ∧ i = .int .i64 t ∧ OwnI wr w1.heap.size v (gnL es t) ∧ Below w1.heap.size w1 wr) (fun _ i _ => N - (intOf i).toNat)
  case atStart => exact ⟨0, Nat.zero_le _, rfl, by rw [G0.out]; exact OwnI.empty w1 _ (Nat.le_refl _), (Below.refl _ _).alloc (Nat.le_refl _) _⟩
  case round =>
    obtain ⟨t, ht1, rfl, hown, hb⟩ := hrel
    have x2 := X2.out _ hb
    have hzr := hb.size
    by_cases hlt : t < N
    · have LT := Lib.hid (LK.out t hlt p g cap _ (DK.out _ hb))
      have hll : (gnL es t).length < 1073741824 := by have := GL.out t; omega
      by_cases hg : goneB es t = true
      · have HY := Lib.hid (GY.out t hg)
        obtain ⟨g1, g2⟩ := BY.out t hg
        rw [g1] at LT
        generalize gnL es t = l at *
        have HB := Lib.hid hb
        clear hb hg g1
        generalize entR (entL es t) = r at *
        obtain ⟨r0, r1, r2, r3, r4⟩ := r
        dsimp only at g2 LT
        subst g2
        go_wp2_with fail
        refine LT.out.mono ?_
        rintro e w2 ⟨rfl, hb2⟩
        have hown2 := hown.below' hb2
        have HB2 := Lib.hid (HB.out.trans (hb2.mono hzr))
        have hzr2 := Nat.le_trans hzr hb2.size
        clear hb2 x2 hown HB
        go_upto_region 9 with (fail)
        have BA := Lib.hid (show Below w2.heap.size w2 (w2.alloc (.cells #[.string r0, .int .i64 r1, .int .i64 r2, .bool r3, .bool true] 45)) from (Below.refl w2.heap.size w2).alloc (Nat.le_refl _) _)
        have KB := Lib.hid (BoxAt.new w2 #[.string r0, .int .i64 r1, .int .i64 r2, .bool r3, .bool true] 45 _ rfl)
        have hown3 := hown2.below' BA.out
        have HB3 := Lib.hid (HB2.out.trans (BA.out.mono hzr2))
        have hzr3 := Nat.le_trans hzr2 BA.out.size
        clear BA hown2 HB2
        generalize (w2.alloc (.cells #[.string r0, .int .i64 r1, .int .i64 r2, .bool r3, .bool true] 45)) = W3 at *
        generalize w2.heap.size = g3 at *
        have k4 := KB.out 4 _ rfl
        clear KB
        go_wp2_with (at_builtin; refine wpList_appendI 24 Tryz.underlying24 rfl _ _ rfl rfl (hown3.alloc _) (t : Int) ⟨W3.heap.size, 0, none⟩ 1 rfl (World.news_of_block (cs := #[.int .i64 (t : Int)]) (t := 2) (fr := (0, 0)) (heap_alloc_new W3 _)) hll (by simp; omega) ?_; intro g cap w5 hown5 hb5 _)
        have hba := (((Below.refl w1.heap.size W3).alloc hzr3 (.cells #[.int .i64 (t : Int)] 2)).trans hb5)
        have HB5 := Lib.hid (HB3.out.trans hba)
        clear hb5 hba
        go_wp2
        go_roundw
        case rel => exact ⟨t + 1, by omega, by go_num, by rw [HY.out]; simpa using hown5, HB5.out⟩
        case measure => simp [intOf]; omega
      · have hg' : goneB es t = false := by simpa using hg
        have HN := Lib.hid (GN.out t hg')
        have HC := Lib.hid (BN.out t hg')
        generalize gnL es t = l at *
        have HB := Lib.hid hb
        clear hb hg hg'
        generalize entOk (entL es t) = ok at *
        generalize entR (entL es t) = r at *
        go_wp2_with fail
        refine LT.out.mono ?_
        rintro e w2 ⟨rfl, hb2⟩
        have hown2 := hown.below' hb2
        have HB2 := Lib.hid (HB.out.trans (hb2.mono hzr))
        have hzr2 := Nat.le_trans hzr hb2.size
        clear hb2 x2 hown HB
        go_upto_region 9 with (fail)
        have BA := Lib.hid (show Below w2.heap.size w2 (w2.alloc (.cells #[.string r.f0, .int .i64 r.f1, .int .i64 r.f2, .bool r.f3, .bool r.f4] 45)) from (Below.refl w2.heap.size w2).alloc (Nat.le_refl _) _)
        have KB := Lib.hid (BoxAt.new w2 #[.string r.f0, .int .i64 r.f1, .int .i64 r.f2, .bool r.f3, .bool r.f4] 45 _ rfl)
        have hown3 := hown2.below' BA.out
        have HB3 := Lib.hid (HB2.out.trans (BA.out.mono hzr2))
        have hzr3 := Nat.le_trans hzr2 BA.out.size
        clear BA hown2 HB2
        generalize (w2.alloc (.cells #[.string r.f0, .int .i64 r.f1, .int .i64 r.f2, .bool r.f3, .bool r.f4] 45)) = W3 at *
        generalize w2.heap.size = g3 at *
        have k4 := KB.out 4 _ rfl
        clear KB
        rcases HC.out with h1 | ⟨h1, h2⟩
        · subst h1
          clear HC
          go_wp2
          go_roundw
          case rel => exact ⟨t + 1, by omega, by go_num, by rw [HN.out]; exact hown3, HB3.out⟩
          case measure => simp [intOf]; omega
        · subst h1
          rw [h2] at k4
          clear HC h2
          go_wp2
          go_roundw
          case rel => exact ⟨t + 1, by omega, by go_num, by rw [HN.out]; exact hown3, HB3.out⟩
          case measure => simp [intOf]; omega
    · obtain rfl : t = N := by omega
      have HB := Lib.hid hb
      obtain ⟨ad, cap, rfl, hso⟩ := (hown.mono hw1).slO
      have HSO := Lib.hid hso
      clear hb hso hown
      go_wp2
      go_ret2
      exact ⟨ad, cap, rfl, HSO.out, FB.out.trans (HB.out.mono hw1)⟩
end Go.Proofs.YtpdodpnhohmjaaaGreatDoor
