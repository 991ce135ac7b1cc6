/- impl.ChainFrom -/
import Derived.Test.YthcbekfgkbhpeaaDoorPkChainFromFreeIm
import Derived.Test.YthcbekfgkbhpeaaDoorPkChainFromChnVal
namespace Go.Proofs.YthcbekfgkbhpeaaDoor
open Go.RowKit
set_option maxRecDepth 20000
set_option linter.unusedVariables false
set_option linter.unusedSimpArgs false
set_option maxRecDepth 20000
set_option maxHeartbeats 1000000 in
theorem isDataM_any (n d : Nat) (l1 l2 l3 b : Int) (w : World) (hn : n ≤ 1000) :
    Calls Tryd.prog 73 #[.agg #[.int .i64 (n : Int), .int .i64 l1, .int .i64 l2, .int .i64 l3, .int .i64 (d : Int)], .int .i64 b] w fun e w' => e = .returned (.bool (inB d ((n : Int) - 1) b)) ∧ Below w.heap.size w w' := by
  have WI := Lib.hid (fun w T g hb => within_r (d : Int) ((n : Int) - 1) b w T g hb)
  go_enter Tryd.func73, Tryd.ntmps73
  go_wp2_with fail
  refine (WI.out _ _ _ (by simp)).mono ?_
  rintro e w1 ⟨rfl, hb1⟩
  have FB := Lib.hid (show Below w.heap.size w w1 from Below.trans (by go_grown) (hb1.mono (by simp)))
  clear hb1
  go_wp2
  go_ret
  exact ⟨rfl, FB.out⟩
set_option maxHeartbeats 8000000 in
theorem chainM_any (l1 l2 l3 : Int) (p : Nat) (first : Int) (a : Option Addr) (c : Nat) (es : List StringV) (w : World) (h : CD w p a c es) (hsl : SlS rowString w a es) (hd : diskB es = true) :
    Calls Tryd.prog 56 #[.agg #[.int .i64 (es.length : Int), .int .i64 l1, .int .i64 l2, .int .i64 l3, .int .i64 (chD es : Int), .pointer (some ⟨p, 0, none⟩)], .int .i64 first] w (IntsRes2 (if first = 0 then ([], 0) else chWalk es 129 [] first).1 (if first = 0 then ([], 0) else chWalk es 129 [] first).2 w) := by
  unfold IntsRes2
  obtain ⟨hn, _, _⟩ := diskB_facts hd
  obtain ⟨hD, hD2⟩ := chD_le hd
  by_cases hf : first = 0
  · subst hf
    simp only [if_true]
    clear h hsl hd hn hD hD2
    go_enter Tryd.func56, Tryd.ntmps56
    go_wp2
    go_ret2
    exact ⟨none, 0, rfl, .inl rfl, by go_grown⟩
  rw [if_neg hf]
  have hf0 : (first == 0) = false := by simpa using hf
  have LK := Lib.hid (fun k (hk : k < es.length) w' (hb : Below w.heap.size w w') => linkM_any (es.length : Int) l1 l2 l3 (chD es : Int) p k a c es w' (h.below hb h.1) (hsl.below hb (Nat.le_refl _)) hd hk)
  have IS := Lib.hid (fun b w => isDataM_any es.length (chD es) l1 l2 l3 b w (by omega))
  have ST := Lib.hid (show ∀ n l b, chWalk es (n + 1) l b = match chStep es l b with | .stop c => ([], c) | .over b => (l ++ [b], 0) | .go b => chWalk es n (l ++ [b]) (lnk es b.toNat : Int) from fun n l b => rfl)
  have SS := Lib.hid (show ∀ l b, chStep es l b = if inB (chD es) ((es.length : Int) - 1) b = true then (if hasB l b = true then .stop 6 else if lnk es b.toNat = 255 then .over b else if lnk es b.toNat = 0 ∨ lnk es b.toNat = 253 ∨ lnk es b.toNat = 254 then .stop 10 else .go b) else .stop 2 from fun l b => rfl)
  clear h hsl hd hf
  obtain ⟨T, hT⟩ : ∃ T, chWalk es 129 [] first = T := ⟨_, rfl⟩
  rw [hT]
  have HT := Lib.hid hT.symm
  clear hT
  generalize chD es = d at *
  go_enter Tryd.func56, Tryd.ntmps56
  have R0 := BoxAt.new w #[.int .i64 (es.length : Int), .int .i64 l1, .int .i64 l2, .int .i64 l3, .int .i64 (d : Int), .pointer (some ⟨p, 0, none⟩)] 73 _ rfl
  have FB0 := (Below.refl w.heap.size w).alloc (Nat.le_refl _) (.cells #[.int .i64 (es.length : Int), .int .i64 l1, .int .i64 l2, .int .i64 l3, .int .i64 (d : Int), .pointer (some ⟨p, 0, none⟩)] 73)
  have hz0 : w.heap.size + 1 ≤ (w.alloc (.cells #[.int .i64 (es.length : Int), .int .i64 l1, .int .i64 l2, .int .i64 l3, .int .i64 (d : Int), .pointer (some ⟨p, 0, none⟩)] 73)).heap.size := by simp
  go_wp2
  go_loopw [6, 7] (fun v i wr => ∃ (l : List Int) (b : Int), i = .int .i64 b ∧ Hid (T = chWalk es (129 - l.length) l b) ∧ Hid (l.Nodup ∧ ∀ x ∈ l, 0 ≤ x ∧ x < 128) ∧ l.length ≤ 128 ∧ OwnI wr (w.heap.size + 1) v l ∧ BoxAt wr w.heap.size #[.int .i64 (es.length : Int), .int .i64 l1, .int .i64 l2, .int .i64 l3, .int .i64 (d : Int), .pointer (some ⟨p, 0, none⟩)] ∧ Below w.heap.size w wr ∧ Hid (w.heap.size + 1 ≤ wr.heap.size)) (fun v _ _ => match v with | .slice _ k _ => 200 - k | _ => 0)
  case atStart => exact ⟨[], first, rfl, HT, Lib.hid ⟨List.nodup_nil, fun x hx => by simp at hx⟩, by simp, OwnI.nil _ _, R0, FB0, Lib.hid hz0⟩
  case round =>
    obtain ⟨l, b, rfl, hW, hN, hl, hown, hbx, hb, hzr⟩ := hrel
    obtain ⟨av, cv, rfl, hsl⟩ := hown.slO
    have x0 := hbx 0 _ rfl
    have x1 := hbx 1 _ rfl
    have x2 := hbx 2 _ rfl
    have x3 := hbx 3 _ rfl
    have x4 := hbx 4 _ rfl
    have hfu : 129 - l.length = (128 - l.length) + 1 := by omega
    rw [hfu, ST.out, SS.out] at hW
    have HB := Lib.hid hb; have HBX := Lib.hid hbx
    clear hb hbx hfu
    by_cases hin : inB d ((es.length : Int) - 1) b = true
    case neg =>
      have hin0 : inB d ((es.length : Int) - 1) b = false := by simpa using hin
      rw [if_neg hin] at hW
      have I1 := Lib.hid (fun w => IS.out b w)
      rw [hin0] at I1
      clear hin hin0
      go_wp2_with fail
      refine (I1.out _).mono ?_
      rintro e w2 ⟨rfl, hb2⟩
      have HB2 := Lib.hid (HB.out.trans (hb2.mono HB.out.size))
      clear hb2 x0 x1 x2 x3 x4
      go_wp2
      go_ret2
      exact ⟨none, 0, by rw [hW.out]; rfl, by rw [hW.out]; exact .inl rfl, HB2.out⟩
    rw [if_pos hin] at hW
    have I1 := Lib.hid (fun w => IS.out b w)
    rw [hin] at I1
    have hbb := inB_iff.1 hin
    obtain ⟨k, rfl⟩ : ∃ k : Nat, b = (k : Int) := ⟨b.toNat, by omega⟩
    have hk : k < es.length := by omega
    have hk0 : 2 ≤ k := by omega
    have LT := Lib.hid (LK.out k hk)
    rw [Int.toNat_natCast] at hW
    have hl2 : l.length ≤ 1048576 := by omega
    go_wp2_with fail
    refine (I1.out _).mono ?_
    rintro e w2 ⟨rfl, hb2⟩
    have hz2 := hb2.size
    have hown2 := hown.below' hb2
    have hsl2 := Lib.hid (hsl.below hb2 (Nat.le_refl _)).sl
    have HBX2 := Lib.hid (HBX.out.below hb2 (by have := hzr.out; omega))
    have HB2 := Lib.hid (HB.out.trans (hb2.mono HB.out.size))
    have hzr2 := Nat.le_trans hzr.out hz2
    clear hb2 x0 x1 x2 x3 x4 hown hsl hin hbb I1
    have CT := Lib.hid (containsI_any av l cv (k : Int) w2 hl2 hsl2.out)
    by_cases hh : hasB l (k : Int) = true
    case pos =>
      rw [if_pos hh] at hW
      rw [hh] at CT
      clear hh
      go_wp2_with fail
      refine CT.out.mono ?_
      rintro e w3 ⟨rfl, rfl⟩
      go_wp2
      go_ret2
      exact ⟨none, 0, by rw [hW.out]; rfl, by rw [hW.out]; exact .inl rfl, HB2.out⟩
    have hh0 : hasB l (k : Int) = false := by simpa using hh
    rw [if_neg hh] at hW
    rw [hh0] at CT
    have hnm : (k : Int) ∉ l := by unfold hasB at hh0; simpa using hh0
    have hll : l.length < 1073741824 := by omega
    clear hh hh0
    go_wp2_with fail
    refine CT.out.mono ?_
    rintro e w3 ⟨rfl, rfl⟩
    go_wp2_with (at_builtin; refine wpList_appendI 40 Tryd.underlying40 rfl _ _ rfl rfl (hown2.alloc _) (k : Int) ⟨w2.heap.size, 0, none⟩ 1 rfl (World.news_of_block (cs := #[.int .i64 (k : Int)]) (t := 2) (fr := (0, 0)) (heap_alloc_new w2 _)) hll (by simp; omega) ?_; intro g5 cap5 w5 hown5 hb5 _; have hba := (((Below.refl (w.heap.size + 1) w2).alloc hzr2 (.cells #[.int .i64 (k : Int)] 2)).trans hb5); have HBX5 := Lib.hid (HBX2.out.below hba (by omega)); have HB5 := Lib.hid (HB2.out.trans (hba.mono (by omega))); have hzr5 := Nat.le_trans hzr2 hba.size; clear hb5 hba; have x0 := HBX5.out 0 _ rfl; have x1 := HBX5.out 1 _ rfl; have x2 := HBX5.out 2 _ rfl; have x3 := HBX5.out 3 _ rfl; have x4 := HBX5.out 4 _ rfl; have x5 := HBX5.out 5 _ rfl)
    refine (LT.out _ HB5.out).mono ?_
    rintro e w6 ⟨rfl, hb6⟩
    have hz6 := hb6.size
    have hown6 := hown5.below' hb6
    have HBX6 := Lib.hid (HBX5.out.below hb6 (by omega))
    have HB6 := Lib.hid (HB5.out.trans (hb6.mono HB5.out.size))
    have hzr6 := Nat.le_trans hzr5 hz6
    clear hb6 x0 x1 x2 x3 x4 x5 hown5
    have HL1 := Lib.hid (show (l ++ [(k : Int)]).length = l.length + 1 by simp)
    by_cases h255 : lnk es k = 255
    case pos =>
      rw [if_pos h255] at hW
      rw [h255]
      clear h255
      obtain ⟨a6, c6, hv6, hs6⟩ := hown6.slO
      go_wp2
      go_ret2
      refine ⟨a6, c6, ?_, ?_, HB6.out⟩
      · rw [hW.out]
        show Ending.returned (.tuple #[.slice a6 (l.length + 1) c6, .int .i64 0]) = Ending.returned (.tuple #[.slice a6 (l ++ [(k : Int)]).length c6, .int .i64 0])
        rw [HL1.out]
      · rw [hW.out]
        exact hs6.mono (by omega)
    rw [if_neg h255] at hW
    have n255 : ((lnk es k : Int) == 255) = false := by rw [beq_eq_false_iff_ne]; omega
    by_cases hbad : lnk es k = 0 ∨ lnk es k = 253 ∨ lnk es k = 254
    case pos =>
      rw [if_pos hbad] at hW
      clear h255
      rcases hbad with h9 | h9 | h9
      all_goals
        rw [h9]
        clear h9 n255
        go_wp2
        go_ret2
        exact ⟨none, 0, by rw [hW.out]; rfl, by rw [hW.out]; exact .inl rfl, HB6.out⟩
    rw [if_neg hbad] at hW
    have n0 : ((lnk es k : Int) == 0) = false := by rw [beq_eq_false_iff_ne]; omega
    have n253 : ((lnk es k : Int) == 253) = false := by rw [beq_eq_false_iff_ne]; omega
    have n254 : ((lnk es k : Int) == 254) = false := by rw [beq_eq_false_iff_ne]; omega
    clear h255 hbad
    have x0 := HBX6.out 0 _ rfl
    have x1 := HBX6.out 1 _ rfl
    have x2 := HBX6.out 2 _ rfl
    have x3 := HBX6.out 3 _ rfl
    have x4 := HBX6.out 4 _ rfl
    have x5 := HBX6.out 5 _ rfl
    go_wp2_with fail
    refine (LT.out _ HB6.out).mono ?_
    rintro e w7 ⟨rfl, hb7⟩
    have hown7 := hown6.below' hb7
    have HBX7 := Lib.hid (HBX6.out.below hb7 (by omega))
    have HB7 := Lib.hid (HB6.out.trans (hb7.mono HB6.out.size))
    have hzr7 := Nat.le_trans hzr6 hb7.size
    clear hb7 x0 x1 x2 x3 x4 x5 hown6 n0 n253 n254 n255
    go_wp2
    go_roundw
    case rel =>
      have hnd : (l ++ [(k : Int)]).Nodup := List.nodup_append.2 ⟨hN.out.1, List.nodup_cons.2 ⟨by simp, List.nodup_nil⟩, fun x hx y hy => by simp at hy; subst hy; intro e; subst e; exact hnm hx⟩
      have hall : ∀ x ∈ l ++ [(k : Int)], 0 ≤ x ∧ x < 128 := fun x hx => by
        rcases List.mem_append.1 hx with h | h
        · exact hN.out.2 x h
        · simp at h; subst h; omega
      have hle := nodup_le hnd hall
      refine ⟨l ++ [(k : Int)], (lnk es k : Int), rfl, Lib.hid ?_, Lib.hid ⟨hnd, hall⟩, hle, by rw [HL1.out] at *; exact hown7, HBX7.out, HB7.out, Lib.hid hzr7⟩
      rw [HL1.out, hW.out]
      show chWalk es (128 - l.length) (l ++ [(k : Int)]) (lnk es ((k : Int).toNat) : Int) = _
      rw [Int.toNat_natCast]
      congr 1
      omega
    case measure => rw [HL1.out] at *; simp; omega
set_option maxHeartbeats 4000000 in
theorem chainFrom_any (a : Option Addr) (c : Nat) (es : List StringV) (b : Int) (hm : es.length ≤ 1048576) (hs : ∀ e ∈ es, e.f0.size ≤ 1048576) (w : World) (h : SlS rowString w a es) :
    Calls Tryd.prog 24 #[.slice a es.length c, .int .i64 b] w (IntsRes2 (cfL es b) (cfC es b) w) := by
  have CO := Lib.hid (fun w' (hb : Below w.heap.size w w') => chainsOn_any a c es hm hs w' (h.below hb (Nat.le_refl _)))
  unfold CoRes at CO
  unfold IntsRes2
  by_cases h0 : chCode es = 0
  case neg =>
    have hL : cfL es b = [] := by unfold cfL cfP; rw [if_neg h0]
    have hC : cfC es b = chCode es := by unfold cfC cfP; rw [if_neg h0]
    have hne : (chCode es != 0) = true := by simpa using h0
    rw [hL, hC]
    generalize chL es = L at *
    generalize chCode es = cc at *
    clear h0 hL hC h hs
    go_enter Tryd.func24, Tryd.ntmps24
    go_wp2_with fail
    refine (CO.out _ (Below.refl _ _)).mono ?_
    rintro e w1 ⟨p, rfl, hp, _, hb1⟩
    go_wp2
    go_ret2
    exact ⟨none, 0, rfl, .inl rfl, hb1.alloc hb1.size _⟩
  obtain ⟨hd, _⟩ := chCode_facts h0
  have hL : chL es = chLay es.length (len0 es) := by unfold chL; rw [if_pos h0]
  have hF : cfL es b = (if b = 0 then ([], 0) else chWalk es 129 [] b).1 := by unfold cfL cfP; rw [if_pos h0]
  have hF2 : cfC es b = (if b = 0 then ([], 0) else chWalk es 129 [] b).2 := by unfold cfC cfP; rw [if_pos h0]
  rw [hL, h0] at CO
  rw [hF, hF2]
  unfold chLay at CO
  have hC : chData es.length (len0 es) = chD es := rfl
  rw [hC] at CO
  have LK := Lib.hid (fun l1 l2 l3 p w1 (h1 : CD w1 p a c es) (hb1 : Below w.heap.size w w1) => chainM_any l1 l2 l3 p b a c es w1 h1 (h.below hb1 (Nat.le_refl _)) hd)
  unfold IntsRes2 at LK
  clear h0 h hs hL hd hF hF2 hC
  generalize (if b = 0 then (([] : List Int), (0 : Int)) else chWalk es 129 [] b) = T at *
  obtain ⟨fl, fc⟩ := T
  dsimp only at LK ⊢
  go_enter Tryd.func24, Tryd.ntmps24
  go_wp2_with fail
  refine (CO.out _ (Below.refl _ _)).mono ?_
  rintro e w1 ⟨p, rfl, hp, hcd, hb1⟩
  generalize ((es.length / 8 : Nat) : Int) = l2 at *
  generalize (chDir es.length (len0 es) : Int) = l3 at *
  generalize (len0 es : Int) = l1 at *
  have FB := Lib.hid hb1; clear hb1
  have CD1 := Lib.hid hcd; clear hcd
  go_wp2_with fail
  have CD2 := CD1.out.below ((Below.refl w1.heap.size w1).alloc (Nat.le_refl _) (.cells #[.int .i64 (es.length : Int), .int .i64 l1, .int .i64 l2, .int .i64 l3, .int .i64 (chD es : Int), .pointer (some ⟨p, 0, none⟩)] 73)) CD1.out.1
  have FA := FB.out.alloc FB.out.size (.cells #[.int .i64 (es.length : Int), .int .i64 l1, .int .i64 l2, .int .i64 l3, .int .i64 (chD es : Int), .pointer (some ⟨p, 0, none⟩)] 73)
  refine (LK.out _ _ _ p _ CD2 FA).mono ?_
  rintro e w3 ⟨ad, cap, rfl, hso, hb3⟩
  have FB3 := Lib.hid (FA.trans (hb3.mono FA.size))
  have HSO := Lib.hid (hso.mono FA.size)
  clear hb3 hso CD2 FA
  go_wp2
  go_ret2
  exact ⟨ad, cap, rfl, HSO.out, FB3.out⟩
end Go.Proofs.YthcbekfgkbhpeaaDoor
