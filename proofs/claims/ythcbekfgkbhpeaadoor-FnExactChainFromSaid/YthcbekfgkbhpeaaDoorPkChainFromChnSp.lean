/- spec.ChainFrom -/
import Derived.Test.YthcbekfgkbhpeaaDoorPkChainFromFreeSp
import Derived.Test.YthcbekfgkbhpeaaDoorPkChainFromChnVal
namespace Go.Proofs.YthcbekfgkbhpeaaDoor
open Go.RowKit
set_option maxRecDepth 20000
set_option linter.unusedVariables false
set_option linter.unusedSimpArgs false
set_option maxRecDepth 20000
theorem DAt.c04 {w : World} {p g cap n z : Nat} {bs : List UInt8} (h : DAt w p g cap (chLay n z) bs) : w.cell? ⟨p, 0, none⟩ = some (.int .i64 (n : Int)) ∧ w.cell? ⟨p, 4, none⟩ = some (.int .i64 (chData n z : Int)) := ⟨(h.1 0 _ rfl).1, (h.1 4 _ rfl).1⟩
set_option maxHeartbeats 1000000 in
theorem dData_any (p g cap : Nat) (es : List StringV) (b : Int) (w : World) (h : DAt w p g cap (chLay es.length (len0 es)) (flatL es)) (hl : es.length ≤ 1000) :
    Calls Tryd.prog 72 #[.pointer (some ⟨p, 0, none⟩), .int .i64 b] w fun e w' => e = .returned (.bool (inB (chD es) ((es.length : Int) - 1) b)) ∧ Below w.heap.size w w' := by
  have IN := Lib.hid (fun w => l00In_any b (chD es : Int) ((es.length : Int) - 1) w)
  have hlt0 := h.lt
  have X0 := Lib.hid (fun w' (hb : Below w.heap.size w w') => show w'.cell? ⟨p, 0, none⟩ = some (.int .i64 (es.length : Int)) ∧ w'.cell? ⟨p, 4, none⟩ = some (.int .i64 (chD es : Int)) from (h.below hb hlt0.1 hlt0.2).c04)
  clear h hlt0
  generalize chD es = d at *
  obtain ⟨x0, x4⟩ := X0.out _ (Below.refl _ _)
  have HB := Lib.hid (Below.refl w.heap.size w)
  clear X0
  have hw1 : (es.length : Int) - 1 ≤ 1000 := by omega
  go_enter Tryd.func72, Tryd.ntmps72
  go_wp2_with fail
  go_quiet ((go_at_call 45; (with_reducible exact Calls.quiet_of_same ((IN.out _).mono fun _ _ ⟨he, hw⟩ => ⟨he, hw.symm⟩))))
  go_wp2
  go_ret
  exact ⟨rfl, below_drewN' HB.out _⟩
set_option maxHeartbeats 8000000 in
theorem dChain_any (p g cap : Nat) (first : Int) (es : List StringV) (w : World) (h : DAt w p g cap (chLay es.length (len0 es)) (flatL es)) (hd : diskB es = true) :
    Calls Tryd.prog 55 #[.pointer (some ⟨p, 0, none⟩), .int .i64 first] w (IntsRes2 (if first = 0 then ([], 0) else chWalk es 129 [] first).1 (if first = 0 then ([], 0) else chWalk es 129 [] first).2 w) := by
  unfold IntsRes2
  obtain ⟨hn, _, _⟩ := diskB_facts hd
  obtain ⟨hD, hD2⟩ := chD_le hd
  by_cases hf : first = 0
  · subst hf
    simp only [if_true]
    clear h hd hn hD hD2
    go_enter Tryd.func55, Tryd.ntmps55
    go_wp2
    go_ret2
    exact ⟨some ⟨w.heap.size, 0, none⟩, 0, rfl, .inl rfl, by go_grown⟩
  rw [if_neg hf]
  have hf0 : (first == 0) = false := by simpa using hf
  have hlt0 := h.lt
  have LK := Lib.hid (fun k (hk : k < es.length) w' (hb : Below w.heap.size w w') => dLink_any p g cap k es w' (h.below hb hlt0.1 hlt0.2) hd hk)
  have IS := Lib.hid (fun b w' (hb : Below w.heap.size w w') => dData_any p g cap es b w' (h.below hb hlt0.1 hlt0.2) (by omega))
  have ST := Lib.hid (show ∀ n l b, chWalk es (n + 1) l b = match chStep es l b with | .stop c => ([], c) | .over b => (l ++ [b], 0) | .go b => chWalk es n (l ++ [b]) (lnk es b.toNat : Int) from fun n l b => rfl)
  have SS := Lib.hid (show ∀ l b, chStep es l b = if inB (chD es) ((es.length : Int) - 1) b = true then (if hasB l b = true then .stop 6 else if lnk es b.toNat = 255 then .over b else if lnk es b.toNat = 0 ∨ lnk es b.toNat = 253 ∨ lnk es b.toNat = 254 then .stop 10 else .go b) else .stop 2 from fun l b => rfl)
  clear h hd hf hlt0
  obtain ⟨T, hT⟩ : ∃ T, chWalk es 129 [] first = T := ⟨_, rfl⟩
  rw [hT]
  have HT := Lib.hid hT.symm
  clear hT
  generalize chD es = d at *
  go_enter Tryd.func55, Tryd.ntmps55
  go_wp2
  go_loopw [6, 7, 8] (fun v i _ wr => ∃ (l : List Int) (b : Int), i = .int .i64 b ∧ Hid (T = chWalk es (129 - l.length) l b) ∧ Hid (l.Nodup ∧ ∀ x ∈ l, 0 ≤ x ∧ x < 128) ∧ l.length ≤ 128 ∧ OwnI wr w.heap.size v l ∧ Below w.heap.size w wr) (fun v _ _ _ => match v with | .slice _ k _ => 200 - k | _ => 0)
  case atStart => exact ⟨[], first, rfl, HT, Lib.hid ⟨List.nodup_nil, fun x hx => by simp at hx⟩, by simp, OwnI.empty w _ (Nat.le_refl _), (Below.refl _ _).alloc (Nat.le_refl _) _⟩
  case round =>
    obtain ⟨l, b, rfl, hW, hN, hl, hown, hb⟩ := hrel
    obtain ⟨av, cv, rfl, hsl⟩ := hown.slO
    have hfu : 129 - l.length = (128 - l.length) + 1 := by omega
    rw [hfu, ST.out, SS.out] at hW
    have HB := Lib.hid hb
    clear hb hfu
    have I0 := Lib.hid (IS.out b _ HB.out)
    by_cases hin : inB d ((es.length : Int) - 1) b = true
    case neg =>
      have hin0 : inB d ((es.length : Int) - 1) b = false := by simpa using hin
      rw [if_neg hin] at hW
      rw [hin0] at I0
      clear hin hin0
      go_wp2_with fail
      refine I0.out.mono ?_
      rintro e w2 ⟨rfl, hb2⟩
      have HB2 := Lib.hid (HB.out.trans (hb2.mono HB.out.size))
      clear hb2
      go_wp2
      go_ret2
      exact ⟨none, 0, by rw [hW.out]; rfl, by rw [hW.out]; exact .inl rfl, HB2.out⟩
    rw [if_pos hin] at hW
    rw [hin] at I0
    have hbb := inB_iff.1 hin
    obtain ⟨k, rfl⟩ : ∃ k : Nat, b = (k : Int) := ⟨b.toNat, by omega⟩
    have hk : k < es.length := by omega
    have hk0 : 2 ≤ k := by omega
    have LT := Lib.hid (LK.out k hk)
    rw [Int.toNat_natCast] at hW
    have hl2 : l.length ≤ 1048576 := by omega
    go_wp2_with fail
    refine I0.out.mono ?_
    rintro e w2 ⟨rfl, hb2⟩
    have hz2 := hb2.size
    have hown2 := hown.below' hb2
    have hsl2 := Lib.hid (hsl.below hb2 (Nat.le_refl _)).sl
    have HB2 := Lib.hid (HB.out.trans (hb2.mono HB.out.size))
    have hzr2 := HB2.out.size
    clear hb2 hown hsl hin hbb I0
    have CT := Lib.hid (l00Has_any av l cv (k : Int) w2 hl2 hsl2.out)
    by_cases hh : hasB l (k : Int) = true
    case pos =>
      rw [if_pos hh] at hW
      rw [hh] at CT
      clear hh
      go_wp2_with fail
      refine CT.out.mono ?_
      rintro e w3 ⟨rfl, rfl⟩
      go_wp2
      go_ret2
      exact ⟨none, 0, by rw [hW.out]; rfl, by rw [hW.out]; exact .inl rfl, HB2.out⟩
    have hh0 : hasB l (k : Int) = false := by simpa using hh
    rw [if_neg hh] at hW
    rw [hh0] at CT
    have hnm : (k : Int) ∉ l := by unfold hasB at hh0; simpa using hh0
    have hll : l.length < 1073741824 := by omega
    clear hh hh0
    go_wp2_with fail
    refine CT.out.mono ?_
    rintro e w3 ⟨rfl, rfl⟩
    go_wp2_with (at_builtin; refine wpList_appendI 40 Tryd.underlying40 rfl _ _ rfl rfl (hown2.alloc _) (k : Int) ⟨w2.heap.size, 0, none⟩ 1 rfl (World.news_of_block (cs := #[.int .i64 (k : Int)]) (t := 2) (fr := (0, 0)) (heap_alloc_new w2 _)) hll (by simp; omega) ?_; intro g5 cap5 w5 hown5 hb5 _; have HB5 := Lib.hid (HB2.out.trans (((Below.refl w.heap.size w2).alloc hzr2 (.cells #[.int .i64 (k : Int)] 2)).trans hb5)); clear hb5)
    refine (LT.out _ HB5.out).mono ?_
    rintro e w6 ⟨rfl, hb6⟩
    have hz6 := hb6.size
    have hown6 := hown5.below' hb6
    have HB6 := Lib.hid (HB5.out.trans (hb6.mono HB5.out.size))
    clear hb6 hown5
    have HL1 := Lib.hid (show (l ++ [(k : Int)]).length = l.length + 1 by simp)
    by_cases h255 : lnk es k = 255
    case pos =>
      rw [if_pos h255] at hW
      rw [h255]
      clear h255
      obtain ⟨a6, c6, hv6, hs6⟩ := hown6.slO
      go_wp2
      go_ret2
      refine ⟨a6, c6, ?_, ?_, HB6.out⟩
      · rw [hW.out]
        show Ending.returned (.tuple #[.slice a6 (l.length + 1) c6, .int .i64 0]) = Ending.returned (.tuple #[.slice a6 (l ++ [(k : Int)]).length c6, .int .i64 0])
        rw [HL1.out]
      · rw [hW.out]
        exact hs6
    rw [if_neg h255] at hW
    have n255 : ((lnk es k : Int) == 255) = false := by rw [beq_eq_false_iff_ne]; omega
    by_cases hbad : lnk es k = 0 ∨ lnk es k = 253 ∨ lnk es k = 254
    case pos =>
      rw [if_pos hbad] at hW
      clear h255
      rcases hbad with h9 | h9 | h9
      all_goals
        rw [h9]
        clear h9 n255
        go_wp2
        go_ret2
        exact ⟨none, 0, by rw [hW.out]; rfl, by rw [hW.out]; exact .inl rfl, HB6.out⟩
    rw [if_neg hbad] at hW
    have n0 : ((lnk es k : Int) == 0) = false := by rw [beq_eq_false_iff_ne]; omega
    have n253 : ((lnk es k : Int) == 253) = false := by rw [beq_eq_false_iff_ne]; omega
    have n254 : ((lnk es k : Int) == 254) = false := by rw [beq_eq_false_iff_ne]; omega
    clear h255 hbad
    go_wp2
    go_roundw
    case rel =>
      have hnd : (l ++ [(k : Int)]).Nodup := List.nodup_append.2 ⟨hN.out.1, List.nodup_cons.2 ⟨by simp, List.nodup_nil⟩, fun x hx y hy => by simp at hy; subst hy; intro e; subst e; exact hnm hx⟩
      have hall : ∀ x ∈ l ++ [(k : Int)], 0 ≤ x ∧ x < 128 := fun x hx => by
        rcases List.mem_append.1 hx with h | h
        · exact hN.out.2 x h
        · simp at h; subst h; omega
      have hle := nodup_le hnd hall
      refine ⟨l ++ [(k : Int)], (lnk es k : Int), rfl, Lib.hid ?_, Lib.hid ⟨hnd, hall⟩, hle, by rw [HL1.out] at *; exact hown6, HB6.out⟩
      rw [HL1.out, hW.out]
      show chWalk es (128 - l.length) (l ++ [(k : Int)]) (lnk es ((k : Int).toNat) : Int) = _
      rw [Int.toNat_natCast]
      congr 1
      omega
    case measure => rw [HL1.out] at *; simp; omega
set_option maxHeartbeats 4000000 in
theorem specChainFrom_any (a : Option Addr) (c : Nat) (es : List StringV) (b : Int) (hm : es.length ≤ 1048576) (hs : ∀ e ∈ es, e.f0.size ≤ 1048576) (w : World) (h : SlS rowString w a es) :
    Calls Tryd.prog 23 #[.slice a es.length c, .int .i64 b] w (IntsRes2 (cfL es b) (cfC es b) w) := by
  have OP := Lib.hid (fun w' (hb : Below w.heap.size w w') => l16Open_any a c es hm hs w' (h.below hb (Nat.le_refl _)))
  unfold OpRes OpYes at OP
  unfold IntsRes2
  by_cases h0 : chCode es = 0
  case neg =>
    have hL : cfL es b = [] := by unfold cfL cfP; rw [if_neg h0]
    have hC : cfC es b = chCode es := by unfold cfC cfP; rw [if_neg h0]
    have hne : (chCode es != 0) = true := by simpa using h0
    have H0 := Lib.hid h0
    rw [hL, hC]
    generalize chCode es = cc at *
    clear h0 hL hC h hs
    go_enter Tryd.func23, Tryd.ntmps23
    go_wp2_with fail
    refine (OP.out _ (Below.refl _ _)).mono ?_
    rintro e w1 ⟨_, hy, hb1⟩
    obtain rfl := hy H0.out
    clear hy
    go_wp2
    go_ret2
    exact ⟨none, 0, rfl, .inl rfl, hb1⟩
  obtain ⟨hd, _⟩ := chCode_facts h0
  have hF : cfL es b = (if b = 0 then ([], 0) else chWalk es 129 [] b).1 := by unfold cfL cfP; rw [if_pos h0]
  have hF2 : cfC es b = (if b = 0 then ([], 0) else chWalk es 129 [] b).2 := by unfold cfC cfP; rw [if_pos h0]
  have H0 := Lib.hid h0
  rw [hF, hF2]
  have LK := Lib.hid (fun p g cap w1 hD => dChain_any p g cap b es w1 hD hd)
  unfold IntsRes2 at LK
  clear h0 h hs hd hF hF2
  generalize (if b = 0 then (([] : List Int), (0 : Int)) else chWalk es 129 [] b) = T at *
  obtain ⟨fl, fc⟩ := T
  dsimp only at LK ⊢
  go_enter Tryd.func23, Tryd.ntmps23
  go_wp2_with fail
  refine (OP.out _ (Below.refl _ _)).mono ?_
  rintro e w1 ⟨hy, _, hb1⟩
  obtain ⟨p, g, cap, rfl, hp, hpg, hD⟩ := hy H0.out
  have FB := Lib.hid hb1
  have HD := Lib.hid hD
  clear hy hD hb1
  go_wp2_with fail
  refine (LK.out p g cap _ HD.out).mono ?_
  rintro e w3 ⟨ad, cp, rfl, hso, hb3⟩
  have FB3 := Lib.hid (FB.out.trans (hb3.mono FB.out.size))
  have HSO := Lib.hid (hso.mono FB.out.size)
  clear hb3 hso
  go_wp2
  go_ret2
  exact ⟨ad, cp, rfl, HSO.out, FB3.out⟩
end Go.Proofs.YthcbekfgkbhpeaaDoor
