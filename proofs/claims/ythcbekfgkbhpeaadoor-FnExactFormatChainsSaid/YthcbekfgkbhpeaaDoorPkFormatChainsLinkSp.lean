/- spec: links, spec.LinkAt -/
import Derived.Test.YthcbekfgkbhpeaaDoorPkFormatChainsLinkVal
import Derived.Deep.QuietTactic
namespace Go.Proofs.YthcbekfgkbhpeaaDoor
open Go.RowKit
set_option maxRecDepth 20000
set_option linter.unusedVariables false
set_option linter.unusedSimpArgs false
set_option maxRecDepth 20000
theorem dLink_any (p g cap k : Nat) (es : List StringV) (w : World) (h : DAt w p g cap (chLay es.length (len0 es)) (flatL es)) (hd : diskB es = true) (hk : k < es.length) :
    Calls Tryd.prog 46 #[.pointer (some ⟨p, 0, none⟩), .int .i64 (k : Int)] w fun e w' => e = .returned (.int .i64 (lnk es k : Int)) ∧ Below w.heap.size w w' := by
  obtain ⟨hb1, hb2, hb3⟩ := lnk_at hd hk
  obtain ⟨hn, _, hz⟩ := diskB_facts hd
  obtain ⟨hbx, cur, hg, hrow⟩ := h
  have x1 : w.cell? ⟨p, 1, none⟩ = some (.int .i64 (len0 es : Int)) := (hbx 1 _ rfl).1
  have x5 : w.cell? ⟨p, 5, none⟩ = some (.slice (some ⟨g, 0, none⟩) (flatL es).length cap) := (hbx 5 _ rfl).1
  have hlt : len0 es + k < (flatL es).length := by omega
  have hc := hrow.cell hg (len0 es + k) hlt
  have hx : (flatL es)[len0 es + k] = lnkB es k := by
    rw [List.getElem?_eq_getElem hlt] at hb1
    exact Option.some.inj hb1
  rw [hx] at hc
  have hL : (lnk es k : Int) = ((lnkB es k).toNat : Int) := rfl
  rw [hL]
  have hcap := hrow.2.1
  have hfl : (flatL es).length ≤ 4096 := by rw [hb3]; exact Nat.le_trans (Nat.mul_le_mul hn.2 (show len0 es ≤ 32 by omega)) (by omega)
  have hc2 : w.cell? ⟨g, 0 + (len0 es + k), none⟩ = some (.int .u8 ((lnkB es k).toNat : Int)) := by rw [Nat.zero_add]; exact hc
  have hz3 : len0 es ≤ 32 := by omega
  clear hb1 hb3 hb2 hx hL hbx hrow hg hz hd
  obtain ⟨m, hm⟩ : ∃ m, (flatL es).length = m := ⟨_, rfl⟩
  rw [hm] at x5 hlt hcap hfl
  clear hm
  generalize lnkB es k = x at *
  have hlt2 := x.toNat_lt
  have hw9 : wrap64 (x.toNat : Int) = (x.toNat : Int) := by unfold wrap64; omega
  generalize len0 es = z at *
  have e1 : (z : Int) + (k : Int) < (m : Int) := by omega
  have HB := Lib.hid (Below.refl w.heap.size w)
  go_enter Tryd.func46, Tryd.ntmps46
  go_wp2
  go_quiet (fail)
  go_wp2
  go_ret
  exact ⟨rfl, below_drewN' HB.out _⟩
set_option maxHeartbeats 4000000 in
theorem specLinkAt_any (a : Option Addr) (c : Nat) (es : List StringV) (b : Int) (hm : es.length ≤ 1048576) (hs : ∀ e ∈ es, e.f0.size ≤ 1048576) (w : World) (h : SlS rowString w a es) :
    Calls Tryd.prog 19 #[.slice a es.length c, .int .i64 b] w fun e w' => e = .returned (.tuple #[.int .i64 (lkV es b), .int .i64 (lkC es b)]) ∧ Below w.heap.size w w' := by
  have OP := Lib.hid (fun w' (hb : Below w.heap.size w w') => l16Open_any a c es hm hs w' (h.below hb (Nat.le_refl _)))
  unfold OpRes OpYes at OP
  by_cases h0 : chCode es = 0
  case neg =>
    have hC : lkC es b = chCode es := by unfold lkC; rw [if_neg h0]
    have hV : lkV es b = 0 := by unfold lkV; rw [if_neg (by rw [hC]; exact h0)]
    have hne : (chCode es != 0) = true := by simpa using h0
    have H0 := Lib.hid h0
    rw [hC, hV]
    generalize chCode es = cc at *
    clear h0 hC hV h hs
    go_enter Tryd.func19, Tryd.ntmps19
    go_wp2_with fail
    refine (OP.out _ (Below.refl _ _)).mono ?_
    rintro e w1 ⟨_, hy, hb1⟩
    obtain rfl := hy H0.out
    clear hy
    go_wp2
    go_ret2
    exact ⟨rfl, hb1⟩
  obtain ⟨hd, _⟩ := chCode_facts h0
  have hn := (diskB_facts hd).1
  have IN := Lib.hid (fun w => l00In_any b 0 ((es.length : Int) - 1) w)
  have H0 := Lib.hid h0
  by_cases hin : inB 0 ((es.length : Int) - 1) b = true
  case neg =>
    have h1 : inB 0 ((es.length : Int) - 1) b = false := by simpa using hin
    have hC : lkC es b = 2 := by unfold lkC; rw [if_pos h0, if_neg hin]
    have hV : lkV es b = 0 := by unfold lkV; rw [if_neg (by omega)]
    rw [h1] at IN
    rw [hC, hV]
    clear h0 hC hV h hs hin h1 hd
    go_enter Tryd.func19, Tryd.ntmps19
    go_wp2_with fail
    refine (OP.out _ (Below.refl _ _)).mono ?_
    rintro e w1 ⟨hy, _, hb1⟩
    obtain ⟨p, g, cap, rfl, hp, hpg, hD⟩ := hy H0.out
    have x0 : w1.cell? ⟨p, 0, none⟩ = some (.int .i64 (es.length : Int)) := (hD.1 0 _ rfl).1
    have FB := Lib.hid hb1
    clear hy hD hb1
    go_wp2_with fail
    refine (IN.out _).mono ?_
    rintro e w2 ⟨rfl, rfl⟩
    go_wp2
    go_ret2
    exact ⟨rfl, FB.out⟩
  have hC : lkC es b = 0 := by unfold lkC; rw [if_pos h0, if_pos hin]
  have hV : lkV es b = (lnk es b.toNat : Int) := by unfold lkV; rw [if_pos hC]
  rw [hin] at IN
  have hb := inB_iff.1 hin
  obtain ⟨k, rfl⟩ : ∃ k : Nat, b = (k : Int) := ⟨b.toNat, by omega⟩
  rw [hC, hV, Int.toNat_natCast]
  have LK := Lib.hid (fun p g cap w1 hD => dLink_any p g cap k es w1 hD hd (by omega))
  clear h0 hC hV h hs hin hd hb
  generalize (lnk es k : Int) = lk at *
  go_enter Tryd.func19, Tryd.ntmps19
  go_wp2_with fail
  refine (OP.out _ (Below.refl _ _)).mono ?_
  rintro e w1 ⟨hy, _, hb1⟩
  obtain ⟨p, g, cap, rfl, hp, hpg, hD⟩ := hy H0.out
  have x0 : w1.cell? ⟨p, 0, none⟩ = some (.int .i64 (es.length : Int)) := (hD.1 0 _ rfl).1
  have FB := Lib.hid hb1
  have HD := Lib.hid hD
  clear hy hD hb1
  go_wp2_with fail
  refine (IN.out _).mono ?_
  rintro e w2 ⟨rfl, rfl⟩
  go_wp2_with fail
  refine (LK.out p g cap _ HD.out).mono ?_
  rintro e w3 ⟨rfl, hb3⟩
  have FB3 := Lib.hid (FB.out.trans (hb3.mono FB.out.size))
  clear hb3
  go_wp2
  go_ret2
  exact ⟨rfl, FB3.out⟩
end Go.Proofs.YthcbekfgkbhpeaaDoor
