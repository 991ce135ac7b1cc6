/- impl.tableOf, links, impl.LinkAt -/
import Derived.Test.YthcbekfgkbhpeaaDoorPkChainFromDiskRd
import Derived.Test.YthcbekfgkbhpeaaDoorPkChainFromLinkVal
namespace Go.Proofs.YthcbekfgkbhpeaaDoor
open Go.RowKit
set_option maxRecDepth 20000
set_option linter.unusedVariables false
set_option linter.unusedSimpArgs false
set_option maxRecDepth 20000
theorem tableOf_any (l0 l1 l2 l3 l4 : Int) (p : Nat) (w : World) :
    Calls Tryd.prog 40 #[.iface 73 (.agg #[.int .i64 l0, .int .i64 l1, .int .i64 l2, .int .i64 l3, .int .i64 l4, .pointer (some ⟨p, 0, none⟩)])] w fun e w' => e = .returned (.agg #[.iface 73 (.agg #[.int .i64 l0, .int .i64 l1, .int .i64 l2, .int .i64 l3, .int .i64 l4, .pointer (some ⟨p, 0, none⟩)]), .int .i64 1]) ∧ Below w.heap.size w w' := by
  go_enter Tryd.func40, Tryd.ntmps40
  go_wp2
  refine bodyPost_ret (v := .agg #[.iface 73 (.agg #[.int .i64 l0, .int .i64 l1, .int .i64 l2, .int .i64 l3, .int .i64 l4, .pointer (some ⟨p, 0, none⟩)]), .int .i64 1]) (by simp [results, Tryd.results40, go_sem]) rfl ⟨rfl, ?_⟩
  go_grown
set_option maxHeartbeats 2000000 in
theorem linkM_any (l0 l1 l2 l3 l4 : Int) (p k : Nat) (a : Option Addr) (c : Nat) (es : List StringV) (w : World) (h : CD w p a c es) (hsl : SlS rowString w a es) (hd : diskB es = true) (hk : k < es.length) :
    Calls Tryd.prog 49 #[.agg #[.int .i64 l0, .int .i64 l1, .int .i64 l2, .int .i64 l3, .int .i64 l4, .pointer (some ⟨p, 0, none⟩)], .int .i64 (k : Int)] w fun x w' => x = .returned (.int .i64 (lnk es k : Int)) ∧ Below w.heap.size w w' := by
  obtain ⟨hn, hall, hz⟩ := diskB_facts hd
  obtain ⟨hb1, hb2, hb3⟩ := lnk_at hd hk
  have TB := Lib.hid (fun w => tableOf_any l0 l1 l2 l3 l4 p w)
  have by1 := fun w' (hb : Below w.heap.size w w') => bytesC_any l0 l1 l2 l3 l4 p 1 k 1 (len0 es) a c es w' (h.below hb h.1) (hsl.below hb (Nat.le_refl _)) hn.2 hall (by omega) (by omega) (by omega) (by omega)
  have hcut : cutL (flatL es) (1 * len0 es + k) 1 = [lnkB es k] := by
    rw [cutL_snoc (n := 0) (x := lnkB es k) (by rw [Nat.one_mul]; exact hb1)]
    rfl
  rw [hcut] at by1
  have hL : (lnk es k : Int) = ((lnkB es k).toNat : Int) := rfl
  rw [hL]
  generalize lnkB es k = x at *
  have BY := Lib.hid by1
  clear by1 hcut hL hb1 hb2 hb3 h hsl hall hz hd
  have hlt := x.toNat_lt
  go_enter Tryd.func49, Tryd.ntmps49
  go_wp2_with fail
  refine (TB.out _).mono ?_
  rintro e w1 ⟨rfl, hb1⟩
  have FB := Lib.hid (show Below w.heap.size w w1 from Below.trans (by go_grown) (hb1.mono (by simp)))
  clear hb1
  go_wp2_with fail
  refine (BY.out _ FB.out).mono ?_
  rintro e w2 ⟨rfl, hb2⟩
  replace FB := Lib.hid (FB.out.trans (hb2.mono FB.out.size))
  clear hb2
  go_wp2
  go_ret
  exact ⟨ret_int (by show wrap64 (x.toNat : Int) = (x.toNat : Int); unfold wrap64; omega), FB.out⟩
set_option maxHeartbeats 4000000 in
theorem linkAt_any (a : Option Addr) (c : Nat) (es : List StringV) (b : Int) (hm : es.length ≤ 1048576) (hs : ∀ e ∈ es, e.f0.size ≤ 1048576) (w : World) (h : SlS rowString w a es) :
    Calls Tryd.prog 20 #[.slice a es.length c, .int .i64 b] w fun e w' => e = .returned (.tuple #[.int .i64 (lkV es b), .int .i64 (lkC es b)]) ∧ Below w.heap.size w w' := by
  have CO := Lib.hid (fun w' (hb : Below w.heap.size w w') => chainsOn_any a c es hm hs w' (h.below hb (Nat.le_refl _)))
  unfold CoRes at CO
  by_cases h0 : chCode es = 0
  case neg =>
    have hC : lkC es b = chCode es := by unfold lkC; rw [if_neg h0]
    have hV : lkV es b = 0 := by unfold lkV; rw [if_neg (by rw [hC]; exact h0)]
    have hne : (chCode es != 0) = true := by simpa using h0
    rw [hC, hV]
    generalize chL es = L at *
    generalize chCode es = cc at *
    clear h0 hC hV h hs
    go_enter Tryd.func20, Tryd.ntmps20
    go_wp2_with fail
    refine (CO.out _ (Below.refl _ _)).mono ?_
    rintro e w1 ⟨p, rfl, hp, _, hb1⟩
    go_wp2
    go_ret2
    exact ⟨rfl, hb1.alloc hb1.size _⟩
  obtain ⟨hd, _⟩ := chCode_facts h0
  have hL : chL es = chLay es.length (len0 es) := by unfold chL; rw [if_pos h0]
  rw [hL, h0] at CO
  unfold chLay at CO
  have hn := (diskB_facts hd).1
  have PL := Lib.hid (fun w => isPlace_any b (es.length : Int) w (by omega) (by omega))
  by_cases hin : inB 0 ((es.length : Int) - 1) b = true
  case neg =>
    have h1 : inB 0 ((es.length : Int) - 1) b = false := by simpa using hin
    have hC : lkC es b = 2 := by unfold lkC; rw [if_pos h0, if_neg hin]
    have hV : lkV es b = 0 := by unfold lkV; rw [if_neg (by omega)]
    rw [h1] at PL
    rw [hC, hV]
    clear h0 hC hV h hs hin h1 hL hd
    go_enter Tryd.func20, Tryd.ntmps20
    go_wp2_with fail
    refine (CO.out _ (Below.refl _ _)).mono ?_
    rintro e w1 ⟨p, rfl, hp, _, hb1⟩
    have FB := Lib.hid hb1; clear hb1
    go_wp2_with fail
    refine (PL.out _).mono ?_
    rintro e w2 ⟨rfl, hb2⟩
    have FB2 := Lib.hid ((FB.out.alloc FB.out.size _).trans (hb2.mono (by have := FB.out.size; simp; omega)))
    clear hb2
    go_wp2
    go_ret2
    exact ⟨rfl, FB2.out⟩
  have hC : lkC es b = 0 := by unfold lkC; rw [if_pos h0, if_pos hin]
  have hV : lkV es b = (lnk es b.toNat : Int) := by unfold lkV; rw [if_pos hC]
  rw [hin] at PL
  have hb := inB_iff.1 hin
  obtain ⟨k, rfl⟩ : ∃ k : Nat, b = (k : Int) := ⟨b.toNat, by omega⟩
  rw [hC, hV, Int.toNat_natCast]
  have LK := Lib.hid (fun l0 l1 l2 l3 l4 p w1 (h1 : CD w1 p a c es) (hb1 : Below w.heap.size w w1) => linkM_any l0 l1 l2 l3 l4 p k a c es w1 h1 (h.below hb1 (Nat.le_refl _)) hd (by omega))
  clear h0 hC hV h hs hin hL hd hb
  generalize (lnk es k : Int) = lk at *
  go_enter Tryd.func20, Tryd.ntmps20
  go_wp2_with fail
  refine (CO.out _ (Below.refl _ _)).mono ?_
  rintro e w1 ⟨p, rfl, hp, hcd, hb1⟩
  generalize ((es.length / 8 : Nat) : Int) = l2 at *
  generalize (chDir es.length (len0 es) : Int) = l3 at *
  generalize (chData es.length (len0 es) : Int) = l4 at *
  generalize (len0 es : Int) = l1 at *
  have FB := Lib.hid hb1; clear hb1
  have CD1 := Lib.hid hcd; clear hcd
  go_wp2_with fail
  have BX := BoxAt.new w1 #[.int .i64 (es.length : Int), .int .i64 l1, .int .i64 l2, .int .i64 l3, .int .i64 l4, .pointer (some ⟨p, 0, none⟩)] 73 _ rfl
  have FA := FB.out.alloc FB.out.size (.cells #[.int .i64 (es.length : Int), .int .i64 l1, .int .i64 l2, .int .i64 l3, .int .i64 l4, .pointer (some ⟨p, 0, none⟩)] 73)
  have hlt : w1.heap.size < (w1.alloc (.cells #[.int .i64 (es.length : Int), .int .i64 l1, .int .i64 l2, .int .i64 l3, .int .i64 l4, .pointer (some ⟨p, 0, none⟩)] 73)).heap.size := by simp
  have CD2 := Lib.hid (CD1.out.below ((Below.refl w1.heap.size w1).alloc (Nat.le_refl _) (.cells #[.int .i64 (es.length : Int), .int .i64 l1, .int .i64 l2, .int .i64 l3, .int .i64 l4, .pointer (some ⟨p, 0, none⟩)] 73)) CD1.out.1)
  generalize w1.alloc (.cells #[.int .i64 (es.length : Int), .int .i64 l1, .int .i64 l2, .int .i64 l3, .int .i64 l4, .pointer (some ⟨p, 0, none⟩)] 73) = W at *
  refine (PL.out _).mono ?_
  rintro e w2 ⟨rfl, hb2⟩
  have BX2 := BX.below hb2 hlt
  have CD3 := Lib.hid (CD2.out.below hb2 CD2.out.1)
  have FB2 := Lib.hid (FA.trans (hb2.mono FA.size))
  have x0 := BX2 0 _ rfl
  have x1 := BX2 1 _ rfl
  have x2 := BX2 2 _ rfl
  have x3 := BX2 3 _ rfl
  have x4 := BX2 4 _ rfl
  have x5 := BX2 5 _ rfl
  clear hb2 BX BX2 FA
  go_wp2_with fail
  refine (LK.out _ _ _ _ _ p _ CD3.out FB2.out).mono ?_
  rintro e w3 ⟨rfl, hb3⟩
  have FB3 := Lib.hid (FB2.out.trans (hb3.mono FB2.out.size))
  clear hb3 x0 x1 x2 x3 x4 x5
  go_wp2
  go_ret2
  exact ⟨rfl, FB3.out⟩
end Go.Proofs.YthcbekfgkbhpeaaDoor
