/- impl: the deleted entries of a disk with chains; impl.GoneChains -/
import Derived.Test.YtpdodpnhohmjaaaGreatDoorPkGoneBlocksEntM
import Derived.Test.YtpdodpnhohmjaaaGreatDoorPkGoneBlocksGoneVal
import Derived.Test.YtpdodpnhohmjaaaGreatDoorPkGoneBlocksD
namespace Go.Proofs.YtpdodpnhohmjaaaGreatDoor
open Go.RowKit
set_option maxRecDepth 20000
set_option linter.unusedVariables false
set_option linter.unusedSimpArgs false
set_option maxRecDepth 20000
set_option maxHeartbeats 8000000 in
theorem goneEntry_yes (l0 l1 l4 : Int) (p k : Nat) (a : Option Addr) (c : Nat) (es : List StringV) (w : World) (h : CD w p a c es) (hsl : SlS rowString w a es) (hd : diskB es = true) (hk : k < es.length / 8) (hg : goneB es k = true) :
    Calls Tryz.prog 23 #[.agg #[.int .i64 l0, .int .i64 l1, .int .i64 (es.length / 8 : Nat), .int .i64 (chDir es.length (len0 es) : Nat), .int .i64 l4, .pointer (some ⟨p, 0, none⟩)], .int .i64 (k : Int)] w fun x w' => x = .returned (.tuple #[.agg #[.string (entR (entL es k)).f0, .int .i64 (entR (entL es k)).f1, .int .i64 (entR (entL es k)).f2, .bool (entR (entL es k)).f3, .bool (entR (entL es k)).f4], .int .i64 0]) ∧ Below w.heap.size w w' := by
  obtain ⟨g1, g2⟩ := goneB_yes hg
  have hn := (diskB_facts hd).1
  have LK := Lib.hid (fun w1 (hb1 : Below w.heap.size w w1) => entryM_any l0 l1 (es.length / 8 : Nat) l4 p k a c es w1 (h.below hb1 h.1) (hsl.below hb1 (Nat.le_refl _)) hd hk)
  rw [g1] at LK
  have PL := Lib.hid (fun w => isPlace_any (k : Int) ((es.length / 8 : Nat) : Int) w (by omega) (by omega))
  rw [inB_iff.2 (show (0 : Int) ≤ (k : Int) ∧ (k : Int) ≤ ((es.length / 8 : Nat) : Int) - 1 by omega)] at PL
  generalize entR (entL es k) = r at *
  obtain ⟨r0, r1, r2, r3, r4⟩ := r
  dsimp only at g2 LK ⊢
  subst g2
  generalize ((es.length / 8 : Nat) : Int) = l2 at *
  generalize ((chDir es.length (len0 es) : Nat) : Int) = l3 at *
  have D0 := Lib.hid (((BoxAt.new w #[.int .i64 l0, .int .i64 l1, .int .i64 l2, .int .i64 l3, .int .i64 l4, .pointer (some ⟨p, 0, none⟩)] 50 _ rfl).alloc (.cells #[.string ⟨#[]⟩, .int .i64 0, .int .i64 0, .bool false, .bool false] 45) (by simp)))
  have R0 := Lib.hid ((BoxF.new (w.alloc (.cells #[.int .i64 l0, .int .i64 l1, .int .i64 l2, .int .i64 l3, .int .i64 l4, .pointer (some ⟨p, 0, none⟩)] 50)) #[.string ⟨#[]⟩, .int .i64 0, .int .i64 0, .bool false, .bool false] 45 _ rfl))
  have F0 := Lib.hid (((Below.refl w.heap.size w).alloc (Nat.le_refl _) (.cells #[.int .i64 l0, .int .i64 l1, .int .i64 l2, .int .i64 l3, .int .i64 l4, .pointer (some ⟨p, 0, none⟩)] 50)).alloc (by simp) (.cells #[.string ⟨#[]⟩, .int .i64 0, .int .i64 0, .bool false, .bool false] 45))
  have hz0 : w.heap.size + 1 < ((w.alloc (.cells #[.int .i64 l0, .int .i64 l1, .int .i64 l2, .int .i64 l3, .int .i64 l4, .pointer (some ⟨p, 0, none⟩)] 50)).alloc (.cells #[.string ⟨#[]⟩, .int .i64 0, .int .i64 0, .bool false, .bool false] 45)).heap.size := by simp
  have R0 : Hid (BoxF ((w.alloc (.cells #[.int .i64 l0, .int .i64 l1, .int .i64 l2, .int .i64 l3, .int .i64 l4, .pointer (some ⟨p, 0, none⟩)] 50)).alloc (.cells #[.string ⟨#[]⟩, .int .i64 0, .int .i64 0, .bool false, .bool false] 45)) (w.heap.size + 1) #[.string ⟨#[]⟩, .int .i64 0, .int .i64 0, .bool false, .bool false]) := by have := R0.out; exact Lib.hid (by simpa using this)
  clear h hsl hd hk g1 hg hn
  go_enter Tryz.func23, Tryz.ntmps23
  go_upto_region 1 with (fail)
  generalize ((w.alloc (.cells #[.int .i64 l0, .int .i64 l1, .int .i64 l2, .int .i64 l3, .int .i64 l4, .pointer (some ⟨p, 0, none⟩)] 50)).alloc (.cells #[.string ⟨#[]⟩, .int .i64 0, .int .i64 0, .bool false, .bool false] 45)) = W0 at *
  have x2 := D0.out 2 _ rfl
  go_wp2_with fail
  refine (PL.out _).mono ?_
  rintro e w1 ⟨rfl, hb1⟩
  replace D0 := Lib.hid (D0.out.below hb1 (by omega))
  replace R0 := Lib.hid (R0.out.below hb1 hz0)
  replace F0 := Lib.hid (F0.out.trans (hb1.mono F0.out.size))
  replace hz0 := Nat.lt_of_lt_of_le hz0 hb1.size
  clear hb1 x2
  have x0 := D0.out 0 _ rfl
  have x1 := D0.out 1 _ rfl
  have x2 := D0.out 2 _ rfl
  have x3 := D0.out 3 _ rfl
  have x4 := D0.out 4 _ rfl
  have x5 := D0.out 5 _ rfl
  go_wp2_with fail
  refine (LK.out _ F0.out).mono ?_
  rintro e w2 ⟨rfl, hb2⟩
  replace R0 := Lib.hid (R0.out.below hb2 hz0)
  replace F0 := Lib.hid (F0.out.trans (hb2.mono F0.out.size))
  replace hz0 := Nat.lt_of_lt_of_le hz0 hb2.size
  clear hb2 x0 x1 x2 x3 x4 x5 D0
  go_upto_region 4 with (fail)
  have BA := Lib.hid (show Below w2.heap.size w2 (w2.alloc (.cells #[.string r0, .int .i64 r1, .int .i64 r2, .bool r3, .bool true] 45)) from (Below.refl w2.heap.size w2).alloc (Nat.le_refl _) _)
  have KB := Lib.hid (BoxAt.new w2 #[.string r0, .int .i64 r1, .int .i64 r2, .bool r3, .bool true] 45 _ rfl)
  replace R0 := Lib.hid (R0.out.below BA.out hz0)
  replace F0 := Lib.hid (F0.out.trans (BA.out.mono F0.out.size))
  clear BA hz0
  generalize (w2.alloc (.cells #[.string r0, .int .i64 r1, .int .i64 r2, .bool r3, .bool true] 45)) = W3 at *
  generalize w2.heap.size = g3 at *
  obtain ⟨a0, z0⟩ := R0.out 0 _ rfl
  obtain ⟨a1, z1⟩ := R0.out 1 _ rfl
  obtain ⟨a2, z2⟩ := R0.out 2 _ rfl
  obtain ⟨a3, z3⟩ := R0.out 3 _ rfl
  obtain ⟨a4, z4⟩ := R0.out 4 _ rfl
  have k0 := KB.out 0 _ rfl
  have k1 := KB.out 1 _ rfl
  have k2 := KB.out 2 _ rfl
  have k3 := KB.out 3 _ rfl
  have k4 := KB.out 4 _ rfl
  clear KB
  go_wp2
  refine bodyPost_ret (v := .tuple #[.agg #[.string r0, .int .i64 r1, .int .i64 r2, .bool r3, .bool true], .int .i64 0]) (by simp [results, Tryz.results23, go_sem, a0, a1, a2, a3, a4]) rfl ⟨rfl, ?_⟩
  exact ((((F0.out.setCell (by simp) _).setCell (by simp) _).setCell (by simp) _).setCell (by simp) _).setCell (by simp) _
set_option maxHeartbeats 8000000 in
theorem goneEntry_no (l0 l1 l4 : Int) (p k : Nat) (a : Option Addr) (c : Nat) (es : List StringV) (w : World) (h : CD w p a c es) (hsl : SlS rowString w a es) (hd : diskB es = true) (hk : k < es.length / 8) (hg : goneB es k = false) :
    Calls Tryz.prog 23 #[.agg #[.int .i64 l0, .int .i64 l1, .int .i64 (es.length / 8 : Nat), .int .i64 (chDir es.length (len0 es) : Nat), .int .i64 l4, .pointer (some ⟨p, 0, none⟩)], .int .i64 (k : Int)] w fun x w' => x = .returned (.tuple #[.agg #[.string ⟨#[]⟩, .int .i64 0, .int .i64 0, .bool false, .bool false], .int .i64 3]) ∧ Below w.heap.size w w' := by
  have hn := (diskB_facts hd).1
  have LK := Lib.hid (fun w1 (hb1 : Below w.heap.size w w1) => entryM_any l0 l1 (es.length / 8 : Nat) l4 p k a c es w1 (h.below hb1 h.1) (hsl.below hb1 (Nat.le_refl _)) hd hk)
  have PL := Lib.hid (fun w => isPlace_any (k : Int) ((es.length / 8 : Nat) : Int) w (by omega) (by omega))
  rw [inB_iff.2 (show (0 : Int) ≤ (k : Int) ∧ (k : Int) ≤ ((es.length / 8 : Nat) : Int) - 1 by omega)] at PL
  have hG := goneB_no hg
  generalize entOk (entL es k) = ok at *
  generalize entR (entL es k) = r at *
  generalize ((es.length / 8 : Nat) : Int) = l2 at *
  generalize ((chDir es.length (len0 es) : Nat) : Int) = l3 at *
  have D0 := Lib.hid (((BoxAt.new w #[.int .i64 l0, .int .i64 l1, .int .i64 l2, .int .i64 l3, .int .i64 l4, .pointer (some ⟨p, 0, none⟩)] 50 _ rfl).alloc (.cells #[.string ⟨#[]⟩, .int .i64 0, .int .i64 0, .bool false, .bool false] 45) (by simp)))
  have R0 := Lib.hid ((BoxF.new (w.alloc (.cells #[.int .i64 l0, .int .i64 l1, .int .i64 l2, .int .i64 l3, .int .i64 l4, .pointer (some ⟨p, 0, none⟩)] 50)) #[.string ⟨#[]⟩, .int .i64 0, .int .i64 0, .bool false, .bool false] 45 _ rfl))
  have F0 := Lib.hid (((Below.refl w.heap.size w).alloc (Nat.le_refl _) (.cells #[.int .i64 l0, .int .i64 l1, .int .i64 l2, .int .i64 l3, .int .i64 l4, .pointer (some ⟨p, 0, none⟩)] 50)).alloc (by simp) (.cells #[.string ⟨#[]⟩, .int .i64 0, .int .i64 0, .bool false, .bool false] 45))
  have hz0 : w.heap.size + 1 < ((w.alloc (.cells #[.int .i64 l0, .int .i64 l1, .int .i64 l2, .int .i64 l3, .int .i64 l4, .pointer (some ⟨p, 0, none⟩)] 50)).alloc (.cells #[.string ⟨#[]⟩, .int .i64 0, .int .i64 0, .bool false, .bool false] 45)).heap.size := by simp
  have R0 : Hid (BoxF ((w.alloc (.cells #[.int .i64 l0, .int .i64 l1, .int .i64 l2, .int .i64 l3, .int .i64 l4, .pointer (some ⟨p, 0, none⟩)] 50)).alloc (.cells #[.string ⟨#[]⟩, .int .i64 0, .int .i64 0, .bool false, .bool false] 45)) (w.heap.size + 1) #[.string ⟨#[]⟩, .int .i64 0, .int .i64 0, .bool false, .bool false]) := by have := R0.out; exact Lib.hid (by simpa using this)
  clear h hsl hd hk hg hn
  have HG := Lib.hid hG
  clear hG
  go_enter Tryz.func23, Tryz.ntmps23
  go_upto_region 1 with (fail)
  generalize ((w.alloc (.cells #[.int .i64 l0, .int .i64 l1, .int .i64 l2, .int .i64 l3, .int .i64 l4, .pointer (some ⟨p, 0, none⟩)] 50)).alloc (.cells #[.string ⟨#[]⟩, .int .i64 0, .int .i64 0, .bool false, .bool false] 45)) = W0 at *
  have x2 := D0.out 2 _ rfl
  go_wp2_with fail
  refine (PL.out _).mono ?_
  rintro e w1 ⟨rfl, hb1⟩
  replace D0 := Lib.hid (D0.out.below hb1 (by omega))
  replace R0 := Lib.hid (R0.out.below hb1 hz0)
  replace F0 := Lib.hid (F0.out.trans (hb1.mono F0.out.size))
  replace hz0 := Nat.lt_of_lt_of_le hz0 hb1.size
  clear hb1 x2
  have x0 := D0.out 0 _ rfl
  have x1 := D0.out 1 _ rfl
  have x2 := D0.out 2 _ rfl
  have x3 := D0.out 3 _ rfl
  have x4 := D0.out 4 _ rfl
  have x5 := D0.out 5 _ rfl
  go_wp2_with fail
  refine (LK.out _ F0.out).mono ?_
  rintro e w2 ⟨rfl, hb2⟩
  replace R0 := Lib.hid (R0.out.below hb2 hz0)
  replace F0 := Lib.hid (F0.out.trans (hb2.mono F0.out.size))
  replace hz0 := Nat.lt_of_lt_of_le hz0 hb2.size
  clear hb2 x0 x1 x2 x3 x4 x5 D0
  go_upto_region 4 with (fail)
  have BA := Lib.hid (show Below w2.heap.size w2 (w2.alloc (.cells #[.string r.f0, .int .i64 r.f1, .int .i64 r.f2, .bool r.f3, .bool r.f4] 45)) from (Below.refl w2.heap.size w2).alloc (Nat.le_refl _) _)
  have KB := Lib.hid (BoxAt.new w2 #[.string r.f0, .int .i64 r.f1, .int .i64 r.f2, .bool r.f3, .bool r.f4] 45 _ rfl)
  replace R0 := Lib.hid (R0.out.below BA.out hz0)
  replace F0 := Lib.hid (F0.out.trans (BA.out.mono F0.out.size))
  clear BA hz0
  generalize (w2.alloc (.cells #[.string r.f0, .int .i64 r.f1, .int .i64 r.f2, .bool r.f3, .bool r.f4] 45)) = W3 at *
  generalize w2.heap.size = g3 at *
  obtain ⟨a0, z0⟩ := R0.out 0 _ rfl
  obtain ⟨a1, z1⟩ := R0.out 1 _ rfl
  obtain ⟨a2, z2⟩ := R0.out 2 _ rfl
  obtain ⟨a3, z3⟩ := R0.out 3 _ rfl
  obtain ⟨a4, z4⟩ := R0.out 4 _ rfl
  have k4 := KB.out 4 _ rfl
  clear KB
  rcases HG.out with h1 | ⟨h1, h2⟩
  · subst h1
    clear HG
    go_wp2
    refine bodyPost_ret (v := .tuple #[.agg #[.string ⟨#[]⟩, .int .i64 0, .int .i64 0, .bool false, .bool false], .int .i64 3]) (by simp [results, Tryz.results23, go_sem, a0, a1, a2, a3, a4]) rfl ⟨rfl, ?_⟩
    exact ((((F0.out.setCell (by simp) _).setCell (by simp) _).setCell (by simp) _).setCell (by simp) _).setCell (by simp) _
  · subst h1
    rw [h2] at k4
    clear HG h2
    go_wp2
    refine bodyPost_ret (v := .tuple #[.agg #[.string ⟨#[]⟩, .int .i64 0, .int .i64 0, .bool false, .bool false], .int .i64 3]) (by simp [results, Tryz.results23, go_sem, a0, a1, a2, a3, a4]) rfl ⟨rfl, ?_⟩
    exact ((((F0.out.setCell (by simp) _).setCell (by simp) _).setCell (by simp) _).setCell (by simp) _).setCell (by simp) _
set_option maxHeartbeats 8000000 in
theorem goneChains_any (a : Option Addr) (c : Nat) (es : List StringV) (hm : es.length ≤ 1048576) (hs : ∀ e ∈ es, e.f0.size ≤ 1048576) (w : World) (h : SlS rowString w a es) :
    Calls Tryz.prog 9 #[.slice a es.length c] w (IntsRes2 (goneL es) (chCode es) w) := by
  have CO := Lib.hid (fun w' (hb : Below w.heap.size w w') => chainsOn_any a c es hm hs w' (h.below hb (Nat.le_refl _)))
  unfold CoRes at CO
  unfold IntsRes2
  by_cases h0 : chCode es = 0
  case neg =>
    have hL : goneL es = [] := by unfold goneL; rw [if_neg h0]
    have hne : (chCode es != 0) = true := by simpa using h0
    rw [hL]
    generalize chL es = L at *
    generalize chCode es = cc at *
    clear h0 hL h hs
    go_enter Tryz.func9, Tryz.ntmps9
    go_wp2_with fail
    refine (CO.out _ (Below.refl _ _)).mono ?_
    rintro e w1 ⟨p, rfl, hp, _, hb1⟩
    go_wp2
    go_ret2
    exact ⟨none, 0, rfl, .inl rfl, hb1.alloc hb1.size _⟩
  obtain ⟨hd, _⟩ := chCode_facts h0
  have hL : chL es = chLay es.length (len0 es) := by unfold chL; rw [if_pos h0]
  have hF : goneL es = gnL es (es.length / 8) := by unfold goneL; rw [if_pos h0]
  rw [hL, h0] at CO
  rw [hF, h0]
  unfold chLay at CO
  have LY := Lib.hid (fun k (hk : k < es.length / 8) (hg : goneB es k = true) l0 l1 l4 p w1 (h1 : CD w1 p a c es) (hb1 : Below w.heap.size w w1) => goneEntry_yes l0 l1 l4 p k a c es w1 h1 (h.below hb1 (Nat.le_refl _)) hd hk hg)
  have LN := Lib.hid (fun k (hk : k < es.length / 8) (hg : goneB es k = false) l0 l1 l4 p w1 (h1 : CD w1 p a c es) (hb1 : Below w.heap.size w w1) => goneEntry_no l0 l1 l4 p k a c es w1 h1 (h.below hb1 (Nat.le_refl _)) hd hk hg)
  have GY := Lib.hid (fun t => gnL_yes (es := es) (t := t))
  have GN := Lib.hid (fun t => gnL_no (es := es) (t := t))
  have GL := Lib.hid (fun t => gnL_len es t)
  have G0 := Lib.hid (gnL_nil es)
  have hn := (diskB_facts hd).1
  have hN16 : es.length / 8 ≤ 16 := by omega
  clear h0 h hs hL hd hF hn
  obtain ⟨N, hN⟩ : ∃ N, es.length / 8 = N := ⟨_, rfl⟩
  rw [hN] at LY LN CO hN16 ⊢
  clear hN
  obtain ⟨l3, hl3⟩ : ∃ l3, ((chDir es.length (len0 es) : Nat) : Int) = l3 := ⟨_, rfl⟩
  rw [hl3] at LY LN CO
  clear hl3
  generalize (chData es.length (len0 es) : Int) = l4 at *
  generalize (len0 es : Int) = l1 at *
  generalize (es.length : Int) = l0 at *
  go_enter Tryz.func9, Tryz.ntmps9
  go_wp2_with fail
  refine (CO.out _ (Below.refl _ _)).mono ?_
  rintro e w1 ⟨p, rfl, hp, hcd, hb1⟩
  go_upto_region 2 with (fail)
  have BA := Lib.hid (show Below w1.heap.size w1 (w1.alloc (.cells #[.int .i64 l0, .int .i64 l1, .int .i64 (N : Int), .int .i64 l3, .int .i64 l4, .pointer (some ⟨p, 0, none⟩)] 50)) from (Below.refl w1.heap.size w1).alloc (Nat.le_refl _) _)
  have BX := Lib.hid (BoxAt.new w1 #[.int .i64 l0, .int .i64 l1, .int .i64 (N : Int), .int .i64 l3, .int .i64 l4, .pointer (some ⟨p, 0, none⟩)] 50 _ rfl)
  have hlt2 : w1.heap.size + 1 ≤ (w1.alloc (.cells #[.int .i64 l0, .int .i64 l1, .int .i64 (N : Int), .int .i64 l3, .int .i64 l4, .pointer (some ⟨p, 0, none⟩)] 50)).heap.size := by simp
  have CD1 := Lib.hid (hcd.below BA.out hcd.1)
  have hpg : p < w1.heap.size := hcd.1
  have hgw : w.heap.size ≤ w1.heap.size := hb1.size
  have FB := Lib.hid (hb1.trans (BA.out.mono hgw))
  clear BA hb1 hcd hp
  generalize (w1.alloc (.cells #[.int .i64 l0, .int .i64 l1, .int .i64 (N : Int), .int .i64 l3, .int .i64 l4, .pointer (some ⟨p, 0, none⟩)] 50)) = W at *
  generalize w1.heap.size = gb at *
  have CK := Lib.hid (fun w' (hb : Below (gb + 1) W w') => CD1.out.below hb (by have := hpg; omega))
  have BK := Lib.hid (fun w' (hb : Below (gb + 1) W w') => BX.out.below hb (Nat.lt_succ_self gb))
  have FK := Lib.hid (fun w' (hb : Below (gb + 1) W w') => FB.out.trans (hb.mono (Nat.le_succ_of_le hgw)))
  clear CD1 FB
  have x2 := BX.out 2 _ rfl
  clear BX
  go_wp2
  clear x2
  go_loopw [6, 21] (fun v i wr => ∃ t : Nat, t ≤ N ∧ i = .int .i64 t ∧ OwnI wr (gb + 1) v (gnL es t) ∧ Below (gb + 1) W wr ∧ Hid (gb + 1 ≤ wr.heap.size)) (fun _ i _ => N - (intOf i).toNat)
  case atStart => exact ⟨0, Nat.zero_le _, rfl, by rw [G0.out]; exact OwnI.nil _ _, Below.refl _ _, Lib.hid hlt2⟩
  case round =>
    obtain ⟨t, ht1, rfl, hown, hb, hzr⟩ := hrel
    have hbx := BK.out _ hb
    by_cases hlt : t < N
    · have x0 := hbx 0 _ rfl
      have x1 := hbx 1 _ rfl
      have x2 := hbx 2 _ rfl
      have x3 := hbx 3 _ rfl
      have x4 := hbx 4 _ rfl
      have x5 := hbx 5 _ rfl
      have CR := Lib.hid (CK.out _ hb)
      have FR := Lib.hid (FK.out _ hb)
      have hll : (gnL es t).length < 1073741824 := by have := GL.out t; omega
      by_cases hg : goneB es t = true
      · have LT := Lib.hid (LY.out t hlt hg)
        have HY := Lib.hid (GY.out t hg)
        generalize gnL es t = l at *
        have HB := Lib.hid hb
        clear hb hbx hg
        generalize entR (entL es t) = r at *
        go_wp2_with fail
        refine (LT.out _ _ _ p _ CR.out FR.out).mono ?_
        rintro e w2 ⟨rfl, hb2⟩
        have hown2 := hown.below' hb2
        have HB2 := Lib.hid (HB.out.trans (hb2.mono hzr.out))
        have hzr2 := Nat.le_trans hzr.out hb2.size
        clear hb2 x0 x1 x2 x3 x4 x5 hown HB CR FR
        go_upto_region 9 with (fail)
        have BA := Lib.hid (show Below w2.heap.size w2 (w2.alloc (.cells #[.string r.f0, .int .i64 r.f1, .int .i64 r.f2, .bool r.f3, .bool r.f4] 45)) from (Below.refl w2.heap.size w2).alloc (Nat.le_refl _) _)
        have hown3 := hown2.below' BA.out
        have HB3 := Lib.hid (HB2.out.trans (BA.out.mono hzr2))
        have hzr3 := Nat.le_trans hzr2 BA.out.size
        clear BA hown2 HB2
        generalize (w2.alloc (.cells #[.string r.f0, .int .i64 r.f1, .int .i64 r.f2, .bool r.f3, .bool r.f4] 45)) = W3 at *
        go_wp2_with (at_builtin; refine wpList_appendI 24 Tryz.underlying24 rfl _ _ rfl rfl (hown3.alloc _) (t : Int) ⟨W3.heap.size, 0, none⟩ 1 rfl (World.news_of_block (cs := #[.int .i64 (t : Int)]) (t := 2) (fr := (0, 0)) (heap_alloc_new W3 _)) hll (by simp; omega) ?_; intro g cap w5 hown5 hb5 _)
        have hba := (((Below.refl (gb + 1) W3).alloc hzr3 (.cells #[.int .i64 (t : Int)] 2)).trans hb5)
        have HB5 := Lib.hid (HB3.out.trans hba)
        have HZ5 := Lib.hid (Nat.le_trans hzr3 hba.size)
        clear hb5 hba
        go_wp2
        go_roundw
        case rel => exact ⟨t + 1, by omega, by go_num, by rw [HY.out]; simpa using hown5, HB5.out, HZ5⟩
        case measure => simp [intOf]; omega
      · have hg' : goneB es t = false := by simpa using hg
        have LT := Lib.hid (LN.out t hlt hg')
        have HN := Lib.hid (GN.out t hg')
        generalize gnL es t = l at *
        have HB := Lib.hid hb
        clear hb hbx hg hg'
        go_wp2_with fail
        refine (LT.out _ _ _ p _ CR.out FR.out).mono ?_
        rintro e w2 ⟨rfl, hb2⟩
        have hown2 := hown.below' hb2
        have HB2 := Lib.hid (HB.out.trans (hb2.mono hzr.out))
        have hzr2 := Nat.le_trans hzr.out hb2.size
        clear hb2 x0 x1 x2 x3 x4 x5 hown HB CR FR
        go_upto_region 9 with (fail)
        have BA := Lib.hid (show Below w2.heap.size w2 (w2.alloc (.cells #[.string ⟨#[]⟩, .int .i64 0, .int .i64 0, .bool false, .bool false] 45)) from (Below.refl w2.heap.size w2).alloc (Nat.le_refl _) _)
        have hown3 := hown2.below' BA.out
        have HB3 := Lib.hid (HB2.out.trans (BA.out.mono hzr2))
        have hzr3 := Nat.le_trans hzr2 BA.out.size
        clear BA hown2 HB2
        generalize (w2.alloc (.cells #[.string ⟨#[]⟩, .int .i64 0, .int .i64 0, .bool false, .bool false] 45)) = W3 at *
        go_wp2
        go_roundw
        case rel => exact ⟨t + 1, by omega, by go_num, by rw [HN.out]; exact hown3, HB3.out, Lib.hid hzr3⟩
        case measure => simp [intOf]; omega
    · obtain rfl : t = N := by omega
      have HB := Lib.hid hb
      obtain ⟨ad, cap, rfl, hso⟩ := (hown.mono (show w.heap.size ≤ gb + 1 by omega)).slO
      have HSO := Lib.hid hso
      clear hb hbx hso hown
      go_wp2
      go_ret2
      exact ⟨ad, cap, rfl, HSO.out, FK.out _ HB.out⟩
end Go.Proofs.YtpdodpnhohmjaaaGreatDoor
