/- impl.EntryAt -/
import Derived.Test.YtkihkcdlbpkmcaaGreatDoorPkEntryAtEntM
namespace Go.Proofs.YtkihkcdlbpkmcaaGreatDoor
open Go.RowKit
set_option maxRecDepth 20000
set_option linter.unusedVariables false
set_option linter.unusedSimpArgs false
set_option maxRecDepth 20000
theorem eaC_bad {es : List StringV} {b : Int} (h : chCode es ≠ 0) : eaC es b = chCode es ∧ eaV es b = zeroE := by
  have e : eaC es b = chCode es := by unfold eaC; rw [if_neg h]
  exact ⟨e, by unfold eaV; rw [if_neg (by rw [e]; exact h)]⟩
theorem eaC_out {es : List StringV} {b : Int} (h : chCode es = 0) (hb : inB 0 (((es.length / 8 : Nat) : Int) - 1) b = false) : eaC es b = 2 ∧ eaV es b = zeroE := by
  have e : eaC es b = 2 := by unfold eaC; rw [if_pos h, if_neg (by rw [hb]; simp)]
  exact ⟨e, by unfold eaV; rw [if_neg (by rw [e]; omega)]⟩
theorem eaC_in {es : List StringV} {k : Nat} (h : chCode es = 0) (hb : inB 0 (((es.length / 8 : Nat) : Int) - 1) (k : Int) = true) : eaC es (k : Int) = (if entOk (entL es k) = true then 0 else 7) ∧ eaV es (k : Int) = entR (entL es k) := by
  have e : eaC es (k : Int) = (if entOk (entL es k) = true then 0 else 7) := by unfold eaC; rw [if_pos h, if_pos hb, Int.toNat_natCast]
  refine ⟨e, ?_⟩
  unfold eaV
  rw [e, Int.toNat_natCast]
  by_cases ho : entOk (entL es k) = true
  · rw [if_pos ho, if_pos rfl]
  · rw [if_neg ho, if_neg (by omega)]
    unfold entR
    rw [if_neg ho]
set_option maxHeartbeats 8000000 in
theorem entryAt_any (a : Option Addr) (c : Nat) (es : List StringV) (b : Int) (hm : es.length ≤ 1048576) (hs : ∀ e ∈ es, e.f0.size ≤ 1048576) (w : World) (h : SlS rowString w a es) :
    Calls Tryz.prog 7 #[.slice a es.length c, .int .i64 b] w fun e w' => e = .returned (.tuple #[.agg #[.string (eaV es b).f0, .int .i64 (eaV es b).f1, .int .i64 (eaV es b).f2, .bool (eaV es b).f3, .bool (eaV es b).f4], .int .i64 (eaC es b)]) ∧ Below w.heap.size w w' := by
  have CO := Lib.hid (fun w' (hb : Below w.heap.size w w') => chainsOn_any a c es hm hs w' (h.below hb (Nat.le_refl _)))
  unfold CoRes at CO
  have R0 := Lib.hid (BoxF.new w #[.string ⟨#[]⟩, .int .i64 0, .int .i64 0, .bool false, .bool false] 25 _ rfl)
  by_cases h0 : chCode es = 0
  case neg =>
    obtain ⟨e1, e2⟩ := eaC_bad (b := b) h0
    rw [e1, e2]
    show Calls _ _ _ _ fun x w' => x = .returned (.tuple #[.agg #[.string ⟨#[]⟩, .int .i64 0, .int .i64 0, .bool false, .bool false], .int .i64 (chCode es)]) ∧ _
    have hne : (chCode es != 0) = true := by simpa using h0
    generalize chL es = L at *
    generalize chCode es = cc at *
    clear h0 e1 e2 h hs
    go_enter Tryz.func7, Tryz.ntmps7
    go_wp2_with fail
    refine (CO.out _ ((Below.refl _ _).alloc (Nat.le_refl _) _)).mono ?_
    rintro e w1 ⟨p, rfl, hp, _, hb1⟩
    replace R0 := Lib.hid (R0.out.below hb1 (by simp))
    have FB := Lib.hid (show Below w.heap.size w w1 from Below.trans (by go_grown) (hb1.mono (by simp)))
    have hlt : w.heap.size < w1.heap.size := by have := hb1.size; simp at this; omega
    clear hb1
    go_upto_region 2 with (fail)
    have BA := Lib.hid (show Below w1.heap.size w1 (w1.alloc (.cells #[.int .i64 L.f0, .int .i64 L.f1, .int .i64 L.f2, .int .i64 L.f3, .int .i64 L.f4, .pointer (some ⟨p, 0, none⟩)] 45)) from (Below.refl w1.heap.size w1).alloc (Nat.le_refl _) _)
    have R1 := R0.out.below BA.out hlt
    replace FB := Lib.hid (FB.out.trans (BA.out.mono FB.out.size))
    clear BA hlt R0
    generalize (w1.alloc (.cells #[.int .i64 L.f0, .int .i64 L.f1, .int .i64 L.f2, .int .i64 L.f3, .int .i64 L.f4, .pointer (some ⟨p, 0, none⟩)] 45)) = W at *
    obtain ⟨a0, z0⟩ := R1 0 _ rfl
    obtain ⟨a1, z1⟩ := R1 1 _ rfl
    obtain ⟨a2, z2⟩ := R1 2 _ rfl
    obtain ⟨a3, z3⟩ := R1 3 _ rfl
    obtain ⟨a4, z4⟩ := R1 4 _ rfl
    clear R1
    go_wp2
    refine bodyPost_ret (v := .tuple #[.agg #[.string ⟨#[]⟩, .int .i64 0, .int .i64 0, .bool false, .bool false], .int .i64 cc]) (by simp [results, Tryz.results7, go_sem, a0, a1, a2, a3, a4]) rfl ⟨rfl, ?_⟩
    exact ((((FB.out.setCell (by simp) _).setCell (by simp) _).setCell (by simp) _).setCell (by simp) _).setCell (by simp) _
  obtain ⟨hd, _⟩ := chCode_facts h0
  have hL : chL es = chLay es.length (len0 es) := by unfold chL; rw [if_pos h0]
  rw [hL, h0] at CO
  unfold chLay at CO
  have hn := (diskB_facts hd).1
  have PL := Lib.hid (fun w => isPlace_any b ((es.length / 8 : Nat) : Int) w (by omega) (by omega))
  obtain ⟨r, hr⟩ : ∃ r, eaV es b = r := ⟨_, rfl⟩
  obtain ⟨q, hq⟩ : ∃ q, eaC es b = q := ⟨_, rfl⟩
  rw [hr, hq]
  by_cases hin : inB 0 (((es.length / 8 : Nat) : Int) - 1) b = true
  case neg =>
    have h1 : inB 0 (((es.length / 8 : Nat) : Int) - 1) b = false := by simpa using hin
    obtain ⟨e1, e2⟩ := eaC_out h0 h1
    obtain rfl := hq.symm.trans e1
    obtain rfl := hr.symm.trans e2
    show Calls _ _ _ _ fun x w' => x = .returned (.tuple #[.agg #[.string ⟨#[]⟩, .int .i64 0, .int .i64 0, .bool false, .bool false], .int .i64 2]) ∧ _
    rw [h1] at PL
    clear h0 h hs hin h1 hL hd e1 e2 hr hq hn
    go_enter Tryz.func7, Tryz.ntmps7
    go_wp2_with fail
    refine (CO.out _ ((Below.refl _ _).alloc (Nat.le_refl _) _)).mono ?_
    rintro e w1 ⟨p, rfl, hp, hcd, hb1⟩
    have CD1 := Lib.hid hcd
    replace R0 := Lib.hid (R0.out.below hb1 (by simp))
    have FB := Lib.hid (show Below w.heap.size w w1 from Below.trans (by go_grown) (hb1.mono (by simp)))
    have hlt : w.heap.size < w1.heap.size := by have := hb1.size; simp at this; omega
    clear hb1 hcd
    generalize (chDir es.length (len0 es) : Int) = l3 at *
    generalize (chData es.length (len0 es) : Int) = l4 at *
    generalize (len0 es : Int) = l1 at *
    generalize ((es.length / 8 : Nat) : Int) = l2 at *
    go_upto_region 2 with (fail)
    have BA := Lib.hid (show Below w1.heap.size w1 (w1.alloc (.cells #[.int .i64 (es.length : Int), .int .i64 l1, .int .i64 l2, .int .i64 l3, .int .i64 l4, .pointer (some ⟨p, 0, none⟩)] 45)) from (Below.refl w1.heap.size w1).alloc (Nat.le_refl _) _)
    have BX := Lib.hid (BoxAt.new w1 #[.int .i64 (es.length : Int), .int .i64 l1, .int .i64 l2, .int .i64 l3, .int .i64 l4, .pointer (some ⟨p, 0, none⟩)] 45 _ rfl)
    have hlt2 : w1.heap.size < (w1.alloc (.cells #[.int .i64 (es.length : Int), .int .i64 l1, .int .i64 l2, .int .i64 l3, .int .i64 l4, .pointer (some ⟨p, 0, none⟩)] 45)).heap.size := by simp
    replace R0 := Lib.hid (R0.out.below BA.out hlt)
    replace CD1 := Lib.hid (CD1.out.below BA.out CD1.out.1)
    replace FB := Lib.hid (FB.out.trans (BA.out.mono FB.out.size))
    have hlt3 : w.heap.size < (w1.alloc (.cells #[.int .i64 (es.length : Int), .int .i64 l1, .int .i64 l2, .int .i64 l3, .int .i64 l4, .pointer (some ⟨p, 0, none⟩)] 45)).heap.size := Nat.lt_of_lt_of_le hlt BA.out.size
    clear BA hlt
    generalize (w1.alloc (.cells #[.int .i64 (es.length : Int), .int .i64 l1, .int .i64 l2, .int .i64 l3, .int .i64 l4, .pointer (some ⟨p, 0, none⟩)] 45)) = W at *
    generalize w1.heap.size = gb at *
    have x2 := BX.out 2 _ rfl
    go_wp2_with fail
    refine (PL.out _).mono ?_
    rintro e w2 ⟨rfl, hb2⟩
    replace R0 := Lib.hid (R0.out.below hb2 hlt3)
    replace CD1 := Lib.hid (CD1.out.below hb2 CD1.out.1)
    replace BX := Lib.hid (BX.out.below hb2 hlt2)
    replace FB := Lib.hid (FB.out.trans (hb2.mono FB.out.size))
    replace hlt2 := Nat.lt_of_lt_of_le hlt2 hb2.size
    replace hlt3 := Nat.lt_of_lt_of_le hlt3 hb2.size
    clear hb2 x2
    obtain ⟨a0, z0⟩ := R0.out 0 _ rfl
    obtain ⟨a1, z1⟩ := R0.out 1 _ rfl
    obtain ⟨a2, z2⟩ := R0.out 2 _ rfl
    obtain ⟨a3, z3⟩ := R0.out 3 _ rfl
    obtain ⟨a4, z4⟩ := R0.out 4 _ rfl
    go_wp2
    refine bodyPost_ret (v := .tuple #[.agg #[.string ⟨#[]⟩, .int .i64 0, .int .i64 0, .bool false, .bool false], .int .i64 2]) (by simp [results, Tryz.results7, go_sem, a0, a1, a2, a3, a4]) rfl ⟨rfl, ?_⟩
    exact ((((FB.out.setCell (by simp) _).setCell (by simp) _).setCell (by simp) _).setCell (by simp) _).setCell (by simp) _
  obtain ⟨hb0, hb1⟩ := inB_iff.1 hin
  obtain ⟨k, rfl⟩ : ∃ k : Nat, b = (k : Int) := ⟨b.toNat, by omega⟩
  obtain ⟨e1, e2⟩ := eaC_in h0 hin
  rw [hin] at PL
  have LK := Lib.hid (fun l0 l1 l2 l4 p w1 (h1 : CD w1 p a c es) (hb1 : Below w.heap.size w w1) => entryM_any l0 l1 l2 l4 p k a c es w1 h1 (h.below hb1 (Nat.le_refl _)) hd (by omega))
  rw [← e2, hr] at LK
  obtain ⟨ok, hok⟩ : ∃ ok, entOk (entL es k) = ok := ⟨_, rfl⟩
  rw [hok] at LK e1
  obtain rfl := hq.symm.trans e1
  have hnz : ok = false → r = zeroE := by
    intro h9
    rw [← hr, e2]
    unfold entR
    rw [hok, h9]
    rfl
  clear h0 h hs hin hL hd hb0 hb1 e1 e2 hr hq hok hn
  cases ok
  case false =>
    obtain rfl := hnz rfl
    dsimp only [zeroE] at LK
    rw [if_neg (by simp)]
    show Calls _ _ _ _ fun x w' => x = .returned (.tuple #[.agg #[.string ⟨#[]⟩, .int .i64 0, .int .i64 0, .bool false, .bool false], .int .i64 7]) ∧ _
    clear hnz
    go_enter Tryz.func7, Tryz.ntmps7
    go_wp2_with fail
    refine (CO.out _ ((Below.refl _ _).alloc (Nat.le_refl _) _)).mono ?_
    rintro e w1 ⟨p, rfl, hp, hcd, hb1⟩
    have CD1 := Lib.hid hcd
    replace R0 := Lib.hid (R0.out.below hb1 (by simp))
    have FB := Lib.hid (show Below w.heap.size w w1 from Below.trans (by go_grown) (hb1.mono (by simp)))
    have hlt : w.heap.size < w1.heap.size := by have := hb1.size; simp at this; omega
    clear hb1 hcd
    obtain ⟨l3, hl3⟩ : ∃ l3, ((chDir es.length (len0 es) : Nat) : Int) = l3 := ⟨_, rfl⟩
    rw [hl3] at LK ⊢
    clear hl3
    generalize (chData es.length (len0 es) : Int) = l4 at *
    generalize (len0 es : Int) = l1 at *
    generalize ((es.length / 8 : Nat) : Int) = l2 at *
    go_upto_region 2 with (fail)
    have BA := Lib.hid (show Below w1.heap.size w1 (w1.alloc (.cells #[.int .i64 (es.length : Int), .int .i64 l1, .int .i64 l2, .int .i64 l3, .int .i64 l4, .pointer (some ⟨p, 0, none⟩)] 45)) from (Below.refl w1.heap.size w1).alloc (Nat.le_refl _) _)
    have BX := Lib.hid (BoxAt.new w1 #[.int .i64 (es.length : Int), .int .i64 l1, .int .i64 l2, .int .i64 l3, .int .i64 l4, .pointer (some ⟨p, 0, none⟩)] 45 _ rfl)
    have hlt2 : w1.heap.size < (w1.alloc (.cells #[.int .i64 (es.length : Int), .int .i64 l1, .int .i64 l2, .int .i64 l3, .int .i64 l4, .pointer (some ⟨p, 0, none⟩)] 45)).heap.size := by simp
    replace R0 := Lib.hid (R0.out.below BA.out hlt)
    replace CD1 := Lib.hid (CD1.out.below BA.out CD1.out.1)
    replace FB := Lib.hid (FB.out.trans (BA.out.mono FB.out.size))
    have hlt3 : w.heap.size < (w1.alloc (.cells #[.int .i64 (es.length : Int), .int .i64 l1, .int .i64 l2, .int .i64 l3, .int .i64 l4, .pointer (some ⟨p, 0, none⟩)] 45)).heap.size := Nat.lt_of_lt_of_le hlt BA.out.size
    clear BA hlt
    generalize (w1.alloc (.cells #[.int .i64 (es.length : Int), .int .i64 l1, .int .i64 l2, .int .i64 l3, .int .i64 l4, .pointer (some ⟨p, 0, none⟩)] 45)) = W at *
    generalize w1.heap.size = gb at *
    have x2 := BX.out 2 _ rfl
    go_wp2_with fail
    refine (PL.out _).mono ?_
    rintro e w2 ⟨rfl, hb2⟩
    replace R0 := Lib.hid (R0.out.below hb2 hlt3)
    replace CD1 := Lib.hid (CD1.out.below hb2 CD1.out.1)
    replace BX := Lib.hid (BX.out.below hb2 hlt2)
    replace FB := Lib.hid (FB.out.trans (hb2.mono FB.out.size))
    replace hlt2 := Nat.lt_of_lt_of_le hlt2 hb2.size
    replace hlt3 := Nat.lt_of_lt_of_le hlt3 hb2.size
    clear hb2 x2
    have x0 := BX.out 0 _ rfl
    have x1 := BX.out 1 _ rfl
    have x2 := BX.out 2 _ rfl
    have x3 := BX.out 3 _ rfl
    have x4 := BX.out 4 _ rfl
    have x5 := BX.out 5 _ rfl
    go_wp2_with fail
    refine (LK.out _ _ _ _ p _ CD1.out FB.out).mono ?_
    rintro e w3 ⟨rfl, hb3⟩
    replace R0 := Lib.hid (R0.out.below hb3 hlt3)
    replace FB := Lib.hid (FB.out.trans (hb3.mono FB.out.size))
    replace hlt3 := Nat.lt_of_lt_of_le hlt3 hb3.size
    clear hb3 x0 x1 x2 x3 x4 x5 BX CD1 hlt2
    go_upto_region 7 with (fail)
    have BA := Lib.hid (show Below w3.heap.size w3 (w3.alloc (.cells #[.string ⟨#[]⟩, .int .i64 0, .int .i64 0, .bool false, .bool false] 25)) from (Below.refl w3.heap.size w3).alloc (Nat.le_refl _) _)
    have KB := Lib.hid (BoxAt.new w3 #[.string ⟨#[]⟩, .int .i64 0, .int .i64 0, .bool false, .bool false] 25 _ rfl)
    replace R0 := Lib.hid (R0.out.below BA.out hlt3)
    replace FB := Lib.hid (FB.out.trans (BA.out.mono FB.out.size))
    clear BA hlt3
    generalize (w3.alloc (.cells #[.string ⟨#[]⟩, .int .i64 0, .int .i64 0, .bool false, .bool false] 25)) = W3 at *
    generalize w3.heap.size = g3 at *
    obtain ⟨a0, z0⟩ := R0.out 0 _ rfl
    obtain ⟨a1, z1⟩ := R0.out 1 _ rfl
    obtain ⟨a2, z2⟩ := R0.out 2 _ rfl
    obtain ⟨a3, z3⟩ := R0.out 3 _ rfl
    obtain ⟨a4, z4⟩ := R0.out 4 _ rfl
    go_wp2
    refine bodyPost_ret (v := .tuple #[.agg #[.string ⟨#[]⟩, .int .i64 0, .int .i64 0, .bool false, .bool false], .int .i64 7]) (by simp [results, Tryz.results7, go_sem, a0, a1, a2, a3, a4]) rfl ⟨rfl, ?_⟩
    exact ((((FB.out.setCell (by simp) _).setCell (by simp) _).setCell (by simp) _).setCell (by simp) _).setCell (by simp) _
  case true =>
    rw [if_pos rfl]
    clear hnz
    go_enter Tryz.func7, Tryz.ntmps7
    go_wp2_with fail
    refine (CO.out _ ((Below.refl _ _).alloc (Nat.le_refl _) _)).mono ?_
    rintro e w1 ⟨p, rfl, hp, hcd, hb1⟩
    have CD1 := Lib.hid hcd
    replace R0 := Lib.hid (R0.out.below hb1 (by simp))
    have FB := Lib.hid (show Below w.heap.size w w1 from Below.trans (by go_grown) (hb1.mono (by simp)))
    have hlt : w.heap.size < w1.heap.size := by have := hb1.size; simp at this; omega
    clear hb1 hcd
    obtain ⟨l3, hl3⟩ : ∃ l3, ((chDir es.length (len0 es) : Nat) : Int) = l3 := ⟨_, rfl⟩
    rw [hl3] at LK ⊢
    clear hl3
    generalize (chData es.length (len0 es) : Int) = l4 at *
    generalize (len0 es : Int) = l1 at *
    generalize ((es.length / 8 : Nat) : Int) = l2 at *
    go_upto_region 2 with (fail)
    have BA := Lib.hid (show Below w1.heap.size w1 (w1.alloc (.cells #[.int .i64 (es.length : Int), .int .i64 l1, .int .i64 l2, .int .i64 l3, .int .i64 l4, .pointer (some ⟨p, 0, none⟩)] 45)) from (Below.refl w1.heap.size w1).alloc (Nat.le_refl _) _)
    have BX := Lib.hid (BoxAt.new w1 #[.int .i64 (es.length : Int), .int .i64 l1, .int .i64 l2, .int .i64 l3, .int .i64 l4, .pointer (some ⟨p, 0, none⟩)] 45 _ rfl)
    have hlt2 : w1.heap.size < (w1.alloc (.cells #[.int .i64 (es.length : Int), .int .i64 l1, .int .i64 l2, .int .i64 l3, .int .i64 l4, .pointer (some ⟨p, 0, none⟩)] 45)).heap.size := by simp
    replace R0 := Lib.hid (R0.out.below BA.out hlt)
    replace CD1 := Lib.hid (CD1.out.below BA.out CD1.out.1)
    replace FB := Lib.hid (FB.out.trans (BA.out.mono FB.out.size))
    have hlt3 : w.heap.size < (w1.alloc (.cells #[.int .i64 (es.length : Int), .int .i64 l1, .int .i64 l2, .int .i64 l3, .int .i64 l4, .pointer (some ⟨p, 0, none⟩)] 45)).heap.size := Nat.lt_of_lt_of_le hlt BA.out.size
    clear BA hlt
    generalize (w1.alloc (.cells #[.int .i64 (es.length : Int), .int .i64 l1, .int .i64 l2, .int .i64 l3, .int .i64 l4, .pointer (some ⟨p, 0, none⟩)] 45)) = W at *
    generalize w1.heap.size = gb at *
    have x2 := BX.out 2 _ rfl
    go_wp2_with fail
    refine (PL.out _).mono ?_
    rintro e w2 ⟨rfl, hb2⟩
    replace R0 := Lib.hid (R0.out.below hb2 hlt3)
    replace CD1 := Lib.hid (CD1.out.below hb2 CD1.out.1)
    replace BX := Lib.hid (BX.out.below hb2 hlt2)
    replace FB := Lib.hid (FB.out.trans (hb2.mono FB.out.size))
    replace hlt2 := Nat.lt_of_lt_of_le hlt2 hb2.size
    replace hlt3 := Nat.lt_of_lt_of_le hlt3 hb2.size
    clear hb2 x2
    have x0 := BX.out 0 _ rfl
    have x1 := BX.out 1 _ rfl
    have x2 := BX.out 2 _ rfl
    have x3 := BX.out 3 _ rfl
    have x4 := BX.out 4 _ rfl
    have x5 := BX.out 5 _ rfl
    go_wp2_with fail
    refine (LK.out _ _ _ _ p _ CD1.out FB.out).mono ?_
    rintro e w3 ⟨rfl, hb3⟩
    replace R0 := Lib.hid (R0.out.below hb3 hlt3)
    replace FB := Lib.hid (FB.out.trans (hb3.mono FB.out.size))
    replace hlt3 := Nat.lt_of_lt_of_le hlt3 hb3.size
    clear hb3 x0 x1 x2 x3 x4 x5 BX CD1 hlt2
    go_upto_region 7 with (fail)
    have BA := Lib.hid (show Below w3.heap.size w3 (w3.alloc (.cells #[.string r.f0, .int .i64 r.f1, .int .i64 r.f2, .bool r.f3, .bool r.f4] 25)) from (Below.refl w3.heap.size w3).alloc (Nat.le_refl _) _)
    have KB := Lib.hid (BoxAt.new w3 #[.string r.f0, .int .i64 r.f1, .int .i64 r.f2, .bool r.f3, .bool r.f4] 25 _ rfl)
    replace R0 := Lib.hid (R0.out.below BA.out hlt3)
    replace FB := Lib.hid (FB.out.trans (BA.out.mono FB.out.size))
    clear BA hlt3
    generalize (w3.alloc (.cells #[.string r.f0, .int .i64 r.f1, .int .i64 r.f2, .bool r.f3, .bool r.f4] 25)) = W3 at *
    generalize w3.heap.size = g3 at *
    obtain ⟨a0, z0⟩ := R0.out 0 _ rfl
    obtain ⟨a1, z1⟩ := R0.out 1 _ rfl
    obtain ⟨a2, z2⟩ := R0.out 2 _ rfl
    obtain ⟨a3, z3⟩ := R0.out 3 _ rfl
    obtain ⟨a4, z4⟩ := R0.out 4 _ rfl
    have k0 := KB.out 0 _ rfl
    have k1 := KB.out 1 _ rfl
    have k2 := KB.out 2 _ rfl
    have k3 := KB.out 3 _ rfl
    have k4 := KB.out 4 _ rfl
    go_wp2
    refine bodyPost_ret (v := .tuple #[.agg #[.string r.f0, .int .i64 r.f1, .int .i64 r.f2, .bool r.f3, .bool r.f4], .int .i64 0]) (by simp [results, Tryz.results7, go_sem, a0, a1, a2, a3, a4]) rfl ⟨rfl, ?_⟩
    exact ((((FB.out.setCell (by simp) _).setCell (by simp) _).setCell (by simp) _).setCell (by simp) _).setCell (by simp) _
end Go.Proofs.YtkihkcdlbpkmcaaGreatDoor
