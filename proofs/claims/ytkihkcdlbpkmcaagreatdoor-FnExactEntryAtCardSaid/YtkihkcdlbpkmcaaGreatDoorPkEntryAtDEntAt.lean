/- spec.EntryAt -/
import Derived.Test.YtkihkcdlbpkmcaaGreatDoorPkEntryAtDEnt
import Derived.Test.YtkihkcdlbpkmcaaGreatDoorPkEntryAtEntAt
namespace Go.Proofs.YtkihkcdlbpkmcaaGreatDoor
open Go.RowKit
set_option maxRecDepth 20000
set_option linter.unusedVariables false
set_option linter.unusedSimpArgs false
set_option maxRecDepth 20000
theorem entSR_eq {l : List UInt8} (hl : l.length = 12) : entSok l = entOk l ∧ entSR l = entR l := by
  obtain ⟨h1, h2⟩ := ent_same hl
  refine ⟨h1, ?_⟩
  unfold entSR entR
  rw [h1]
  by_cases h : entOk l = true
  · rw [if_pos h, if_pos h]; exact h2 h
  · rw [if_neg h, if_neg h]
theorem dEntryR_any (p g cap k : Nat) (es : List StringV) (w : World) (h : DAt w p g cap (chLay es.length (len0 es)) (flatL es)) (hd : diskB es = true) (hk : k < es.length / 8) :
    Calls Tryz.prog 12 #[.pointer (some ⟨p, 0, none⟩), .int .i64 (k : Int)] w fun x w' => x = .returned (.tuple #[.agg #[.string (entR (entL es k)).f0, .int .i64 (entR (entL es k)).f1, .int .i64 (entR (entL es k)).f2, .bool (entR (entL es k)).f3, .bool (entR (entL es k)).f4], .bool (entOk (entL es k))]) ∧ Below w.heap.size w w' := by
  obtain ⟨h1, h2⟩ := entSR_eq (ent_at hd hk).2.2.1
  rw [← h1, ← h2]
  exact dEntry_any p g cap k es w h hd hk
set_option maxHeartbeats 8000000 in
theorem specEntryAt_any (a : Option Addr) (c : Nat) (es : List StringV) (b : Int) (hm : es.length ≤ 1048576) (hs : ∀ e ∈ es, e.f0.size ≤ 1048576) (w : World) (h : SlS rowString w a es) :
    Calls Tryz.prog 5 #[.slice a es.length c, .int .i64 b] w fun e w' => e = .returned (.tuple #[.agg #[.string (eaV es b).f0, .int .i64 (eaV es b).f1, .int .i64 (eaV es b).f2, .bool (eaV es b).f3, .bool (eaV es b).f4], .int .i64 (eaC es b)]) ∧ Below w.heap.size w w' := by
  have OP := Lib.hid (fun w' (hb : Below w.heap.size w w') => l16Open_any a c es hm hs w' (h.below hb (Nat.le_refl _)))
  unfold OpRes OpYes at OP
  have R0 := Lib.hid (BoxF.new w #[.string ⟨#[]⟩, .int .i64 0, .int .i64 0, .bool false, .bool false] 25 _ rfl)
  by_cases h0 : chCode es = 0
  case neg =>
    obtain ⟨e1, e2⟩ := eaC_bad (b := b) h0
    rw [e1, e2]
    show Calls _ _ _ _ fun x w' => x = .returned (.tuple #[.agg #[.string ⟨#[]⟩, .int .i64 0, .int .i64 0, .bool false, .bool false], .int .i64 (chCode es)]) ∧ _
    have hne : (chCode es != 0) = true := by simpa using h0
    have H0 := Lib.hid h0
    generalize chCode es = cc at *
    clear h0 e1 e2 h hs
    go_enter Tryz.func5, Tryz.ntmps5
    go_wp2_with fail
    refine (OP.out _ ((Below.refl _ _).alloc (Nat.le_refl _) _)).mono ?_
    rintro e w1 ⟨_, hy, hb1⟩
    obtain rfl := hy H0.out
    clear hy
    replace R0 := Lib.hid (R0.out.below hb1 (by simp))
    have FB := Lib.hid (show Below w.heap.size w w1 from Below.trans (by go_grown) (hb1.mono (by simp)))
    clear hb1
    obtain ⟨a0, z0⟩ := R0.out 0 _ rfl
    obtain ⟨a1, z1⟩ := R0.out 1 _ rfl
    obtain ⟨a2, z2⟩ := R0.out 2 _ rfl
    obtain ⟨a3, z3⟩ := R0.out 3 _ rfl
    obtain ⟨a4, z4⟩ := R0.out 4 _ rfl
    go_wp2
    refine bodyPost_ret (v := .tuple #[.agg #[.string ⟨#[]⟩, .int .i64 0, .int .i64 0, .bool false, .bool false], .int .i64 cc]) (by simp [results, Tryz.results5, go_sem, a0, a1, a2, a3, a4]) rfl ⟨rfl, ?_⟩
    exact ((((FB.out.setCell (by simp) _).setCell (by simp) _).setCell (by simp) _).setCell (by simp) _).setCell (by simp) _
  obtain ⟨hd, _⟩ := chCode_facts h0
  have hn := (diskB_facts hd).1
  have IN := Lib.hid (fun w => l00In_any b 0 (((es.length / 8 : Nat) : Int) - 1) w)
  have H0 := Lib.hid h0
  obtain ⟨r, hr⟩ : ∃ r, eaV es b = r := ⟨_, rfl⟩
  obtain ⟨q, hq⟩ : ∃ q, eaC es b = q := ⟨_, rfl⟩
  rw [hr, hq]
  have hl29 : (0 : Int) ≤ ((es.length / 8 : Nat) : Int) ∧ ((es.length / 8 : Nat) : Int) ≤ 16 := by omega
  by_cases hin : inB 0 (((es.length / 8 : Nat) : Int) - 1) b = true
  case neg =>
    have h1 : inB 0 (((es.length / 8 : Nat) : Int) - 1) b = false := by simpa using hin
    obtain ⟨e1, e2⟩ := eaC_out h0 h1
    obtain rfl := hq.symm.trans e1
    obtain rfl := hr.symm.trans e2
    show Calls _ _ _ _ fun x w' => x = .returned (.tuple #[.agg #[.string ⟨#[]⟩, .int .i64 0, .int .i64 0, .bool false, .bool false], .int .i64 2]) ∧ _
    rw [h1] at IN
    clear h0 h hs hin h1 hd e1 e2 hr hq hn
    go_enter Tryz.func5, Tryz.ntmps5
    go_wp2_with fail
    refine (OP.out _ ((Below.refl _ _).alloc (Nat.le_refl _) _)).mono ?_
    rintro e w1 ⟨hy, _, hb1⟩
    obtain ⟨p, g, cap, rfl, hp, hpg, hD⟩ := hy H0.out
    have x2 : w1.cell? ⟨p, 2, none⟩ = some (.int .i64 ((es.length / 8 : Nat) : Int)) := (hD.1 2 _ rfl).1
    have HD := Lib.hid hD
    replace R0 := Lib.hid (R0.out.below hb1 (by simp))
    have FB := Lib.hid (show Below w.heap.size w w1 from Below.trans (by go_grown) (hb1.mono (by simp)))
    have hlt : w.heap.size < w1.heap.size := by have := hb1.size; simp at this; omega
    clear hy hD hb1
    generalize ((es.length / 8 : Nat) : Int) = l2 at *
    go_wp2_with fail
    refine (IN.out _).mono ?_
    rintro e w2 ⟨rfl, rfl⟩
    clear x2
    obtain ⟨a0, z0⟩ := R0.out 0 _ rfl
    obtain ⟨a1, z1⟩ := R0.out 1 _ rfl
    obtain ⟨a2, z2⟩ := R0.out 2 _ rfl
    obtain ⟨a3, z3⟩ := R0.out 3 _ rfl
    obtain ⟨a4, z4⟩ := R0.out 4 _ rfl
    go_wp2
    refine bodyPost_ret (v := .tuple #[.agg #[.string ⟨#[]⟩, .int .i64 0, .int .i64 0, .bool false, .bool false], .int .i64 2]) (by simp [results, Tryz.results5, go_sem, a0, a1, a2, a3, a4]) rfl ⟨rfl, ?_⟩
    exact ((((FB.out.setCell (by simp) _).setCell (by simp) _).setCell (by simp) _).setCell (by simp) _).setCell (by simp) _
  obtain ⟨hb0, hb1⟩ := inB_iff.1 hin
  obtain ⟨k, rfl⟩ : ∃ k : Nat, b = (k : Int) := ⟨b.toNat, by omega⟩
  obtain ⟨e1, e2⟩ := eaC_in h0 hin
  rw [hin] at IN
  have LK := Lib.hid (fun p g cap w1 hD => dEntryR_any p g cap k es w1 hD hd (by omega))
  rw [← e2, hr] at LK
  obtain ⟨ok, hok⟩ : ∃ ok, entOk (entL es k) = ok := ⟨_, rfl⟩
  rw [hok] at LK e1
  obtain rfl := hq.symm.trans e1
  have hnz : ok = false → r = zeroE := by
    intro h9
    rw [← hr, e2]
    unfold entR
    rw [hok, h9]
    rfl
  clear h0 h hs hin hd hb0 hb1 e1 e2 hr hq hok hn
  cases ok
  case false =>
    obtain rfl := hnz rfl
    dsimp only [zeroE] at LK
    rw [if_neg (by simp)]
    show Calls _ _ _ _ fun x w' => x = .returned (.tuple #[.agg #[.string ⟨#[]⟩, .int .i64 0, .int .i64 0, .bool false, .bool false], .int .i64 7]) ∧ _
    clear hnz
    go_enter Tryz.func5, Tryz.ntmps5
    go_wp2_with fail
    refine (OP.out _ ((Below.refl _ _).alloc (Nat.le_refl _) _)).mono ?_
    rintro e w1 ⟨hy, _, hb1⟩
    obtain ⟨p, g, cap, rfl, hp, hpg, hD⟩ := hy H0.out
    have x2 : w1.cell? ⟨p, 2, none⟩ = some (.int .i64 ((es.length / 8 : Nat) : Int)) := (hD.1 2 _ rfl).1
    have HD := Lib.hid hD
    replace R0 := Lib.hid (R0.out.below hb1 (by simp))
    have FB := Lib.hid (show Below w.heap.size w w1 from Below.trans (by go_grown) (hb1.mono (by simp)))
    have hlt : w.heap.size < w1.heap.size := by have := hb1.size; simp at this; omega
    clear hy hD hb1
    generalize ((es.length / 8 : Nat) : Int) = l2 at *
    go_wp2_with fail
    refine (IN.out _).mono ?_
    rintro e w2 ⟨rfl, rfl⟩
    clear x2
    go_wp2_with fail
    refine (LK.out p g cap _ HD.out).mono ?_
    rintro e w3 ⟨rfl, hb3⟩
    replace R0 := Lib.hid (R0.out.below hb3 hlt)
    replace FB := Lib.hid (FB.out.trans (hb3.mono FB.out.size))
    replace hlt := Nat.lt_of_lt_of_le hlt hb3.size
    clear hb3
    go_upto_region 7 with (fail)
    have BA := Lib.hid (show Below w3.heap.size w3 (w3.alloc (.cells #[.string ⟨#[]⟩, .int .i64 0, .int .i64 0, .bool false, .bool false] 25)) from (Below.refl w3.heap.size w3).alloc (Nat.le_refl _) _)
    have KB := Lib.hid (BoxAt.new w3 #[.string ⟨#[]⟩, .int .i64 0, .int .i64 0, .bool false, .bool false] 25 _ rfl)
    replace R0 := Lib.hid (R0.out.below BA.out hlt)
    replace FB := Lib.hid (FB.out.trans (BA.out.mono FB.out.size))
    clear BA hlt
    generalize (w3.alloc (.cells #[.string ⟨#[]⟩, .int .i64 0, .int .i64 0, .bool false, .bool false] 25)) = W3 at *
    generalize w3.heap.size = g3 at *
    obtain ⟨a0, z0⟩ := R0.out 0 _ rfl
    obtain ⟨a1, z1⟩ := R0.out 1 _ rfl
    obtain ⟨a2, z2⟩ := R0.out 2 _ rfl
    obtain ⟨a3, z3⟩ := R0.out 3 _ rfl
    obtain ⟨a4, z4⟩ := R0.out 4 _ rfl
    go_wp2
    refine bodyPost_ret (v := .tuple #[.agg #[.string ⟨#[]⟩, .int .i64 0, .int .i64 0, .bool false, .bool false], .int .i64 7]) (by simp [results, Tryz.results5, go_sem, a0, a1, a2, a3, a4]) rfl ⟨rfl, ?_⟩
    exact ((((FB.out.setCell (by simp) _).setCell (by simp) _).setCell (by simp) _).setCell (by simp) _).setCell (by simp) _
  case true =>
    rw [if_pos rfl]
    clear hnz
    go_enter Tryz.func5, Tryz.ntmps5
    go_wp2_with fail
    refine (OP.out _ ((Below.refl _ _).alloc (Nat.le_refl _) _)).mono ?_
    rintro e w1 ⟨hy, _, hb1⟩
    obtain ⟨p, g, cap, rfl, hp, hpg, hD⟩ := hy H0.out
    have x2 : w1.cell? ⟨p, 2, none⟩ = some (.int .i64 ((es.length / 8 : Nat) : Int)) := (hD.1 2 _ rfl).1
    have HD := Lib.hid hD
    replace R0 := Lib.hid (R0.out.below hb1 (by simp))
    have FB := Lib.hid (show Below w.heap.size w w1 from Below.trans (by go_grown) (hb1.mono (by simp)))
    have hlt : w.heap.size < w1.heap.size := by have := hb1.size; simp at this; omega
    clear hy hD hb1
    generalize ((es.length / 8 : Nat) : Int) = l2 at *
    go_wp2_with fail
    refine (IN.out _).mono ?_
    rintro e w2 ⟨rfl, rfl⟩
    clear x2
    go_wp2_with fail
    refine (LK.out p g cap _ HD.out).mono ?_
    rintro e w3 ⟨rfl, hb3⟩
    replace R0 := Lib.hid (R0.out.below hb3 hlt)
    replace FB := Lib.hid (FB.out.trans (hb3.mono FB.out.size))
    replace hlt := Nat.lt_of_lt_of_le hlt hb3.size
    clear hb3
    go_upto_region 7 with (fail)
    have BA := Lib.hid (show Below w3.heap.size w3 (w3.alloc (.cells #[.string r.f0, .int .i64 r.f1, .int .i64 r.f2, .bool r.f3, .bool r.f4] 25)) from (Below.refl w3.heap.size w3).alloc (Nat.le_refl _) _)
    have KB := Lib.hid (BoxAt.new w3 #[.string r.f0, .int .i64 r.f1, .int .i64 r.f2, .bool r.f3, .bool r.f4] 25 _ rfl)
    replace R0 := Lib.hid (R0.out.below BA.out hlt)
    replace FB := Lib.hid (FB.out.trans (BA.out.mono FB.out.size))
    clear BA hlt
    generalize (w3.alloc (.cells #[.string r.f0, .int .i64 r.f1, .int .i64 r.f2, .bool r.f3, .bool r.f4] 25)) = W3 at *
    generalize w3.heap.size = g3 at *
    obtain ⟨a0, z0⟩ := R0.out 0 _ rfl
    obtain ⟨a1, z1⟩ := R0.out 1 _ rfl
    obtain ⟨a2, z2⟩ := R0.out 2 _ rfl
    obtain ⟨a3, z3⟩ := R0.out 3 _ rfl
    obtain ⟨a4, z4⟩ := R0.out 4 _ rfl
    have k0 := KB.out 0 _ rfl
    have k1 := KB.out 1 _ rfl
    have k2 := KB.out 2 _ rfl
    have k3 := KB.out 3 _ rfl
    have k4 := KB.out 4 _ rfl
    go_wp2
    refine bodyPost_ret (v := .tuple #[.agg #[.string r.f0, .int .i64 r.f1, .int .i64 r.f2, .bool r.f3, .bool r.f4], .int .i64 0]) (by simp [results, Tryz.results5, go_sem, a0, a1, a2, a3, a4]) rfl ⟨rfl, ?_⟩
    exact ((((FB.out.setCell (by simp) _).setCell (by simp) _).setCell (by simp) _).setCell (by simp) _).setCell (by simp) _
end Go.Proofs.YtkihkcdlbpkmcaaGreatDoor
