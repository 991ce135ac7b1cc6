/- spec: the blocks of a deleted entry; spec.GoneBlocks -/
import Derived.Test.YtpdodpnhohmjaaaGreatDoorPkGoneBlocksGnbIm
import Derived.Test.YtpdodpnhohmjaaaGreatDoorPkGoneBlocksGoneSp
import Derived.Test.YtpdodpnhohmjaaaGreatDoorPkGoneBlocksApart
namespace Go.Proofs.YtpdodpnhohmjaaaGreatDoor
open Go.RowKit
set_option maxRecDepth 20000
set_option linter.unusedVariables false
set_option linter.unusedSimpArgs false
set_option maxRecDepth 20000
set_option maxHeartbeats 4000000 in
theorem dNeed_any (p g cap q : Nat) (es : List StringV) (w : World) (h : DAt w p g cap (chLay es.length (len0 es)) (flatL es)) (hz : len0 es = 8 ∨ len0 es = 16 ∨ len0 es = 32) (hq : q ≤ 65535) :
    Calls Tryz.prog 39 #[.pointer (some ⟨p, 0, none⟩), .int .i64 (q : Int)] w fun e w' => e = .returned (.int .i64 (((q + len0 es - 1) / len0 es : Nat) : Int)) ∧ Below w.heap.size w w' := by
  have x1 : w.cell? ⟨p, 1, none⟩ = some (.int .i64 (len0 es : Int)) := (h.1 1 _ rfl).1
  generalize len0 es = z at *
  clear h
  have e1 : (q : Int) + (z : Int) - 1 = ((q + z - 1 : Nat) : Int) := by omega
  have e2 : ¬ (z : Int) = 0 := by omega
  have e3 : ((z : Int) == 0) = false := by simp; omega
  have e4 : Int.tdiv ((q + z - 1 : Nat) : Int) (z : Int) = (((q + z - 1) / z : Nat) : Int) := by rw [Int.tdiv_eq_ediv_of_nonneg (by omega)]; exact (Int.natCast_ediv _ _).symm
  have e5 : (q + z - 1) / z ≤ q + z - 1 := Nat.div_le_self _ _
  have hzb : z ≤ 32 := by omega
  clear hz
  generalize (q + z - 1) / z = n at *
  have e6 : wrap64 (n : Int) = (n : Int) := by unfold wrap64; omega
  have e7 : IntKind.i64.wrap (n : Int) = (n : Int) := IntWalk.i64_in _ (by omega)
  have e8 : IntKind.i64.wrap ((q : Int) + (z : Int)) = (q : Int) + (z : Int) := IntWalk.i64_in _ (by omega)
  have e9 : IntKind.i64.wrap ((q : Int) + (z : Int) - 1) = ((q + z - 1 : Nat) : Int) := by rw [e1]; exact IntWalk.i64_in _ (by omega)
  go_enter Tryz.func39, Tryz.ntmps39
  go_wp2
  go_region
  go_wp2
  go_ret
  exact ⟨rfl, by first | exact Below.refl _ _ | exact (Below.refl _ _).drew⟩
theorem BoxF.ofBlock {w w' : World} {p : Nat} {vs : Array Value} (h : BoxF w p vs) (e : w'.heap[p]? = w.heap[p]?) : BoxF w' p vs := by
  intro i v hv
  obtain ⟨h1, h2⟩ := h i v hv
  exact ⟨by rw [World.cell?_of_block e]; exact h1, by unfold World.frozen? at h2 ⊢; rw [e]; exact h2⟩
theorem DAt.set {w : World} {p g cap : Nat} {L : ChainLayoutV} {bs : List UInt8} (h : DAt w p g cap L bs) {a : Addr} (h1 : p ≠ a.block) (h2 : g ≠ a.block) (v : Value) : DAt (w.setCell a v) p g cap L bs := by
  obtain ⟨b1, cur, b2, b3⟩ := h
  exact ⟨b1.ofBlock (Below.heap_setCell _ _ _ _ h1), cur, by rw [Below.heap_setCell _ _ _ _ h2]; exact b2, b3⟩
def L21Res (es : List StringV) (b : Int) (w : World) (e : Ending) (w' : World) : Prop :=
  (gnC es b = 0 → ∃ p g cap, e = .returned (.tuple #[.pointer (some ⟨p, 0, none⟩), .agg #[.string (gnR es b).f0, .int .i64 (gnR es b).f1, .int .i64 (gnR es b).f2, .bool (gnR es b).f3, .bool (gnR es b).f4], .int .i64 0]) ∧ w.heap.size < p ∧ p < g ∧ DAt w' p g cap (chLay es.length (len0 es)) (flatL es)) ∧
  (gnC es b ≠ 0 → e = .returned (.tuple #[.pointer none, .agg #[.string ⟨#[]⟩, .int .i64 0, .int .i64 0, .bool false, .bool false], .int .i64 (gnC es b)])) ∧ Below w.heap.size w w'
set_option maxHeartbeats 8000000 in
theorem l21Entry_any (a : Option Addr) (c : Nat) (es : List StringV) (b : Int) (hm : es.length ≤ 1048576) (hs : ∀ e ∈ es, e.f0.size ≤ 1048576) (w : World) (h : SlS rowString w a es) :
    Calls Tryz.prog 25 #[.slice a es.length c, .int .i64 b] w (L21Res es b w) := by
  have OP := Lib.hid (fun w' (hb : Below w.heap.size w w') => l16Open_any a c es hm hs w' (h.below hb (Nat.le_refl _)))
  unfold OpRes OpYes at OP
  unfold L21Res
  have R0 := Lib.hid (BoxF.new w #[.string ⟨#[]⟩, .int .i64 0, .int .i64 0, .bool false, .bool false] 45 _ rfl)
  by_cases h0 : chCode es = 0
  case neg =>
    have hg := gnC_bad (b := b) h0
    rw [hg]
    have hne : (chCode es != 0) = true := by simpa using h0
    have H0 := Lib.hid h0
    generalize chCode es = cc at *
    clear h0 hg h hs
    go_enter Tryz.func25, Tryz.ntmps25
    go_wp2_with fail
    refine (OP.out _ ((Below.refl _ _).alloc (Nat.le_refl _) _)).mono ?_
    rintro e w1 ⟨_, hy, hb1⟩
    obtain rfl := hy H0.out
    clear hy
    replace R0 := Lib.hid (R0.out.below hb1 (by simp))
    have FB := Lib.hid (show Below w.heap.size w w1 from Below.trans (by go_grown) (hb1.mono (by simp)))
    clear hb1
    obtain ⟨a0, z0⟩ := R0.out 0 _ rfl
    obtain ⟨a1, z1⟩ := R0.out 1 _ rfl
    obtain ⟨a2, z2⟩ := R0.out 2 _ rfl
    obtain ⟨a3, z3⟩ := R0.out 3 _ rfl
    obtain ⟨a4, z4⟩ := R0.out 4 _ rfl
    go_wp2
    refine bodyPost_ret (v := .tuple #[.pointer none, .agg #[.string ⟨#[]⟩, .int .i64 0, .int .i64 0, .bool false, .bool false], .int .i64 cc]) (by simp [results, Tryz.results25, go_sem, a0, a1, a2, a3, a4]) rfl ⟨fun h => absurd h H0.out, fun _ => rfl, ?_⟩
    exact ((((FB.out.setCell (by simp) _).setCell (by simp) _).setCell (by simp) _).setCell (by simp) _).setCell (by simp) _
  obtain ⟨hd, _⟩ := chCode_facts h0
  have hn := (diskB_facts hd).1
  have IN := Lib.hid (fun w => l00In_any b 0 (((es.length / 8 : Nat) : Int) - 1) w)
  have H0 := Lib.hid h0
  have hl29 : (0 : Int) ≤ ((es.length / 8 : Nat) : Int) ∧ ((es.length / 8 : Nat) : Int) ≤ 16 := by omega
  by_cases hin : inB 0 (((es.length / 8 : Nat) : Int) - 1) b = true
  case neg =>
    have h1 : inB 0 (((es.length / 8 : Nat) : Int) - 1) b = false := by simpa using hin
    have hc := gnC_out h0 h1
    rw [hc]
    rw [h1] at IN
    clear h0 h hs hin h1 hd hn hc
    go_enter Tryz.func25, Tryz.ntmps25
    go_wp2_with fail
    refine (OP.out _ ((Below.refl _ _).alloc (Nat.le_refl _) _)).mono ?_
    rintro e w1 ⟨hy, _, hb1⟩
    obtain ⟨p, g, cap, rfl, hp, hpg, hD⟩ := hy H0.out
    have x2 : w1.cell? ⟨p, 2, none⟩ = some (.int .i64 ((es.length / 8 : Nat) : Int)) := (hD.1 2 _ rfl).1
    replace R0 := Lib.hid (R0.out.below hb1 (by simp))
    have FB := Lib.hid (show Below w.heap.size w w1 from Below.trans (by go_grown) (hb1.mono (by simp)))
    clear hy hD hb1
    generalize ((es.length / 8 : Nat) : Int) = l2 at *
    go_wp2_with fail
    refine (IN.out _).mono ?_
    rintro e w2 ⟨rfl, rfl⟩
    clear x2
    obtain ⟨a0, z0⟩ := R0.out 0 _ rfl
    obtain ⟨a1, z1⟩ := R0.out 1 _ rfl
    obtain ⟨a2, z2⟩ := R0.out 2 _ rfl
    obtain ⟨a3, z3⟩ := R0.out 3 _ rfl
    obtain ⟨a4, z4⟩ := R0.out 4 _ rfl
    go_wp2
    refine bodyPost_ret (v := .tuple #[.pointer none, .agg #[.string ⟨#[]⟩, .int .i64 0, .int .i64 0, .bool false, .bool false], .int .i64 2]) (by simp [results, Tryz.results25, go_sem, a0, a1, a2, a3, a4]) rfl ⟨fun h => absurd h (by omega), fun _ => rfl, ?_⟩
    exact ((((FB.out.setCell (by simp) _).setCell (by simp) _).setCell (by simp) _).setCell (by simp) _).setCell (by simp) _
  obtain ⟨hb0, hb1⟩ := inB_iff.1 hin
  obtain ⟨k, rfl⟩ : ∃ k : Nat, b = (k : Int) := ⟨b.toNat, by omega⟩
  have hc := gnC_in h0 hin
  rw [hin] at IN
  rw [gnR_nat]
  have LK := Lib.hid (fun p g cap w1 hD => dEntryR_any p g cap k es w1 hD hd (by omega))
  by_cases hg : goneB es k = true
  case neg =>
    rw [if_neg hg] at hc
    rw [hc]
    have HC := Lib.hid (goneB_no (es := es) (k := k) (by simpa using hg))
    generalize entOk (entL es k) = ok at *
    generalize entR (entL es k) = r at *
    clear h0 h hs hin hd hn hc hb0 hb1 hg
    go_enter Tryz.func25, Tryz.ntmps25
    go_wp2_with fail
    refine (OP.out _ ((Below.refl _ _).alloc (Nat.le_refl _) _)).mono ?_
    rintro e w1 ⟨hy, _, hb1⟩
    obtain ⟨p, g, cap, rfl, hp, hpg, hD⟩ := hy H0.out
    have x2 : w1.cell? ⟨p, 2, none⟩ = some (.int .i64 ((es.length / 8 : Nat) : Int)) := (hD.1 2 _ rfl).1
    have HD := Lib.hid hD
    replace R0 := Lib.hid (R0.out.below hb1 (by simp))
    have FB := Lib.hid (show Below w.heap.size w w1 from Below.trans (by go_grown) (hb1.mono (by simp)))
    have hlt : w.heap.size < w1.heap.size := by have := hb1.size; simp at this; omega
    clear hy hD hb1
    generalize ((es.length / 8 : Nat) : Int) = l2 at *
    go_wp2_with fail
    refine (IN.out _).mono ?_
    rintro e w2 ⟨rfl, rfl⟩
    clear x2
    go_wp2_with fail
    refine (LK.out p g cap _ HD.out).mono ?_
    rintro e w3 ⟨rfl, hb3⟩
    replace R0 := Lib.hid (R0.out.below hb3 hlt)
    replace FB := Lib.hid (FB.out.trans (hb3.mono FB.out.size))
    replace hlt := Nat.lt_of_lt_of_le hlt hb3.size
    clear hb3
    go_upto_region 7 with (fail)
    have BA := Lib.hid (show Below w3.heap.size w3 (w3.alloc (.cells #[.string r.f0, .int .i64 r.f1, .int .i64 r.f2, .bool r.f3, .bool r.f4] 45)) from (Below.refl w3.heap.size w3).alloc (Nat.le_refl _) _)
    have KB := Lib.hid (BoxAt.new w3 #[.string r.f0, .int .i64 r.f1, .int .i64 r.f2, .bool r.f3, .bool r.f4] 45 _ rfl)
    replace R0 := Lib.hid (R0.out.below BA.out hlt)
    replace FB := Lib.hid (FB.out.trans (BA.out.mono FB.out.size))
    clear BA hlt
    generalize (w3.alloc (.cells #[.string r.f0, .int .i64 r.f1, .int .i64 r.f2, .bool r.f3, .bool r.f4] 45)) = W3 at *
    generalize w3.heap.size = g3 at *
    obtain ⟨a0, z0⟩ := R0.out 0 _ rfl
    obtain ⟨a1, z1⟩ := R0.out 1 _ rfl
    obtain ⟨a2, z2⟩ := R0.out 2 _ rfl
    obtain ⟨a3, z3⟩ := R0.out 3 _ rfl
    obtain ⟨a4, z4⟩ := R0.out 4 _ rfl
    have k4 := KB.out 4 _ rfl
    clear KB
    rcases HC.out with h1 | ⟨h1, h2⟩
    · subst h1
      clear HC
      go_wp2
      refine bodyPost_ret (v := .tuple #[.pointer none, .agg #[.string ⟨#[]⟩, .int .i64 0, .int .i64 0, .bool false, .bool false], .int .i64 3]) (by simp [results, Tryz.results25, go_sem, a0, a1, a2, a3, a4]) rfl ⟨fun h => absurd h (by omega), fun _ => rfl, ?_⟩
      exact ((((FB.out.setCell (by simp) _).setCell (by simp) _).setCell (by simp) _).setCell (by simp) _).setCell (by simp) _
    · subst h1
      rw [h2] at k4
      clear HC h2
      go_wp2
      refine bodyPost_ret (v := .tuple #[.pointer none, .agg #[.string ⟨#[]⟩, .int .i64 0, .int .i64 0, .bool false, .bool false], .int .i64 3]) (by simp [results, Tryz.results25, go_sem, a0, a1, a2, a3, a4]) rfl ⟨fun h => absurd h (by omega), fun _ => rfl, ?_⟩
      exact ((((FB.out.setCell (by simp) _).setCell (by simp) _).setCell (by simp) _).setCell (by simp) _).setCell (by simp) _
  case pos =>
    rw [if_pos hg] at hc
    rw [hc]
    obtain ⟨g1, g2⟩ := goneB_yes hg
    rw [g1] at LK
    generalize entR (entL es k) = r at *
    obtain ⟨r0, r1, r2, r3, r4⟩ := r
    dsimp only at g2 LK ⊢
    subst g2
    clear h0 h hs hin hd hn hc hb0 hb1 hg g1
    go_enter Tryz.func25, Tryz.ntmps25
    go_wp2_with fail
    refine (OP.out _ ((Below.refl _ _).alloc (Nat.le_refl _) _)).mono ?_
    rintro e w1 ⟨hy, _, hb1⟩
    obtain ⟨p, g, cap, rfl, hp, hpg, hD⟩ := hy H0.out
    have x2 : w1.cell? ⟨p, 2, none⟩ = some (.int .i64 ((es.length / 8 : Nat) : Int)) := (hD.1 2 _ rfl).1
    have HD := Lib.hid hD
    have hltD := hD.lt
    replace R0 := Lib.hid (R0.out.below hb1 (by simp))
    have FB := Lib.hid (show Below w.heap.size w w1 from Below.trans (by go_grown) (hb1.mono (by simp)))
    have hlt : w.heap.size < w1.heap.size := by have := hb1.size; simp at this; omega
    have hwp : w.heap.size < p := by simp at hp; omega
    clear hy hD hb1 hp
    generalize ((es.length / 8 : Nat) : Int) = l2 at *
    go_wp2_with fail
    refine (IN.out _).mono ?_
    rintro e w2 ⟨rfl, rfl⟩
    clear x2
    go_wp2_with fail
    refine (LK.out p g cap _ HD.out).mono ?_
    rintro e w3 ⟨rfl, hb3⟩
    replace R0 := Lib.hid (R0.out.below hb3 hlt)
    replace FB := Lib.hid (FB.out.trans (hb3.mono FB.out.size))
    replace HD := Lib.hid (HD.out.below hb3 hltD.1 hltD.2)
    replace hlt := Nat.lt_of_lt_of_le hlt hb3.size
    have hltD2 := And.intro (Nat.lt_of_lt_of_le hltD.1 hb3.size) (Nat.lt_of_lt_of_le hltD.2 hb3.size)
    clear hb3 hltD
    go_upto_region 7 with (fail)
    have BA := Lib.hid (show Below w3.heap.size w3 (w3.alloc (.cells #[.string r0, .int .i64 r1, .int .i64 r2, .bool r3, .bool true] 45)) from (Below.refl w3.heap.size w3).alloc (Nat.le_refl _) _)
    have KB := Lib.hid (BoxAt.new w3 #[.string r0, .int .i64 r1, .int .i64 r2, .bool r3, .bool true] 45 _ rfl)
    replace R0 := Lib.hid (R0.out.below BA.out hlt)
    replace FB := Lib.hid (FB.out.trans (BA.out.mono FB.out.size))
    replace HD := Lib.hid (HD.out.below BA.out hltD2.1 hltD2.2)
    clear BA hlt hltD2
    generalize (w3.alloc (.cells #[.string r0, .int .i64 r1, .int .i64 r2, .bool r3, .bool true] 45)) = W3 at *
    generalize w3.heap.size = g3 at *
    obtain ⟨a0, z0⟩ := R0.out 0 _ rfl
    obtain ⟨a1, z1⟩ := R0.out 1 _ rfl
    obtain ⟨a2, z2⟩ := R0.out 2 _ rfl
    obtain ⟨a3, z3⟩ := R0.out 3 _ rfl
    obtain ⟨a4, z4⟩ := R0.out 4 _ rfl
    have k0 := KB.out 0 _ rfl
    have k1 := KB.out 1 _ rfl
    have k2 := KB.out 2 _ rfl
    have k3 := KB.out 3 _ rfl
    have k4 := KB.out 4 _ rfl
    clear KB
    go_wp2
    go_region
    go_wp2
    refine bodyPost_ret (v := .tuple #[.pointer (some ⟨p, 0, none⟩), .agg #[.string r0, .int .i64 r1, .int .i64 r2, .bool r3, .bool true], .int .i64 0]) (by simp [results, Tryz.results25, go_sem, a0, a1, a2, a3, a4]) rfl ⟨fun _ => ⟨p, g, cap, rfl, hwp, hpg, ?_⟩, fun h => absurd rfl h, ?_⟩
    · exact ((((HD.out.set (by simp; omega) (by simp; omega) _).set (by simp; omega) (by simp; omega) _).set (by simp; omega) (by simp; omega) _).set (by simp; omega) (by simp; omega) _).set (by simp; omega) (by simp; omega) _
    · exact (((((FB.out.setCell (Nat.le_refl _) _).setCell (Nat.le_refl _) _).setCell (Nat.le_refl _) _).setCell (Nat.le_refl _) _).setCell (Nat.le_refl _) _).drew
end Go.Proofs.YtpdodpnhohmjaaaGreatDoor
