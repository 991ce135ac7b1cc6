/- Draws of discs: spec.l12DrawData, l12DrawSmall -/
import Derived.Test.YtllcbiafghhcmaaPkFnDeviceOrderA
import Derived.Test.YtllcbiafghhcmaaPkFnDeviceOrderNewSpC
import Derived.Test.YtllcbiafghhcmaaPkFnDeviceOrderBoxP
namespace Go.Proofs.Ytllcbiafghhcmaa
open Go.RowKit
set_option linter.unusedVariables false
set_option linter.unusedSimpArgs false
set_option maxRecDepth 20000
theorem four_ints (w : World) : Ints (w.alloc (.cells #[.int .i64 0, .int .i64 65, .int .i64 229, .int .i64 78] 2)) w.heap.size 0 [0, 65, 229, 78] := by
  intro i x hx
  have h := heap_alloc_new w (.cells #[.int .i64 0, .int .i64 65, .int .i64 229, .int .i64 78] 2)
  match i, hx with
  | 0, hx => simp at hx; subst hx; simp only [World.cell?, h]; rfl
  | 1, hx => simp at hx; subst hx; simp only [World.cell?, h]; rfl
  | 2, hx => simp at hx; subst hx; simp only [World.cell?, h]; rfl
  | 3, hx => simp at hx; subst hx; simp only [World.cell?, h]; rfl
  | i + 4, hx => simp at hx
theorem OwnB.sf {w w' : World} {B p : Nat} {v : Value} {l : List UInt8} (h : OwnB w B v l) (ho : Sf p w w') (hp : p < B) : OwnB w' B v l := by
  refine ⟨h.1, ?_⟩
  rcases h.2 with h2 | ⟨g, cap, cur, rfl, hg, hh, r⟩
  · exact .inl h2
  · exact .inr ⟨g, cap, cur, rfl, hg, by rw [ho.2.2.2 g (Array.getElem?_eq_some_iff.1 hh).1 (by omega)]; exact hh, r⟩
set_option maxHeartbeats 8000000 in
theorem l12DrawData_any (m : Nat) (hm : m ≤ 1000) (p : Nat) (a : Option Addr) (n cap k : Nat) (w : World) (hn : n ≤ 1048576) (hk : k < 10000000000) (ha : CodeLt a n w.heap.size) (h : SrcAt w p a n cap k) :
    Calls Try.prog 44 #[.pointer (some ⟨p, 0, none⟩), .int .i64 (m : Int)] w fun e w' => ∃ s : ByteArray, e = .returned (.string s) ∧ s.size = m ∧ ChoseF p a n cap k (2 + 3 * m) w w' := by
  have hp := h.lt
  have h3 : SrcAt (w.alloc (.cells #[.int .i64 0, .int .i64 65, .int .i64 229, .int .i64 78] 2)) p a n cap k := h.below ha (Below.alloc (Below.refl _ w) (Nat.le_refl _) _) hp
  have A1 := Lib.hid (among_any w.heap.size 4 [0, 65, 229, 78] p a n cap k _ (by decide) (by decide) (by omega) (four_ints w) hn (by omega) h3)
  have HS0 := Lib.hid ((Sf.refl hp).alloc (.cells #[.int .i64 0, .int .i64 65, .int .i64 229, .int .i64 78] 2))
  clear h h3
  go_enter Try.func44, Try.ntmps44
  go_wp2_with fail
  refine A1.out.mono ?_
  rintro e w1 ⟨c, rfl, hc, hch⟩
  obtain ⟨k1, q1, q2, q3, q4⟩ := Chose.f (by simp; omega) hch
  have hc2 : 0 ≤ c ∧ c < 256 := by simp at hc; omega
  obtain ⟨hc0, hc1⟩ := hc2
  have HS1 := Lib.hid (HS0.out.trans q4)
  have hz1 := HS1.out.2.2.1
  have hp1 : p < w1.heap.size := by omega
  have hO : OwnB (w1.alloc (.cells #[] 5)) w1.heap.size (.slice (some ⟨w1.heap.size, 0, none⟩) 0 0) [] := OwnB.nil w1 _ (Nat.le_refl _)
  have hS : SrcAt (w1.alloc (.cells #[] 5)) p a n cap k1 := q3.below (C := w1.heap.size) (ha.mono (by omega)) (Below.alloc (Below.refl _ w1) (Nat.le_refl _) _) hp1
  have HX0 := Lib.hid (And.intro hO hS)
  have hw8 : c % 256 = c := by omega
  clear hch q3 q4 hO hS A1 HS0 hc
  go_wp2
  go_loopw [5, 6] (fun b out wr => ∃ (z : Int) (l : List UInt8) (g d : Nat) (k4 : Nat), b = .int .u8 z ∧ 0 ≤ z ∧ z < 256 ∧ out = .slice (some ⟨g, 0, none⟩) l.length d ∧ l.length ≤ m ∧ OwnB wr w1.heap.size out l ∧ k1 ≤ k4 ∧ k4 ≤ k1 + 3 * l.length ∧ SrcAt wr p a n cap k4 ∧ Sf p w1 wr) (fun _ out _ => match out with | .slice _ j _ => m - j | _ => 0)
  case atStart => exact ⟨c, [], w1.heap.size, 0, k1, rfl, hc0, hc1, rfl, Nat.zero_le _, HX0.out.1, Nat.le_refl _, by omega, HX0.out.2, (Sf.refl hp1).alloc _⟩
  case round =>
    obtain ⟨z, l, g, d, k4, rfl, hz0, hz2, rfl, hl, hown, hk4, hk5, hsrc, hsf⟩ := hrel
    have hzs := hsf.2.2.1
    by_cases hlt : l.length < m
    · have e1 : (l.length : Int) < (m : Int) := by omega
      have O1 := Lib.hid (one_any 9 p a n cap k4 wr (by omega) hn (by omega) hsrc)
      have HH := Lib.hid (And.intro hown hsf)
      clear hown hsf hsrc
      go_wp2_with fail
      refine O1.out.mono ?_
      rintro e w2 ⟨b, rfl, hch⟩
      obtain ⟨k6, r1, r2, r3, r4⟩ := Chose.f (by omega) hch
      clear hch
      have hz22 := r4.2.2.1
      cases b with
      | false =>
        have hown2 := HH.out.1.sf r4 hp1
        have HX := Lib.hid (And.intro r3 (HH.out.2.trans r4))
        clear r3 r4 HH O1
        have hll : l.length < 2147483648 := by omega
        go_wp2_with (at_builtin; refine wpList_appendB rfl _ _ rfl rfl (hown2.alloc _) z hz0 hz2 ⟨w2.heap.size, 0, none⟩ 1 rfl (World.news_of_block (cs := #[.int .u8 z]) (t := 5) (fr := (0, 0)) (heap_alloc_new w2 _)) hll (by simp; omega) ?_; intro g6 cap6 w6 hown6 _ hb6 _)
        have hs6 : SrcAt w6 p a n cap k6 := (HX.out.1.below (ha.mono (by omega)) (Below.alloc (Below.refl w1.heap.size w2) (by omega) _) hp1).below (ha.mono (by omega)) hb6 hp1
        go_roundw
        case rel => exact ⟨z, l ++ [z.toNat.toUInt8], g6, cap6, k6, rfl, hz0, hz2, by simp, by simp; omega, by simpa using hown6, by omega, by simp; omega, hs6, (HX.out.2.alloc _).grow hb6⟩
        case measure => simp; omega
      | true =>
        have P1 := Lib.hid (next_any p a n cap k6 w2 hn (by omega) r3)
        have hown1 := HH.out.1.sf r4 hp1
        have HZ := Lib.hid (HH.out.2.trans r4)
        clear r3 r4 HH O1 hz0 hz2
        go_wp2_with fail
        refine P1.out.mono ?_
        rintro e w3 ⟨z, rfl, hz0, hz2, hch⟩
        obtain ⟨k7, t1, t2, t3, t4⟩ := Chose.f (by omega) hch
        have hz33 := t4.2.2.1
        have hown2 := hown1.sf t4 hp1
        have HX := Lib.hid (And.intro t3 (HZ.out.trans t4))
        have hw9 : z % 256 = z := by omega
        clear hch t3 t4 HZ P1 hown1
        have hll : l.length < 2147483648 := by omega
        go_wp2_with (at_builtin; refine wpList_appendB rfl _ _ rfl rfl (hown2.alloc _) z hz0 hz2 ⟨w3.heap.size, 0, none⟩ 1 rfl (World.news_of_block (cs := #[.int .u8 z]) (t := 5) (fr := (0, 0)) (heap_alloc_new w3 _)) hll (by simp; omega) ?_; intro g6 cap6 w6 hown6 _ hb6 _)
        have hs6 : SrcAt w6 p a n cap k7 := (HX.out.1.below (ha.mono (by omega)) (Below.alloc (Below.refl w1.heap.size w3) (by omega) _) hp1).below (ha.mono (by omega)) hb6 hp1
        go_roundw
        case rel => exact ⟨z, l ++ [z.toNat.toUInt8], g6, cap6, k7, rfl, hz0, hz2, by simp, by simp; omega, by simpa using hown6, by omega, by simp; omega, hs6, (HX.out.2.alloc _).grow hb6⟩
        case measure => simp; omega
    · obtain rfl : m = l.length := by omega
      have hcv := conv_own hown
      have e1 : ¬ (l.length : Int) < (l.length : Int) := by omega
      have HX := Lib.hid (And.intro hsrc hsf)
      clear hown hsrc hsf
      go_wp2
      go_ret
      exact ⟨_, rfl, by show l.toArray.size = _; simp, k4, by omega, by omega, HX.out.1, HS1.out.trans HX.out.2⟩
theorem arr_set_same {a : Array Value} {i : Nat} {v : Value} (h : a[i]? = some v) : a.setIfInBounds i v = a := by
  apply Array.ext_getElem?
  intro j
  rw [Array.getElem?_setIfInBounds]
  split
  · rename_i e
    subst e
    rw [if_pos (Array.getElem?_eq_some_iff.1 h).1, h]
  · rfl
theorem OwnBlk.put0 {w : World} {B g : Nat} {es : List SectorV} (h : OwnBlk w B g es) (i : Nat) (e : SectorV) (he : es[i]? = some e) (s : ByteArray) : OwnBlk (w.setCell ⟨g, i * 2, none⟩ (.string s)) B g (es.set i ⟨s, e.f1⟩) := by
  have hi := (List.getElem?_eq_some_iff.1 he).1
  have hc := (h.cell he).2
  refine (h.put i ⟨s, e.f1⟩ hi).keep ?_
  obtain ⟨rest, h1, hh⟩ := h
  have e1 := heap_set_marked w g (i * 2) _ _ _ (.string s) hh
  rw [heap_set_marked _ g (i * 2 + 1) _ _ _ (.int .i64 e.f1) e1, e1]
  congr 2
  symm
  apply arr_set_same
  rw [Array.getElem?_setIfInBounds, if_neg (by omega)]
  simpa [World.cell?, hh] using hc
theorem OwnBlk.put1 {w : World} {B g : Nat} {es : List SectorV} (h : OwnBlk w B g es) (i : Nat) (e : SectorV) (he : es[i]? = some e) (z : Int) : OwnBlk (w.setCell ⟨g, i * 2 + 1, none⟩ (.int .i64 z)) B g (es.set i ⟨e.f0, z⟩) := by
  have hi := (List.getElem?_eq_some_iff.1 he).1
  have hc := (h.cell he).1
  refine (h.put i ⟨e.f0, z⟩ hi).keep ?_
  obtain ⟨rest, h1, hh⟩ := h
  have e0 : (w.setCell ⟨g, i * 2, none⟩ (.string e.f0)).heap[g]? = w.heap[g]? := by
    rw [heap_set_marked w g (i * 2) _ _ _ (.string e.f0) hh, hh]
    congr 2
    apply arr_set_same
    simpa [World.cell?, hh] using hc
  rw [heap_set_marked w g (i * 2 + 1) _ _ _ (.int .i64 z) hh, heap_set_marked _ g (i * 2 + 1) _ _ _ (.int .i64 z) (e0.trans hh)]
theorem OwnBlk.sf {w w' : World} {B g p : Nat} {es : List SectorV} (h : OwnBlk w B g es) (ho : Sf p w w') (hp : g ≠ p) : OwnBlk w' B g es := h.keep (ho.2.2.2 g h.lt hp)
theorem BoxF.sf {w w' : World} {q p : Nat} {vs : Array Value} (h : BoxF w q vs) (ho : Sf p w w') (hq : q < w.heap.size) (hp : q ≠ p) : BoxF w' q vs := h.kept (ho.2.2.2 q hq hp)
theorem geoSz {a b c d : Int} (h : geoB a b c d = true) : inB 0 2 d = true := inB_iff.2 (geoB_iff.1 h).2.2.2
/-- A drawn disc: few sectors, of the size that the disc tells. -/
def DrOk (x : DiscV) : Prop := geoB x.f0 x.f1 x.f2 x.f3 = true ∧ 1 ≤ x.f4.length ∧ x.f4.length ≤ 30 ∧ ∀ e ∈ x.f4, e.f0.size ≤ 32
theorem five_st (w : World) : Ints (w.alloc (.cells #[.int .i64 1, .int .i64 1, .int .i64 1, .int .i64 2, .int .i64 4] 2)) w.heap.size 0 [1, 1, 1, 2, 4] := by
  intro i x hx
  have h := heap_alloc_new w (.cells #[.int .i64 1, .int .i64 1, .int .i64 1, .int .i64 2, .int .i64 4] 2)
  match i, hx with
  | 0, hx => simp at hx; subst hx; simp only [World.cell?, h]; rfl
  | 1, hx => simp at hx; subst hx; simp only [World.cell?, h]; rfl
  | 2, hx => simp at hx; subst hx; simp only [World.cell?, h]; rfl
  | 3, hx => simp at hx; subst hx; simp only [World.cell?, h]; rfl
  | 4, hx => simp at hx; subst hx; simp only [World.cell?, h]; rfl
  | i + 5, hx => simp at hx
set_option maxHeartbeats 8000000 in
theorem l12DrawSmall_any (p : Nat) (a : Option Addr) (n cap k : Nat) (w : World) (hn : n ≤ 1048576) (hk : k < 1000000000) (ha : CodeLt a n w.heap.size) (h : SrcAt w p a n cap k) :
    Calls Try.prog 66 #[.pointer (some ⟨p, 0, none⟩)] w fun e w' => ∃ (x : DiscV) (g c : Nat), e = .returned (.agg #[.int .i64 x.f0, .int .i64 x.f1, .int .i64 x.f2, .int .i64 x.f3, .slice (some ⟨g, 0, none⟩) x.f4.length c]) ∧ DrOk x ∧ OwnBlk w' w.heap.size g x.f4 ∧ SizC w' g x.f4.length c ∧ ChoseF p a n cap k 10000 w w' := by
  have hp := h.lt
  go_enter Try.func66, Try.ntmps66
  go_upto_region 1 with (fail)
  have R0 := BoxF.new w #[.int .i64 0, .int .i64 0, .int .i64 0, .int .i64 0, .slice none 0 0] 26 _ rfl
  have S0 : SrcAt (w.alloc (.cells #[.int .i64 0, .int .i64 0, .int .i64 0, .int .i64 0, .slice none 0 0] 26)) p a n cap k := h.below ha (Below.alloc (Below.refl _ w) (Nat.le_refl _) _) hp
  have F0 := (Sf.refl hp).alloc (.cells #[.int .i64 0, .int .i64 0, .int .i64 0, .int .i64 0, .slice none 0 0] 26)
  have z0 : w.heap.size < (w.alloc (.cells #[.int .i64 0, .int .i64 0, .int .i64 0, .int .i64 0, .slice none 0 0] 26)).heap.size := by simp
  generalize w.alloc (.cells #[.int .i64 0, .int .i64 0, .int .i64 0, .int .i64 0, .slice none 0 0] 26) = W0 at *
  have hpr : w.heap.size ≠ p := by omega
  have P1 := Lib.hid (pick_any 3 p a n cap k W0 (by omega) hn (by omega) S0)
  have HH0 := Lib.hid (And.intro R0 F0)
  clear R0 S0 F0 h
  go_wp2_with fail
  refine P1.out.mono ?_
  rintro e w1 ⟨v1, rfl, a0, a1, hch⟩
  obtain ⟨k1, q1, q2, S1, G1⟩ := Chose.f (by omega) hch
  have HH1 := Lib.hid (And.intro (HH0.out.1.sf G1 z0 hpr) (HH0.out.2.trans G1))
  have z1 : w.heap.size < w1.heap.size := Nat.lt_of_lt_of_le z0 G1.2.2.1
  have P2 := Lib.hid (pick_any 2 p a n cap k1 w1 (by omega) hn (by omega) S1)
  have a2 : v1 < 3 := by omega
  clear hch S1 G1 P1 HH0 a1
  go_wp2_with fail
  refine P2.out.mono ?_
  rintro e w2 ⟨v2, rfl, b0, b1, hch⟩
  obtain ⟨k2, q3, q4, S2, G2⟩ := Chose.f (by omega) hch
  have HH2 := Lib.hid (And.intro (HH1.out.1.sf G2 z1 hpr) (HH1.out.2.trans G2))
  have z2 : w.heap.size < w2.heap.size := Nat.lt_of_lt_of_le z1 G2.2.2.1
  have P3 := Lib.hid (pick_any 5 p a n cap k2 w2 (by omega) hn (by omega) S2)
  have b2 : v2 < 2 := by omega
  clear hch S2 G2 P2 HH1 b1
  go_wp2_with fail
  refine P3.out.mono ?_
  rintro e w3 ⟨v3, rfl, c0, c1, hch⟩
  obtain ⟨k3, q5, q6, S3, G3⟩ := Chose.f (by omega) hch
  have HH3 := Lib.hid (And.intro (HH2.out.1.sf G3 z2 hpr) (HH2.out.2.trans G3))
  have z3 : w.heap.size < w3.heap.size := Nat.lt_of_lt_of_le z2 G3.2.2.1
  have P4 := Lib.hid (pick_any 3 p a n cap k3 w3 (by omega) hn (by omega) S3)
  have c2 : v3 < 5 := by omega
  clear hch S3 G3 P3 HH2 c1
  go_wp2_with fail
  refine P4.out.mono ?_
  rintro e w4 ⟨v4, rfl, d0, d1, hch⟩
  obtain ⟨k4, q7, q8, S4, G4⟩ := Chose.f (by omega) hch
  have HH4 := Lib.hid (And.intro S4 (And.intro (HH3.out.1.sf G4 z3 hpr) (HH3.out.2.trans G4)))
  have z4 : w.heap.size < w4.heap.size := Nat.lt_of_lt_of_le z3 G4.2.2.1
  have d2 : v4 < 3 := by omega
  clear hch S4 G4 P4 HH3 d1
  have hgeo : geoB (1 + v1) (1 + v2) (1 + v3) v4 = true := geoB_iff.2 (by omega)
  obtain ⟨N, hN⟩ : ∃ N : Nat, (1 + v1) * (1 + v2) * (1 + v3) = (N : Int) := ⟨((1 + v1) * (1 + v2) * (1 + v3)).toNat, by
    have e1 : 0 ≤ (1 + v1) * (1 + v2) := Int.mul_nonneg (by omega) (by omega)
    have := Int.mul_nonneg e1 (show 0 ≤ 1 + v3 by omega)
    omega⟩
  have hN30 : 1 ≤ N ∧ N ≤ 30 := by
    have e1 : (1 + v1) * (1 + v2) ≤ 3 * 2 := Int.mul_le_mul (by omega) (by omega) (by omega) (by omega)
    have e2 : (1 + v1) * (1 + v2) * (1 + v3) ≤ 6 * 5 := Int.mul_le_mul (by omega) (by omega) (by omega) (by omega)
    have e3 : 1 * 1 ≤ (1 + v1) * (1 + v2) := Int.mul_le_mul (by omega) (by omega) (by omega) (by omega)
    have e4 : 1 * 1 ≤ (1 + v1) * (1 + v2) * (1 + v3) := Int.mul_le_mul (by omega) (by omega) (by omega) (by omega)
    omega
  obtain ⟨M, hM1, hM2⟩ : ∃ M : Nat, secN v4 = (M : Int) ∧ M ≤ 32 := by
    obtain ⟨m0, hm1, _, hm3⟩ := secN_three (inB_iff.2 ⟨d0, by omega⟩ : inB 0 2 v4 = true)
    exact ⟨m0, by omega, by omega⟩
  have NW := Lib.hid (fun w => l12NewC_any (1 + v1) (1 + v2) (1 + v3) v4 N M w hgeo hN hM1)
  have HG := Lib.hid hgeo
  clear hN hgeo
  go_wp2_with fail
  refine (NW.out _).mono ?_
  rintro e w5 ⟨g, c, rfl, hown, hsc5, hb5⟩
  have hg4 : w4.heap.size ≤ g := hown.choose_spec.1
  have hgl := hown.lt
  have hz5 := hb5.size
  have p4 : p < w4.heap.size := by omega
  have G5 := (Sf.of_below p4 hb5)
  have X5 := Lib.hid (And.intro (HH4.out.1.below (ha.mono (by omega)) (Below.mono hb5 (by omega : w4.heap.size ≤ w4.heap.size)) p4) (And.intro (HH4.out.2.1.sf G5 z4 hpr) (HH4.out.2.2.trans G5)))
  have HO5 := Lib.hid (And.intro hown hsc5)
  clear hown hsc5 hb5 G5 HH4 NW
  generalize 1 + v1 = A at *
  generalize 1 + v2 = B at *
  generalize 1 + v3 = C at *
  clear a0 a2 b0 b2 c0 c2
  go_upto_region 5 with (fail)
  have B6 := BoxF.new w5 #[.int .i64 A, .int .i64 B, .int .i64 C, .int .i64 v4, .slice (some ⟨g, 0, none⟩) N c] 26 _ rfl
  have hW6 : Below w5.heap.size w5 (w5.alloc (.cells #[.int .i64 A, .int .i64 B, .int .i64 C, .int .i64 v4, .slice (some ⟨g, 0, none⟩) N c] 26)) := (Below.refl _ _).alloc (Nat.le_refl _) _
  have hq6 : w5.heap.size < (w5.alloc (.cells #[.int .i64 A, .int .i64 B, .int .i64 C, .int .i64 v4, .slice (some ⟨g, 0, none⟩) N c] 26)).heap.size := by simp
  generalize w5.alloc (.cells #[.int .i64 A, .int .i64 B, .int .i64 C, .int .i64 v4, .slice (some ⟨g, 0, none⟩) N c] 26) = W6 at *
  have p5 : p < w5.heap.size := by omega
  have G6 := Sf.of_below p5 hW6
  have X6 := Lib.hid (And.intro (HO5.out.1.sf G6 (by omega)) (And.intro B6 (And.intro (X5.out.2.1.sf G6 (by omega) hpr) (And.intro (X5.out.1.below (ha.mono (by omega)) hW6 p5) (X5.out.2.2.trans G6)))))
  have hQp : w5.heap.size ≠ p := by omega
  have hQr : w.heap.size < w5.heap.size := by omega
  have hQg : w5.heap.size ≠ g := by omega
  have hrg : w.heap.size ≠ g := by omega
  have Z6 := Lib.hid (HO5.out.2.sf G6 (by omega))
  clear G6 hW6 B6 X5 HO5
  generalize w5.heap.size = Q at *
  go_wp2
  go_loopw [7] (fun i wr => ∃ (j : Nat) (es : List SectorV) (kk : Nat), j ≤ N ∧ i = .int .i64 (j : Int) ∧ es.length = N ∧ Hid (∀ e ∈ es, e.f0.size ≤ 32) ∧ OwnBlk wr w4.heap.size g es ∧ BoxF wr Q #[.int .i64 A, .int .i64 B, .int .i64 C, .int .i64 v4, .slice (some ⟨g, 0, none⟩) N c] ∧ BoxF wr w.heap.size #[.int .i64 0, .int .i64 0, .int .i64 0, .int .i64 0, .slice none 0 0] ∧ k4 ≤ kk ∧ kk ≤ k4 + 200 * j ∧ SrcAt wr p a n cap kk ∧ Sf p w wr ∧ Q < wr.heap.size ∧ Hid (SizC wr g N c)) (fun i _ => N - (intOf i).toNat)
  case atStart => exact ⟨0, List.replicate N (missS M), k4, by omega, rfl, by simp, by unfold Hid; intro e he; rw [List.eq_of_mem_replicate he]; unfold missS; rw [zerosS_size]; exact hM2, X6.out.1, X6.out.2.1, X6.out.2.2.1, Nat.le_refl _, by omega, X6.out.2.2.2.1, X6.out.2.2.2.2, hq6, Z6⟩
  case round =>
    obtain ⟨j, es, kk, hj, rfl, hlen, hsz, hown, hbx, hr0, hk1, hk2, hsrc, hsf, hqz, hsc⟩ := hrel
    obtain ⟨x4, _⟩ := hbx 4 _ rfl
    by_cases hlt : j < N
    · have e1 : (j : Int) < (N : Int) := by omega
      obtain ⟨e, he⟩ : ∃ e, es[j]? = some e := ⟨es[j]'(by omega), by simp [hlen, hlt]⟩
      have hzw := hsf.2.2.1
      have hpw : p < wr.heap.size := by omega
      have hgp : g ≠ p := by omega
      have hgw : g < wr.heap.size := hown.lt
      have O1 := Lib.hid (one_any 8 p a n cap kk wr (by omega) hn (by omega) hsrc)
      have HE := Lib.hid (And.intro hown (And.intro hbx (And.intro hr0 hsf)))
      have HSC := Lib.hid hsc.out; clear hsc
      clear hown hbx hr0 hsf hsrc
      go_wp2_with fail
      refine O1.out.mono ?_
      rintro e_ w2 ⟨b, rfl, hch⟩
      obtain ⟨k6, u1, u2, S6, G6⟩ := Chose.f hpw hch
      have hz6 := G6.2.2.1
      have H6 := Lib.hid (And.intro (HE.out.1.sf G6 hgp) (And.intro (HE.out.2.1.sf G6 hqz hQp) (And.intro (HE.out.2.2.1.sf G6 (by omega) hpr) (And.intro (HE.out.2.2.2.trans G6) S6))))
      have HSC6 := Lib.hid (HSC.out.sf G6 hgp)
      clear hch G6 S6 HE O1 HSC
      cases b with
      | true =>
        obtain ⟨x4, _⟩ := H6.out.2.1 4 _ rfl
        go_wp2
        go_roundw
        case rel => exact ⟨j + 1, es, k6, by omega, by go_num, hlen, hsz, H6.out.1, H6.out.2.1, H6.out.2.2.1, by omega, by omega, H6.out.2.2.2.2, H6.out.2.2.2.1, by omega, HSC6⟩
        case measure => simp [intOf]; omega
      | false =>
        have p6 : p < w2.heap.size := by omega
        have LB := Lib.hid (fun w => l12Bytes_any v4 M w (geoSz HG.out) hM1)
        have DD := Lib.hid (fun W (hs : SrcAt W p a n cap k6) (hz : w.heap.size ≤ W.heap.size) => l12DrawData_any M (by omega) p a n cap k6 W hn (by omega) (ha.mono hz) hs)
        have KS := Lib.hid (fun w' (hb : Sf p w2 w') => (show w'.cell? ⟨Q, 3, none⟩ = some (.int .i64 v4) ∧ w'.cell? ⟨Q, 4, none⟩ = some (.slice (some ⟨g, 0, none⟩) N c) from ⟨((H6.out.2.1.sf hb (by omega) hQp) 3 _ rfl).1, ((H6.out.2.1.sf hb (by omega) hQp) 4 _ rfl).1⟩))
        have HC := Lib.hid (show Sf p w2 w2.drew from (Sf.refl p6).drew)
        have HS6 := Lib.hid H6.out.2.2.2.2
        have hz26 : w.heap.size ≤ w2.heap.size := by omega
        clear x4
        go_upto_region 9 with (fail)
        refine wp_region_held_drew (S := (fun w' => w'.cell? ⟨Q, 3, none⟩ = some (.int .i64 v4) ∧ w'.cell? ⟨Q, 4, none⟩ = some (.slice (some ⟨g, 0, none⟩) N c))) (by kernel_rfl) (KS.out _ HC.out) (fun hHeld => ?_)
        refine wpAnyH_take (i := 0) (oi := { dst := some 32, op := Op.fieldAddr 26 (Operand.tmp 6) 4, type := 0, pos := "l12_discs.go:243", after := #[], guard := none }) (v := ?_) rfl (by kernel_rfl) (by kernel_rfl) (by kernel_rfl) (fun _ _ _ h => h) (Or.inl ⟨by rfl, ?hy⟩) hHeld ?_
        case hy => (intro w' hSw; (try dsimp only at hSw); go_simp; try with_reducible rfl)
        simp only [Act.put, List.setIfInBounds_toArray, List.set_cons_zero, List.set_cons_succ]
        refine wpAnyH_take (i := 1) (oi := { dst := some 33, op := Op.load 24 (Operand.tmp 32), type := 24, pos := "l12_discs.go:243", after := #[{ on := 0, ground := Ground.data }], guard := none }) (v := ?_) rfl (by kernel_rfl) (by kernel_rfl) (by kernel_rfl) (fun _ _ _ h => h) (Or.inl ⟨by rfl, ?hy⟩) hHeld ?_
        case hy => (intro w' hSw; (try dsimp only at hSw); go_simp; try with_reducible rfl)
        simp only [Act.put, List.setIfInBounds_toArray, List.set_cons_zero, List.set_cons_succ]
        refine wpAnyH_take (i := 2) (oi := { dst := some 34, op := Op.move (Operand.tmp 7), type := 3, pos := "l12_discs.go:243", after := #[], guard := none }) (v := ?_) rfl (by kernel_rfl) (by kernel_rfl) (by kernel_rfl) (fun _ _ _ h => h) (Or.inl ⟨by rfl, ?hy⟩) hHeld ?_
        case hy => (intro w' hSw; (try dsimp only at hSw); go_simp; try with_reducible rfl)
        simp only [Act.put, List.setIfInBounds_toArray, List.set_cons_zero, List.set_cons_succ]
        refine wpAnyH_take (i := 3) (oi := { dst := some 35, op := Op.move (Operand.tmp 0), type := 64, pos := "l12_discs.go:243", after := #[], guard := none }) (v := ?_) rfl (by kernel_rfl) (by kernel_rfl) (by kernel_rfl) (fun _ _ _ h => h) (Or.inl ⟨by rfl, ?hy⟩) hHeld ?_
        case hy => (intro w' hSw; (try dsimp only at hSw); go_simp; try with_reducible rfl)
        simp only [Act.put, List.setIfInBounds_toArray, List.set_cons_zero, List.set_cons_succ]
        refine wpAnyH_take (i := 4) (oi := { dst := some 36, op := Op.fieldAddr 26 (Operand.tmp 6) 3, type := 0, pos := "l12_discs.go:243", after := #[], guard := none }) (v := ?_) rfl (by kernel_rfl) (by kernel_rfl) (by kernel_rfl) (fun _ _ _ h => h) (Or.inl ⟨by rfl, ?hy⟩) hHeld ?_
        case hy => (intro w' hSw; (try dsimp only at hSw); go_simp; try with_reducible rfl)
        simp only [Act.put, List.setIfInBounds_toArray, List.set_cons_zero, List.set_cons_succ]
        refine wpAnyH_take (i := 5) (oi := { dst := some 37, op := Op.load 2 (Operand.tmp 36), type := 2, pos := "l12_discs.go:243", after := #[{ on := 4, ground := Ground.data }], guard := none }) (v := ?_) rfl (by kernel_rfl) (by kernel_rfl) (by kernel_rfl) (fun _ _ _ h => h) (Or.inl ⟨by rfl, ?hy⟩) hHeld ?_
        case hy => (intro w' hSw; (try dsimp only at hSw); go_simp; try with_reducible rfl)
        simp only [Act.put, List.setIfInBounds_toArray, List.set_cons_zero, List.set_cons_succ]
        refine wpAnyH_ready (rs := [6]) (by kernel_rfl) (by simp) ?_
        refine AllReadyH.cons (o := { dst := some 38, op := Op.call { callee := Callee.value (Operand.func 43), args := #[Operand.tmp 37], argTypes := #[2] }, type := 2, pos := "l12_discs.go:243", after := #[{ on := 5, ground := Ground.data }], guard := none }) rfl (fun K hK => ?_) AllReadyH.nil
        go_simp
        go_at_call 43; refine (LB.out _).mono ?_; rintro e_ wk ⟨rfl, rfl⟩
        go_wp2_with fail
        refine hK.out _ _ (KS.out _ HC.out) (fun hHeld => ?_)
        clear hK K
        try simp only [Act.put, List.setIfInBounds_toArray, List.set_cons_zero, List.set_cons_succ]
        refine wpAnyH_ready (rs := [7]) (by kernel_rfl) (by simp) ?_
        refine AllReadyH.cons (o := { dst := some 39, op := Op.call { callee := Callee.value (Operand.func 44), args := #[Operand.tmp 35, Operand.tmp 38], argTypes := #[64, 2] }, type := 9, pos := "l12_discs.go:243", after := #[{ on := 3, ground := Ground.data }, { on := 6, ground := Ground.data }, { on := 6, ground := Ground.chain }], guard := none }) rfl (fun K hK => ?_) AllReadyH.nil
        go_simp
        go_at_call 44; refine (DD.out _ (by exact HS6.out) (by exact hz26)).mono ?_; rintro e_ w7 ⟨sd, rfl, hsd, k7, u3, u4, S7, G7⟩; replace HC := Lib.hid (HC.out.trans G7)
        go_wp2_with fail
        refine hK.out _ _ (KS.out _ HC.out) (fun hHeld => ?_)
        clear hK K
        try simp only [Act.put, List.setIfInBounds_toArray, List.set_cons_zero, List.set_cons_succ]
        refine wpAnyH_take (i := 8) (oi := { dst := some 40, op := Op.indexAddr 24 (Operand.tmp 33) (Operand.tmp 34), type := 0, pos := "l12_discs.go:243", after := #[{ on := 1, ground := Ground.data }, { on := 2, ground := Ground.data }, { on := 0, ground := Ground.phase }, { on := 1, ground := Ground.phase }, { on := 2, ground := Ground.phase }, { on := 3, ground := Ground.phase }, { on := 4, ground := Ground.phase }, { on := 5, ground := Ground.phase }, { on := 6, ground := Ground.phase }, { on := 7, ground := Ground.phase }], guard := none }) (v := ?_) rfl (by kernel_rfl) (by kernel_rfl) (by kernel_rfl) (fun _ _ _ h => h) (Or.inl ⟨by rfl, ?hy⟩) hHeld ?_
        case hy => (intro w' hSw; (try dsimp only at hSw); go_simp; try with_reducible rfl)
        simp only [Act.put, List.setIfInBounds_toArray, List.set_cons_zero, List.set_cons_succ]
        refine wpAnyH_take (i := 9) (oi := { dst := some 41, op := Op.fieldAddr 39 (Operand.tmp 40) 0, type := 0, pos := "l12_discs.go:243", after := #[{ on := 8, ground := Ground.data }, { on := 0, ground := Ground.phase }, { on := 1, ground := Ground.phase }, { on := 2, ground := Ground.phase }, { on := 3, ground := Ground.phase }, { on := 4, ground := Ground.phase }, { on := 5, ground := Ground.phase }, { on := 6, ground := Ground.phase }, { on := 7, ground := Ground.phase }], guard := none }) (v := ?_) rfl (by kernel_rfl) (by kernel_rfl) (by kernel_rfl) (fun _ _ _ h => h) (Or.inl ⟨by rfl, ?hy⟩) hHeld ?_
        case hy => (intro w' hSw; (try dsimp only at hSw); go_simp; try with_reducible rfl)
        simp only [Act.put, List.setIfInBounds_toArray, List.set_cons_zero, List.set_cons_succ]
        refine wpAnyH_ready (rs := [10]) (by kernel_rfl) (by simp) ?_
        refine AllReadyH.cons (o := { dst := none, op := Op.store 9 (Operand.tmp 41) (Operand.tmp 39), type := 0, pos := "l12_discs.go:243", after := #[{ on := 9, ground := Ground.data }, { on := 7, ground := Ground.data }, { on := 7, ground := Ground.chain }, { on := 0, ground := Ground.phase }, { on := 1, ground := Ground.phase }, { on := 2, ground := Ground.phase }, { on := 3, ground := Ground.phase }, { on := 4, ground := Ground.phase }, { on := 5, ground := Ground.phase }, { on := 6, ground := Ground.phase }, { on := 7, ground := Ground.phase }], guard := none }) rfl (fun K hK => ?_) AllReadyH.nil
        have HO7 := H6.out.1.sf HC.out hgp
        have cc0 := (HO7.cell he).1
        have ff0 := HO7.free (j * 2)
        go_simp
        refine hK.out _ _ ⟨by rw [World.cell?_of_block (w := w7) (by exact heap_setCell_ne _ _ _ _ _ hQg)]; exact (KS.out _ HC.out).1, by rw [World.cell?_of_block (w := w7) (by exact heap_setCell_ne _ _ _ _ _ hQg)]; exact (KS.out _ HC.out).2⟩ (fun hHeld => ?_)
        clear hK K
        try simp only [Act.put, List.setIfInBounds_toArray, List.set_cons_zero, List.set_cons_succ]
        refine wpAnyH_done (by kernel_rfl) ?_ _
        have hz7 := HC.out.2.2.1
        have hz67 : w.heap.size ≤ w7.heap.size := by omega
        have p7 : p < w7.heap.size := by omega
        have HO7 := Lib.hid ((H6.out.1.sf HC.out hgp).put0 j e he sd)
        have HB7 := Lib.hid (And.intro ((H6.out.2.1.sf HC.out (by omega) hQp).kept (w' := w7.setCell ⟨g, j * 2, none⟩ (.string sd)) (heap_setCell_ne _ _ _ _ _ hQg)) ((H6.out.2.2.1.sf HC.out (by omega) hpr).kept (w' := w7.setCell ⟨g, j * 2, none⟩ (.string sd)) (heap_setCell_ne _ _ _ _ _ hrg)))
        have HS7 := Lib.hid (S7.own (i := j * 2) (v := .string sd) (ha.mono (show w.heap.size ≤ w4.heap.size by omega)) (by omega) hg4)
        have HF7 := Lib.hid (show Sf p w (w7.setCell ⟨g, j * 2, none⟩ (.string sd)) from (H6.out.2.2.2.1.trans HC.out).setCell g _ _ (by omega))
        have HSC7 := Lib.hid ((HSC6.out.sf HC.out hgp).put (j * 2) (.string sd))
        have hzW : (w7.setCell ⟨g, j * 2, none⟩ (.string sd)).heap.size = w7.heap.size := by simp [World.setCell]
        clear hHeld HC KS DD LB HS6 H6 S7 G7 HSC6
        generalize w7.setCell ⟨g, j * 2, none⟩ (.string sd) = W8 at *
        rw [← hzW] at hz67 p7 hz7
        clear hzW
        have he8 : (es.set j ⟨sd, e.f1⟩)[j]? = some ⟨sd, e.f1⟩ := List.getElem?_set_self (by omega)
        have KS := Lib.hid (fun w' (hb : Sf p W8 w') => (show w'.cell? ⟨Q, 4, none⟩ = some (.slice (some ⟨g, 0, none⟩) N c) from ((HB7.out.1.sf hb (by omega) hQp) 4 _ rfl).1))
        have HC := Lib.hid (show Sf p W8 W8.drew from (Sf.refl p7).drew)
        have HCA := Lib.hid (show Sf p W8 (W8.alloc (.cells #[.int .i64 1, .int .i64 1, .int .i64 1, .int .i64 2, .int .i64 4] 2)) from (Sf.refl p7).alloc _)
        have AM := Lib.hid (among_any W8.heap.size 5 [1, 1, 1, 2, 4] p a n cap k7 (W8.alloc (.cells #[.int .i64 1, .int .i64 1, .int .i64 1, .int .i64 2, .int .i64 4] 2)).drew (by decide) (by decide) (by omega) (five_st W8) hn (by omega) (HS7.out.below (ha.mono hz67) ((Below.alloc (Below.refl _ W8) (Nat.le_refl _) _).drew) p7))
        go_upto_region 10 with (fail)

        refine wp_region_held_drew (S := (fun w' => w'.cell? ⟨Q, 4, none⟩ = some (.slice (some ⟨g, 0, none⟩) N c))) (by kernel_rfl) (KS.out _ HC.out) (fun hHeld => ?_)
        refine wpAnyH_take (i := 0) (oi := { dst := some 42, op := Op.fieldAddr 26 (Operand.tmp 6) 4, type := 0, pos := "l12_discs.go:244", after := #[], guard := none }) (v := ?_) rfl (by kernel_rfl) (by kernel_rfl) (by kernel_rfl) (fun _ _ _ h => h) (Or.inl ⟨by rfl, ?hy⟩) hHeld ?_
        case hy => (intro w' hSw; (try dsimp only at hSw); go_simp; try with_reducible rfl)
        simp only [Act.put, List.setIfInBounds_toArray, List.set_cons_zero, List.set_cons_succ]
        refine wpAnyH_take (i := 1) (oi := { dst := some 43, op := Op.load 24 (Operand.tmp 42), type := 24, pos := "l12_discs.go:244", after := #[{ on := 0, ground := Ground.data }], guard := none }) (v := ?_) rfl (by kernel_rfl) (by kernel_rfl) (by kernel_rfl) (fun _ _ _ h => h) (Or.inl ⟨by rfl, ?hy⟩) hHeld ?_
        case hy => (intro w' hSw; (try dsimp only at hSw); go_simp; try with_reducible rfl)
        simp only [Act.put, List.setIfInBounds_toArray, List.set_cons_zero, List.set_cons_succ]
        refine wpAnyH_take (i := 2) (oi := { dst := some 44, op := Op.move (Operand.tmp 7), type := 3, pos := "l12_discs.go:244", after := #[], guard := none }) (v := ?_) rfl (by kernel_rfl) (by kernel_rfl) (by kernel_rfl) (fun _ _ _ h => h) (Or.inl ⟨by rfl, ?hy⟩) hHeld ?_
        case hy => (intro w' hSw; (try dsimp only at hSw); go_simp; try with_reducible rfl)
        simp only [Act.put, List.setIfInBounds_toArray, List.set_cons_zero, List.set_cons_succ]
        refine wpAnyH_take (i := 3) (oi := { dst := some 45, op := Op.move (Operand.tmp 0), type := 64, pos := "l12_discs.go:244", after := #[], guard := none }) (v := ?_) rfl (by kernel_rfl) (by kernel_rfl) (by kernel_rfl) (fun _ _ _ h => h) (Or.inl ⟨by rfl, ?hy⟩) hHeld ?_
        case hy => (intro w' hSw; (try dsimp only at hSw); go_simp; try with_reducible rfl)
        simp only [Act.put, List.setIfInBounds_toArray, List.set_cons_zero, List.set_cons_succ]
        refine wpAnyH_ready (rs := [4]) (by kernel_rfl) (by simp) ?_
        refine AllReadyH.cons (o := { dst := some 46, op := Op.buildSlice 29 5 #[(0, Operand.const (Value.int IntKind.i64 1)), (1, Operand.const (Value.int IntKind.i64 1)), (2, Operand.const (Value.int IntKind.i64 1)), (3, Operand.const (Value.int IntKind.i64 2)), (4, Operand.const (Value.int IntKind.i64 4))], type := 29, pos := "l12_discs.go:244", after := #[], guard := none }) rfl (fun K hK => ?_) AllReadyH.nil
        go_simp
        refine hK.out _ _ (KS.out _ (HCA.out.drew)) (fun hHeld => ?_)
        clear hK K
        try simp only [Act.put, List.setIfInBounds_toArray, List.set_cons_zero, List.set_cons_succ]
        refine wpAnyH_ready (rs := [5]) (by kernel_rfl) (by simp) ?_
        refine AllReadyH.cons (o := { dst := some 47, op := Op.call { callee := Callee.value (Operand.func 30), args := #[Operand.tmp 45, Operand.tmp 46], argTypes := #[64, 29] }, type := 2, pos := "l12_discs.go:244", after := #[{ on := 3, ground := Ground.data }, { on := 4, ground := Ground.data }], guard := none }) rfl (fun K hK => ?_) AllReadyH.nil
        go_simp
        go_at_call 30; refine AM.out.mono ?_; rintro e_ w9 ⟨st, rfl, hst, hch⟩; obtain ⟨k8, u5, u6, S9, G9⟩ := Chose.f (by simp; omega) hch; replace HC := Lib.hid (HCA.out.drew.trans G9)
        go_wp2_with fail
        refine hK.out _ _ (KS.out _ HC.out) (fun hHeld => ?_)
        clear hK K
        try simp only [Act.put, List.setIfInBounds_toArray, List.set_cons_zero, List.set_cons_succ]
        refine wpAnyH_take (i := 6) (oi := { dst := some 48, op := Op.indexAddr 24 (Operand.tmp 43) (Operand.tmp 44), type := 0, pos := "l12_discs.go:244", after := #[{ on := 1, ground := Ground.data }, { on := 2, ground := Ground.data }, { on := 0, ground := Ground.phase }, { on := 1, ground := Ground.phase }, { on := 2, ground := Ground.phase }, { on := 3, ground := Ground.phase }, { on := 4, ground := Ground.phase }, { on := 5, ground := Ground.phase }], guard := none }) (v := ?_) rfl (by kernel_rfl) (by kernel_rfl) (by kernel_rfl) (fun _ _ _ h => h) (Or.inl ⟨by rfl, ?hy⟩) hHeld ?_
        case hy => (intro w' hSw; (try dsimp only at hSw); go_simp; try with_reducible rfl)
        simp only [Act.put, List.setIfInBounds_toArray, List.set_cons_zero, List.set_cons_succ]
        refine wpAnyH_take (i := 7) (oi := { dst := some 49, op := Op.fieldAddr 39 (Operand.tmp 48) 1, type := 0, pos := "l12_discs.go:244", after := #[{ on := 6, ground := Ground.data }, { on := 0, ground := Ground.phase }, { on := 1, ground := Ground.phase }, { on := 2, ground := Ground.phase }, { on := 3, ground := Ground.phase }, { on := 4, ground := Ground.phase }, { on := 5, ground := Ground.phase }], guard := none }) (v := ?_) rfl (by kernel_rfl) (by kernel_rfl) (by kernel_rfl) (fun _ _ _ h => h) (Or.inl ⟨by rfl, ?hy⟩) hHeld ?_
        case hy => (intro w' hSw; (try dsimp only at hSw); go_simp; try with_reducible rfl)
        simp only [Act.put, List.setIfInBounds_toArray, List.set_cons_zero, List.set_cons_succ]
        refine wpAnyH_ready (rs := [8]) (by kernel_rfl) (by simp) ?_
        refine AllReadyH.cons (o := { dst := none, op := Op.store 2 (Operand.tmp 49) (Operand.tmp 47), type := 0, pos := "l12_discs.go:244", after := #[{ on := 7, ground := Ground.data }, { on := 5, ground := Ground.data }, { on := 5, ground := Ground.chain }, { on := 0, ground := Ground.phase }, { on := 1, ground := Ground.phase }, { on := 2, ground := Ground.phase }, { on := 3, ground := Ground.phase }, { on := 4, ground := Ground.phase }, { on := 5, ground := Ground.phase }], guard := none }) rfl (fun K hK => ?_) AllReadyH.nil
        have HO9 := HO7.out.sf HC.out hgp
        have cc0 := (HO9.cell he8).2
        have ff0 := HO9.free (j * 2 + 1)
        go_simp
        refine hK.out _ _ (by rw [World.cell?_of_block (w := w9) (by exact heap_setCell_ne _ _ _ _ _ hQg)]; exact (KS.out _ HC.out)) (fun hHeld => ?_)
        clear hK K
        try simp only [Act.put, List.setIfInBounds_toArray, List.set_cons_zero, List.set_cons_succ]
        refine wpAnyH_done (by kernel_rfl) ?_ _
        have hz9 := HC.out.2.2.1
        have hz79 : w.heap.size ≤ w9.heap.size := by omega
        have HO9 := Lib.hid ((HO7.out.sf HC.out hgp).put1 j _ he8 st)
        have HB9 := Lib.hid (And.intro ((HB7.out.1.sf HC.out (by omega) hQp).kept (w' := w9.setCell ⟨g, j * 2 + 1, none⟩ (.int .i64 st)) (heap_setCell_ne _ _ _ _ _ hQg)) ((HB7.out.2.sf HC.out (by omega) hpr).kept (w' := w9.setCell ⟨g, j * 2 + 1, none⟩ (.int .i64 st)) (heap_setCell_ne _ _ _ _ _ hrg)))
        have HS9 := Lib.hid (S9.own (i := j * 2 + 1) (v := .int .i64 st) (ha.mono (show w.heap.size ≤ w4.heap.size by omega)) (by omega) hg4)
        have HF9 := Lib.hid (show Sf p w (w9.setCell ⟨g, j * 2 + 1, none⟩ (.int .i64 st)) from (HF7.out.trans HC.out).setCell g _ _ (by omega))
        have HSC9 := Lib.hid ((HSC7.out.sf HC.out hgp).put (j * 2 + 1) (.int .i64 st))
        have hzW : Q < (w9.setCell ⟨g, j * 2 + 1, none⟩ (.int .i64 st)).heap.size := by simp [World.setCell]; omega
        have HES := Lib.hid (show (((es.set j ⟨sd, e.f1⟩).set j ⟨sd, st⟩).length = N ∧ ∀ e' ∈ (es.set j ⟨sd, e.f1⟩).set j ⟨sd, st⟩, e'.f0.size ≤ 32) from ⟨by simp [hlen], fun e' he' => by
          rw [List.set_set] at he'
          rcases List.mem_or_eq_of_mem_set he' with h9 | h9
          · exact hsz.out e' h9
          · rw [h9]; show sd.size ≤ 32; omega⟩)
        clear hHeld HC KS AM HCA HO7 HB7 HS7 HF7 S9 G9 HSC7
        generalize w9.setCell ⟨g, j * 2 + 1, none⟩ (.int .i64 st) = W9 at *
        go_wp2
        go_roundw
        case rel => exact ⟨j + 1, _, k8, by omega, by go_num, HES.out.1, by unfold Hid; exact HES.out.2, HO9.out, HB9.out.1, HB9.out.2, by omega, by omega, HS9.out, HF9.out, hzW, HSC9⟩
        case measure => simp [intOf]; omega
    · obtain rfl : j = N := by omega
      have e1 : ¬ (j : Int) < (j : Int) := by omega
      obtain ⟨y0, _⟩ := hbx 0 _ rfl
      obtain ⟨y1, _⟩ := hbx 1 _ rfl
      obtain ⟨y2, _⟩ := hbx 2 _ rfl
      obtain ⟨y3, _⟩ := hbx 3 _ rfl
      obtain ⟨t0, f0⟩ := hr0 0 _ rfl
      obtain ⟨t1, f1⟩ := hr0 1 _ rfl
      obtain ⟨t2, f2⟩ := hr0 2 _ rfl
      obtain ⟨t3, f3⟩ := hr0 3 _ rfl
      obtain ⟨t4, f4⟩ := hr0 4 _ rfl
      have hscE : SizC wr g es.length c := by rw [hlen]; exact hsc.out
      have HF := Lib.hid (show ∀ v0 v1 v2 v3 v4, (OwnBlk (((((wr.setCell ⟨w.heap.size, 0, none⟩ v0).setCell ⟨w.heap.size, 1, none⟩ v1).setCell ⟨w.heap.size, 2, none⟩ v2).setCell ⟨w.heap.size, 3, none⟩ v3).setCell ⟨w.heap.size, 4, none⟩ v4) w4.heap.size g es ∧ SrcAt (((((wr.setCell ⟨w.heap.size, 0, none⟩ v0).setCell ⟨w.heap.size, 1, none⟩ v1).setCell ⟨w.heap.size, 2, none⟩ v2).setCell ⟨w.heap.size, 3, none⟩ v3).setCell ⟨w.heap.size, 4, none⟩ v4) p a n cap kk ∧ Sf p w (((((wr.setCell ⟨w.heap.size, 0, none⟩ v0).setCell ⟨w.heap.size, 1, none⟩ v1).setCell ⟨w.heap.size, 2, none⟩ v2).setCell ⟨w.heap.size, 3, none⟩ v3).setCell ⟨w.heap.size, 4, none⟩ v4) ∧ SizC (((((wr.setCell ⟨w.heap.size, 0, none⟩ v0).setCell ⟨w.heap.size, 1, none⟩ v1).setCell ⟨w.heap.size, 2, none⟩ v2).setCell ⟨w.heap.size, 3, none⟩ v3).setCell ⟨w.heap.size, 4, none⟩ v4) g es.length c) from fun v0 v1 v2 v3 v4 => ⟨hown.keep (by rw [heap_setCell_ne _ _ _ _ _ (Ne.symm hrg), heap_setCell_ne _ _ _ _ _ (Ne.symm hrg), heap_setCell_ne _ _ _ _ _ (Ne.symm hrg), heap_setCell_ne _ _ _ _ _ (Ne.symm hrg), heap_setCell_ne _ _ _ _ _ (Ne.symm hrg)]),
        ((((hsrc.own ha hp (Nat.le_refl _)).own ha hp (Nat.le_refl _)).own ha hp (Nat.le_refl _)).own ha hp (Nat.le_refl _)).own ha hp (Nat.le_refl _),
        ((((hsf.setCell _ _ _ (Nat.le_refl _)).setCell _ _ _ (Nat.le_refl _)).setCell _ _ _ (Nat.le_refl _)).setCell _ _ _ (Nat.le_refl _)).setCell _ _ _ (Nat.le_refl _), hscE.keep (by rw [heap_setCell_ne _ _ _ _ _ (Ne.symm hrg), heap_setCell_ne _ _ _ _ _ (Ne.symm hrg), heap_setCell_ne _ _ _ _ _ (Ne.symm hrg), heap_setCell_ne _ _ _ _ _ (Ne.symm hrg), heap_setCell_ne _ _ _ _ _ (Ne.symm hrg)])⟩)
      clear hown hbx hr0 hsrc hsf
      go_wp2
      refine bodyPost_ret (v := .agg #[.int .i64 A, .int .i64 B, .int .i64 C, .int .i64 v4, .slice (some ⟨g, 0, none⟩) j c]) (by simp [results, Try.results66, go_sem, t0, t1, t2, t3, t4]) rfl ?_
      obtain ⟨z1, z2, z3, z4⟩ := HF.out (.int .i64 A) (.int .i64 B) (.int .i64 C) (.int .i64 v4) (.slice (some ⟨g, 0, none⟩) j c)
      refine Exists.intro (⟨A, B, C, v4, es⟩ : DiscV) (Exists.intro g (Exists.intro c ?_))
      refine And.intro (by subst hlen; rfl) (And.intro ⟨HG.out, by show 1 ≤ es.length; omega, by show es.length ≤ 30; omega, hsz.out⟩ (And.intro (z1.mono (by omega)) (And.intro z4 ⟨kk, by omega, by omega, z2, z3⟩)))
end Go.Proofs.Ytllcbiafghhcmaa
