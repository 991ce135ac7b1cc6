/- spec.l02Draw, spec.l02Bent, spec.DrawSpliceCells -/
import Derived.Test.YtfedlehibkgjbaaDoorPkFnFluxDraw
import Derived.WalkMore
namespace Go.Proofs.YtfedlehibkgjbaaDoor
open Go.RowKit
set_option linter.unusedVariables false
theorem OwnB.only {w w' : World} {B p : Nat} {v : Value} {l : List UInt8} (h : OwnB w B v l) (ho : Only p w w') (hp : p < B) : OwnB w' B v l := by
  obtain ⟨g1, g2⟩ := h
  refine ⟨g1, ?_⟩
  rcases g2 with g2 | ⟨g, cap', cur, g3, g4, g5, r⟩
  · exact .inl g2
  · exact .inr ⟨g, cap', cur, g3, g4, by rw [ho.2.2.2.2 g (by omega)]; exact g5, r⟩
set_option maxHeartbeats 1000000 in
theorem one_any (m : Int) (p : Nat) (a : Option Addr) (n cap k : Nat) (w : World) (hm : m ≤ 4611686018427387904) (hn : n ≤ 1048576) (hk : k < 1000000000000) (h : SrcAt w p a n cap k) :
    Calls Tryd.prog 31 #[.pointer (some ⟨p, 0, none⟩), .int .i64 m] w fun e w' => ∃ b : Bool, e = .returned (.bool b) ∧ Chose p a n cap k 2 w w' := by
  have N1 := Lib.hid (pick_any m p a n cap k w hm hn hk h)
  clear h
  go_enter Tryd.func31, Tryd.ntmps31
  go_wp2_with fail
  refine N1.out.mono ?_
  rintro e w1 ⟨v, rfl, hv0, hv1, hc⟩
  have HC := Lib.hid hc; clear hc
  go_wp2
  go_ret
  exact ⟨_, rfl, HC.out⟩
/-- Where a draw stands: its own bytes, at most L of them; at most K choices. -/
def Dr (w : World) (p : Nat) (a : Option Addr) (n cap K L : Nat) (wr : World) (out : Value) : Prop :=
  ∃ l : List UInt8, OwnB wr w.heap.size out l ∧ l.length ≤ L ∧ (∃ k, k ≤ K ∧ SrcAt wr p a n cap k) ∧ Below p w wr ∧ w.heap.size ≤ wr.heap.size
theorem Dr.chose {w : World} {p : Nat} {a : Option Addr} {n cap K L k : Nat} {wr w' : World} {out : Value} {l : List UInt8} (hp : p < w.heap.size) (ho : OwnB wr w.heap.size out l) (hl : l.length ≤ L) (hk : k ≤ K) (hb : Below p w wr) (hs : w.heap.size ≤ wr.heap.size) (hc : Chose p a n cap k 2 wr w') : Dr w p a n cap (K + 2) L w' out := by
  obtain ⟨k', q1, q2, q3, q4⟩ := hc
  exact ⟨l, ho.only q4 hp, hl, ⟨k', by omega, q3⟩, hb.trans (q4.below (Nat.le_refl _)), by have := q4.2.2.2.1; omega⟩
theorem Dr.snoc {w : World} {p : Nat} {a : Option Addr} {n cap K L k : Nat} {wr w' : World} {o : Obj} {l : List UInt8} {x : UInt8} {v : Value} (hp : p < w.heap.size) (ha : CodeLt a n w.heap.size) (ho : OwnB w' w.heap.size v (l ++ [x])) (hl : l.length ≤ L) (hk : k ≤ K) (hsrc : SrcAt wr p a n cap k) (hb : Below p w wr) (hs : w.heap.size ≤ wr.heap.size) (hg : Below w.heap.size (wr.alloc o) w') : Dr w p a n cap K (L + 1) w' v :=
  ⟨l ++ [x], ho, by simp; omega, ⟨k, hk, (hsrc.below ha (Below.alloc (Below.refl _ wr) hs _) hp).below ha hg hp⟩, (hb.alloc (by omega) _).trans (hg.mono (by omega)), by have := hg.size; simp at this; omega⟩
set_option maxHeartbeats 8000000 in
theorem l02Draw_any (m : Nat) (hm : m ≤ 20) (p : Nat) (a : Option Addr) (n cap k : Nat) (w : World) (hn : n ≤ 1048576) (hk : k < 100000000000) (ha : CodeLt a n w.heap.size) (h : SrcAt w p a n cap k) :
    Calls Tryd.prog 43 #[.pointer (some ⟨p, 0, none⟩), .int .i64 (m : Int)] w fun e w' => ∃ s : ByteArray, e = .returned (.string s) ∧ s.size ≤ 100 ∧ (∃ k', k' ≤ k + 200 ∧ SrcAt w' p a n cap k') ∧ Below p w w' ∧ w.heap.size ≤ w'.heap.size := by
  have hp := h.lt
  have hA : SrcAt (w.alloc (.cells #[] 5)) p a n cap k := h.below ha (Below.alloc (Below.refl _ w) (Nat.le_refl _) _) hp
  have hO : OwnB (w.alloc (.cells #[] 5)) w.heap.size (.slice (some ⟨w.heap.size, 0, none⟩) 0 0) [] := OwnB.nil w _ (Nat.le_refl _)
  have hB : Below p w (w.alloc (.cells #[] 5)) := Below.alloc (Below.refl _ w) (Nat.le_of_lt hp) _
  have hS : w.heap.size ≤ (w.alloc (.cells #[] 5)).heap.size := by simp
  have N1 := Lib.hid (pick_any (m : Int) p a n cap k _ (by omega) hn (by omega) hA)
  have HH := Lib.hid (And.intro hO (And.intro hB hS)); clear hO hB hS hA h
  go_enter Tryd.func43, Tryd.ntmps43
  go_wp2_with fail
  refine N1.out.mono ?_
  rintro e w1 ⟨v, rfl, hv0, hv1, hc⟩
  obtain ⟨j0, rfl⟩ : ∃ j : Nat, v = j := ⟨v.toNat, by omega⟩
  have hj0 : j0 + 1 ≤ 20 ∨ j0 = 0 := by omega
  have D1 := Lib.hid (Dr.chose (L := 0) hp HH.out.1 (Nat.le_refl _) (Nat.le_refl _) HH.out.2.1 HH.out.2.2 hc)
  have ew : wrap64 (1 + (j0 : Int)) = ((1 + j0 : Nat) : Int) := by unfold wrap64; omega
  clear hc HH N1
  go_wp2
  go_loopw [5, 6, 7] (fun out q _ wr => ∃ j : Nat, q = .int .i64 (j : Int) ∧ j ≤ 20 ∧ Dr w p a n cap (k + 100 - 2 * j) (80 - 4 * j) wr out) (fun _ q _ _ => (intOf q).toNat)
  case atStart =>
    refine ⟨1 + j0, by rfl, by omega, ?_⟩
    obtain ⟨l, d1, d2, ⟨k1, d3, d4⟩, d5, d6⟩ := D1.out
    exact ⟨l, d1, by omega, ⟨k1, by omega, d4⟩, d5, d6⟩
  case round =>
    obtain ⟨j, rfl, hj, l, d1, d2, ⟨k1, d3, d4⟩, d5, d6⟩ := hrel
    by_cases h0 : 0 < j
    · have e1 : (0 : Int) < (j : Int) := by omega
      have P1 := Lib.hid (pick_any 4 p a n cap k1 wr (by omega) hn (by omega) d4)
      have HD := Lib.hid (fun w' hc => Dr.chose (K := k + 100 - 2 * j) (L := 80 - 4 * j) (w' := w') (cap := cap) (n := n) (a := a) hp d1 d2 d3 d5 d6 hc)
      clear d1 d2 d3 d4 d5 d6
      go_wp2_with fail
      refine P1.out.mono ?_
      rintro e w2 ⟨z, rfl, hz0, hz1, hc⟩
      obtain ⟨z0, rfl⟩ : ∃ j : Nat, z = j := ⟨z.toNat, by omega⟩
      have D2 := Lib.hid (HD.out _ hc); clear hc HD P1
      go_wp2
      go_hide hQ
      go_loopw [5, 7] (fun out q wr => ∃ z : Nat, q = .int .i64 (z : Int) ∧ z ≤ 3 ∧ Dr w p a n cap (k + 100 - 2 * j + 2) (80 - 4 * j + 3 - z) wr out) (fun _ q _ => (intOf q).toNat)
      case atStart =>
        refine ⟨z0, rfl, by omega, ?_⟩
        obtain ⟨l, d1, d2, d3, d5, d6⟩ := D2.out
        exact ⟨l, d1, by omega, d3, d5, d6⟩
      case round =>
        obtain ⟨z, rfl, hz, l, d1, d2, ⟨k1, d3, d4⟩, d5, d6⟩ := hrel
        have hll : l.length < 2147483648 := by omega
        by_cases hz0' : 0 < z
        · have e2 : (0 : Int) < (z : Int) := by omega
          have HX := Lib.hid (And.intro d2 (And.intro d4 (And.intro d5 d6))); clear d4 d5
          go_wp2_with (at_builtin; refine wpList_appendB rfl _ _ rfl rfl (d1.alloc _) 48 (by omega) (by omega) ⟨wr.heap.size, 0, none⟩ 1 rfl (World.news_of_block (cs := #[.int .u8 48]) (t := 5) (fr := (0, 0)) (heap_alloc_new wr _)) hll (by simp; omega) ?_; intro g cap6 w6 hown6 _ hb6 _)
          have D3 := Dr.snoc (cap := cap) hp ha hown6 HX.out.1 d3 HX.out.2.1 HX.out.2.2.1 HX.out.2.2.2 hb6
          go_roundw
          case rel =>
            refine ⟨z - 1, by rw [show ((z - 1 : Nat) : Int) = (z : Int) - 1 by omega], by omega, ?_⟩
            rw [show 80 - 4 * j + 3 - (z - 1) = 80 - 4 * j + 3 - z + 1 by omega]
            exact D3
          case measure => simp [intOf]; omega
        · obtain rfl : z = 0 := by omega
          have HX := Lib.hid (And.intro d2 (And.intro d4 (And.intro d5 d6))); clear d4 d5
          subst hQ
          go_wp2_with (at_builtin; refine wpList_appendB rfl _ _ rfl rfl (d1.alloc _) 49 (by omega) (by omega) ⟨wr.heap.size, 0, none⟩ 1 rfl (World.news_of_block (cs := #[.int .u8 49]) (t := 5) (fr := (0, 0)) (heap_alloc_new wr _)) hll (by simp; omega) ?_; intro g cap6 w6 hown6 _ hb6 _)
          have D3 := Dr.snoc (cap := cap) hp ha hown6 HX.out.1 d3 HX.out.2.1 HX.out.2.2.1 HX.out.2.2.2 hb6
          go_roundw
          case rel =>
            refine ⟨j - 1, by rw [show ((j - 1 : Nat) : Int) = (j : Int) - 1 by omega], by omega, ?_⟩
            rw [show k + 100 - 2 * (j - 1) = k + 100 - 2 * j + 2 by omega, show 80 - 4 * (j - 1) = 80 - 4 * j + 3 - 0 + 1 by omega]
            exact D3
          case measure => simp [intOf]; omega
    · obtain rfl : j = 0 := by omega
      have P1 := Lib.hid (pick_any 4 p a n cap k1 wr (by omega) hn (by omega) d4)
      have HD := Lib.hid (fun w' hc => Dr.chose (K := k + 100) (L := 80) (w' := w') (cap := cap) (n := n) (a := a) hp d1 (by omega) (by omega) d5 d6 hc)
      clear d1 d2 d3 d4 d5 d6
      go_wp2_with fail
      refine P1.out.mono ?_
      rintro e w2 ⟨z, rfl, hz0, hz1, hc⟩
      obtain ⟨z0, rfl⟩ : ∃ j : Nat, z = j := ⟨z.toNat, by omega⟩
      have D2 := Lib.hid (HD.out _ hc); clear hc HD P1
      go_wp2
      go_loopw [5, 8] (fun out q wr => ∃ z : Nat, q = .int .i64 (z : Int) ∧ z ≤ 3 ∧ Dr w p a n cap (k + 100 + 2) (83 - z) wr out) (fun _ q _ => (intOf q).toNat)
      case atStart =>
        refine ⟨z0, rfl, by omega, ?_⟩
        obtain ⟨l, d1, d2, d3, d5, d6⟩ := D2.out
        exact ⟨l, d1, by omega, d3, d5, d6⟩
      case round =>
        obtain ⟨z, rfl, hz, l, d1, d2, ⟨k1, d3, d4⟩, d5, d6⟩ := hrel
        have hll : l.length < 2147483648 := by omega
        by_cases hz0' : 0 < z
        · have e2 : (0 : Int) < (z : Int) := by omega
          have HX := Lib.hid (And.intro d2 (And.intro d4 (And.intro d5 d6))); clear d4 d5
          go_wp2_with (at_builtin; refine wpList_appendB rfl _ _ rfl rfl (d1.alloc _) 48 (by omega) (by omega) ⟨wr.heap.size, 0, none⟩ 1 rfl (World.news_of_block (cs := #[.int .u8 48]) (t := 5) (fr := (0, 0)) (heap_alloc_new wr _)) hll (by simp; omega) ?_; intro g cap6 w6 hown6 _ hb6 _)
          have D3 := Dr.snoc (cap := cap) hp ha hown6 HX.out.1 d3 HX.out.2.1 HX.out.2.2.1 HX.out.2.2.2 hb6
          go_roundw
          case rel =>
            refine ⟨z - 1, by rw [show ((z - 1 : Nat) : Int) = (z : Int) - 1 by omega], by omega, ?_⟩
            rw [show 83 - (z - 1) = 83 - z + 1 by omega]
            exact D3
          case measure => simp [intOf]; omega
        · obtain rfl : z = 0 := by omega
          have O1 := Lib.hid (one_any 40 p a n cap k1 wr (by omega) hn (by omega) d4)
          have HD := Lib.hid (fun w' hc => Dr.chose (K := k + 102) (L := 83) (w' := w') (cap := cap) (n := n) (a := a) hp d1 (by omega) (by omega) d5 d6 hc)
          clear d1 d2 d3 d4 d5 d6
          go_wp2_with fail
          refine O1.out.mono ?_
          rintro e w3 ⟨b, rfl, hc⟩
          obtain ⟨l2, d1, d2, ⟨k2, d3, d4⟩, d5, d6⟩ := HD.out _ hc
          have hcv := conv_own d1
          have HX := Lib.hid (And.intro d4 (And.intro d5 d6)); clear hc d4 d5
          cases b
          · go_wp2
            go_ret
            exact ⟨_, rfl, by simp [ByteArray.size]; omega, ⟨k2, by omega, HX.out.1⟩, HX.out.2⟩
          · go_wp2
            go_ret
            exact ⟨_, rfl, by decide, ⟨k2, by omega, HX.out.1⟩, HX.out.2⟩
end Go.Proofs.YtfedlehibkgjbaaDoor
