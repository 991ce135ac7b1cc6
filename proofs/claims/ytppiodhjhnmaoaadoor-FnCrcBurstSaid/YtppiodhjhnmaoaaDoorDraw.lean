/- spec.l00From, spec.l01Draw, spec.DrawBitsOf -/
import Derived.Test.YtppiodhjhnmaoaaDoorSrc
namespace Go.Proofs.YtppiodhjhnmaoaaDoor
open Go.RowKit
set_option maxRecDepth 20000
set_option linter.unusedVariables false
theorem SrcAt.lt {w : World} {p : Nat} {a : Option Addr} {n cap k : Nat} (h : SrcAt w p a n cap k) : p < w.heap.size := by
  obtain ⟨s, hh, _⟩ := h
  exact (Array.getElem?_eq_some_iff.1 hh).1
/-- The code's bytes lie below C. -/
def CodeLt (a : Option Addr) (n C : Nat) : Prop := n = 0 ∨ ∀ x, a = some x → x.block < C
theorem CodeLt.mono {a : Option Addr} {n C C' : Nat} (h : CodeLt a n C) (hC : C ≤ C') : CodeLt a n C' := h.imp id fun h x hx => Nat.lt_of_lt_of_le (h x hx) hC
theorem SrcAt.below {w w' : World} {p C : Nat} {a : Option Addr} {n cap k : Nat} (h : SrcAt w p a n cap k) (ha : CodeLt a n C) (hb : Below C w w') (hp : p < C) : SrcAt w' p a n cap k := by
  obtain ⟨s, hh, hne, hc⟩ := h
  exact ⟨s, by rw [hb.block _ hp]; exact hh, hne, hc.below ha hb⟩
theorem src_new (w : World) (a : Option Addr) (n cap : Nat) (ha : CodeLt a n w.heap.size) (hc : CodeAt w a n) :
    SrcAt (w.alloc (.cells #[.slice a n cap, .int .i64 0, .int .u64 0] 58)) w.heap.size a n cap 0 := by
  refine ⟨0, by show (w.heap.push _)[w.heap.size]? = _; simp, ha.imp id fun h x hx => Nat.ne_of_lt (h x hx), hc.below ha (Below.alloc (Below.refl _ w) (Nat.le_refl _) _)⟩
theorem eight_ints (w : World) : Ints (w.alloc (.cells #[.int .i64 0, .int .i64 1, .int .i64 65, .int .i64 78, .int .i64 161, .int .i64 255, .int .i64 229, .int .i64 16] 2)) w.heap.size 0 [0, 1, 65, 78, 161, 255, 229, 16] := by
  intro i u hu
  match i, hu with
  | 0, hu => simp at hu; subst hu; simp [go_sem]
  | 1, hu => simp at hu; subst hu; simp [go_sem]
  | 2, hu => simp at hu; subst hu; simp [go_sem]
  | 3, hu => simp at hu; subst hu; simp [go_sem]
  | 4, hu => simp at hu; subst hu; simp [go_sem]
  | 5, hu => simp at hu; subst hu; simp [go_sem]
  | 6, hu => simp at hu; subst hu; simp [go_sem]
  | 7, hu => simp at hu; subst hu; simp [go_sem]
  | i + 8, hu => simp at hu
theorem eight_bd {v : Int} (h : v ∈ [(0 : Int), 1, 65, 78, 161, 255, 229, 16]) : 0 ≤ v ∧ v < 256 := by
  simp at h; omega
set_option maxHeartbeats 4000000 in
theorem l01Draw_any (m : Nat) (hm : m ≤ 1000) (p : Nat) (a : Option Addr) (n cap k : Nat) (w : World) (hn : n ≤ 1048576) (hk : k < 100000000000) (ha : CodeLt a n w.heap.size) (h : SrcAt w p a n cap k) :
    Calls Tryd.prog 12 #[.pointer (some ⟨p, 0, none⟩), .int .i64 (m : Int)] w fun e w' => ∃ s : ByteArray, e = .returned (.string s) ∧ s.size ≤ m ∧ (∃ k', k ≤ k' ∧ k' ≤ k + 2 + 4 * m ∧ SrcAt w' p a n cap k') ∧ Below p w w' ∧ w.heap.size ≤ w'.heap.size := by
  have hp := h.lt
  have hA : SrcAt (w.alloc (.cells #[] 5)) p a n cap k := h.below ha (Below.alloc (Below.refl _ w) (Nat.le_refl _) _) hp
  have hO : OwnB (w.alloc (.cells #[] 5)) w.heap.size (.slice (some ⟨w.heap.size, 0, none⟩) 0 0) [] := OwnB.nil w _ (Nat.le_refl _)
  have hB : Below p w (w.alloc (.cells #[] 5)) := Below.alloc (Below.refl _ w) (Nat.le_of_lt hp) _
  have hS : w.heap.size ≤ (w.alloc (.cells #[] 5)).heap.size := by simp
  have N1 := Lib.hid (pick_any ((m : Int) + 1) p a n cap k _ (by omega) hn (by omega) hA)
  have ew : wrap64 ((m : Int) + 1) = (m : Int) + 1 := by unfold wrap64; omega
  have HH := Lib.hid (And.intro hO (And.intro hB hS)); clear hO hB hS hA h
  go_enter Tryd.func12, Tryd.ntmps12
  go_wp2_with fail
  refine N1.out.mono ?_
  rintro e w1 ⟨v, rfl, hv0, hv1, k1, q1, q2, q3, q4⟩
  obtain ⟨j0, rfl⟩ : ∃ j : Nat, v = j := ⟨v.toNat, by omega⟩
  have hj0 : j0 ≤ m := by omega
  have hO1 : OwnB w1 w.heap.size (.slice (some ⟨w.heap.size, 0, none⟩) 0 0) [] := by
    obtain ⟨g1, g2⟩ := HH.out.1
    refine ⟨g1, ?_⟩
    rcases g2 with g2 | ⟨g, cap', cur, g3, g4, g5, r⟩
    · exact .inl g2
    · exact .inr ⟨g, cap', cur, g3, g4, by rw [q4.2.2.2.2 g (by omega)]; exact g5, r⟩
  have hB1 : Below p w w1 := HH.out.2.1.trans (q4.below (Nat.le_refl _))
  have hS1 : w.heap.size ≤ w1.heap.size := by have := HH.out.2.2; have := q4.2.2.2.1; omega
  have HK := Lib.hid (And.intro q3 (And.intro hO1 (And.intro hB1 hS1)))
  clear q3 q4 hO1 hB1 hS1 HH N1
  go_wp2
  go_loopw [5, 6] (fun out q wr => ∃ (j : Nat) (l : List UInt8), q = .int .i64 (j : Int) ∧ j ≤ j0 ∧ l.length + j = j0 ∧ OwnB wr w.heap.size out l ∧ (∃ k', k ≤ k' ∧ k' + 4 * j ≤ k + 2 + 4 * j0 ∧ SrcAt wr p a n cap k') ∧ Below p w wr ∧ w.heap.size ≤ wr.heap.size) (fun _ q _ => (intOf q).toNat)
  case atStart => exact ⟨j0, [], rfl, Nat.le_refl _, by simp, HK.out.2.1, ⟨k1, q1, by omega, HK.out.1⟩, HK.out.2.2.1, HK.out.2.2.2⟩
  case round =>
    obtain ⟨j, l, rfl, hj, hl, hown, ⟨k2, r1, r2, hsrc⟩, hbw, hsw⟩ := hrel
    by_cases h0 : 0 < j
    · have e1 : (0 : Int) < (j : Int) := by omega
      have hsrc1 := hsrc.below (ha.mono hsw) (Below.alloc (Below.refl _ wr) (Nat.le_refl _) (.cells #[.int .i64 0, .int .i64 1, .int .i64 65, .int .i64 78, .int .i64 161, .int .i64 255, .int .i64 229, .int .i64 16] 2)) hsrc.lt
      have A1 := Lib.hid (among_any wr.heap.size 8 [0, 1, 65, 78, 161, 255, 229, 16] p a n cap k2 _ (by simp) (by simp) (by have := hsrc.lt; omega) (eight_ints wr) hn (by omega) hsrc1)
      have hown1 := hown.alloc (.cells #[.int .i64 0, .int .i64 1, .int .i64 65, .int .i64 78, .int .i64 161, .int .i64 255, .int .i64 229, .int .i64 16] 2)
      have hbw1 := hbw.alloc (Nat.le_trans (Nat.le_of_lt hp) hsw) (.cells #[.int .i64 0, .int .i64 1, .int .i64 65, .int .i64 78, .int .i64 161, .int .i64 255, .int .i64 229, .int .i64 16] 2)
      have HX := Lib.hid (And.intro hown1 (And.intro hbw1 hsrc)); clear hown1 hbw1 hsrc hsrc1 hown hbw
      go_wp2_with fail
      refine A1.out.mono ?_
      rintro e w4 ⟨x, rfl, hx, k3, s1, s2, s3, s4⟩
      have hxb := eight_bd hx
      have P1 := Lib.hid (pick_any 3 p a n cap k3 w4 (by omega) hn (by omega) s3)
      have HY := Lib.hid (And.intro s3 s4); clear s3 s4 A1
      go_wp2_with fail
      refine P1.out.mono ?_
      rintro e w5 ⟨y, rfl, hy0, hy1, k4, t1, t2, t3, t4⟩
      have hon := HY.out.2.trans t4
      have hown5 : OwnB w5 w.heap.size u5 l := by
        obtain ⟨g1, g2⟩ := HX.out.1
        refine ⟨g1, ?_⟩
        rcases g2 with g2 | ⟨g, cap', cur, g3, g4, g5, r⟩
        · exact .inl g2
        · exact .inr ⟨g, cap', cur, g3, g4, by rw [hon.2.2.2.2 g (by omega)]; exact g5, r⟩
      have hbw5 : Below p w w5 := HX.out.2.1.trans (hon.below (Nat.le_refl _))
      have hsw5 : w.heap.size ≤ w5.heap.size := by have := hon.2.2.2.1; simp at this; omega
      have ex : IntKind.i64.wrap (x + y) = x + y := wrap_small _ (by omega) (by omega)
      obtain ⟨z, hz⟩ : ∃ z, IntKind.u8.wrap (x + y) = z := ⟨_, rfl⟩
      have hz0 : 0 ≤ z ∧ z < 256 := by
        rw [← hz]; unfold IntKind.wrap; simp [IntKind.bits, IntKind.signed]; omega
      have hll : l.length < 2147483648 := by omega
      have HW := Lib.hid (And.intro hbw5 t3); clear hbw5 t3 t4 hon HX P1
      go_wp2_with (at_builtin; refine wpList_appendB rfl _ _ rfl rfl (hown5.alloc _) z hz0.1 hz0.2 ⟨w5.heap.size, 0, none⟩ 1 rfl (World.news_of_block (cs := #[.int .u8 z]) (t := 5) (fr := (0, 0)) (heap_alloc_new w5 _)) hll (by simp; omega) ?_; intro g cap6 w6 hown6 _ hb6 _)
      have hsrc6 : SrcAt w6 p a n cap k4 := (HW.out.2.below ha (Below.alloc (Below.refl _ w5) hsw5 _) hp).below ha hb6 hp
      have hbw6 : Below p w w6 := (HW.out.1.alloc (by omega) _).trans (hb6.mono (by omega))
      have hsw6 : w.heap.size ≤ w6.heap.size := by have := hb6.size; simp at this; omega
      go_roundw
      case rel => exact ⟨j - 1, l ++ [z.toNat.toUInt8], by rw [show ((j - 1 : Nat) : Int) = (j : Int) - 1 by omega], by omega, by simp; omega, hown6, ⟨k4, by omega, by omega, hsrc6⟩, hbw6, hsw6⟩
      case measure => simp [intOf]; omega
    · obtain rfl : j = 0 := by omega
      have hcv := conv_own hown
      go_wp2
      go_ret
      exact ⟨_, rfl, by simp [ByteArray.size]; omega, ⟨k2, r1, by omega, hsrc⟩, hbw, hsw⟩
set_option maxHeartbeats 1000000 in
theorem l00From_any (a : Option Addr) (n cap : Nat) (w : World) :
    Calls Tryd.prog 11 #[.slice a n cap] w fun e w' => e = .returned (.pointer (some ⟨w.heap.size, 0, none⟩)) ∧ w.alloc (.cells #[.slice a n cap, .int .i64 0, .int .u64 0] 58) = w' := by
  go_enter Tryd.func11, Tryd.ntmps11
  go_wp2
  go_ret
  exact ⟨rfl, rfl⟩
end Go.Proofs.YtppiodhjhnmaoaaDoor
