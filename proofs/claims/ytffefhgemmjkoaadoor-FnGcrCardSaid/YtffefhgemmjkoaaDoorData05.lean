/- spec: word, l05Data, A2Data; laws: a2Long, a2Byte. -/
import Derived.Test.YtffefhgemmjkoaaDoorDraw2
namespace Go.Proofs.YtffefhgemmjkoaaDoor
open Go.RowKit
set_option maxRecDepth 20000
set_option linter.unusedVariables false
theorem code_of {w : World} {a : Option Addr} {n cap : Nat} {zs : List Int} (h : IsRow .u8 w a n cap zs) : CodeAt w a n ∧ CodeLt a n w.heap.size := by
  rcases h with ⟨_, h, _⟩ | ⟨x, rfl, h1, h2, h3, h4, h5⟩
  · exact ⟨.inl h, .inl h⟩
  · refine ⟨.inr ⟨x, rfl, fun i hi => ?_⟩, ?_⟩
    · have hi2 : i < zs.length := by omega
      have hb := bounds_u8 (h5 zs[i] (List.getElem_mem hi2))
      have hc := h4 i hi2
      refine ⟨zs[i].toNat, by omega, ?_⟩
      rw [hc]
      have e : zs.getD i 0 = zs[i] := by simp [List.getD, hi2]
      rw [e, Int.toNat_of_nonneg hb.1]
    · by_cases h0 : n = 0
      · exact .inl h0
      · right
        intro y hy
        cases hy
        have hc := h4 0 (by omega)
        have := World.block_lt_of_cell? w (x.add 0) hc
        rwa [add_block] at this
theorem Dr.chose1 {w : World} {p : Nat} {a : Option Addr} {n cap K L k : Nat} {wr w' : World} {out : Value} {l : List UInt8} (hp : p < w.heap.size) (ho : OwnB wr w.heap.size out l) (hl : l.length ≤ L) (hk : k ≤ K) (hb : Below p w wr) (hs : w.heap.size ≤ wr.heap.size) (hc : Chose p a n cap k 1 wr w') : Dr w p a n cap (K + 1) L w' out := by
  obtain ⟨k', q1, q2, q3, q4⟩ := hc
  exact ⟨l, ho.only q4 hp, hl, ⟨k', by omega, q3⟩, hb.trans (q4.below (Nat.le_refl _)), by have := q4.2.2.2.1; omega⟩
set_option maxHeartbeats 4000000 in
theorem word_any (m : Nat) (hm : m ≤ 1000) (p : Nat) (a : Option Addr) (n cap k : Nat) (w : World) (hn : n ≤ 1048576) (hk : k < 100000000000) (ha : CodeLt a n w.heap.size) (h : SrcAt w p a n cap k) :
    Calls Tryd.prog 99 #[.pointer (some ⟨p, 0, none⟩), .int .i64 (m : Int)] w fun e w' => ∃ s : ByteArray, e = .returned (.string s) ∧ s.size ≤ m ∧ (∃ k', k' ≤ k + 2 + m ∧ SrcAt w' p a n cap k') ∧ Below p w w' ∧ w.heap.size ≤ w'.heap.size := by
  have hp := h.lt
  have hA : SrcAt (w.alloc (.cells #[] 5)) p a n cap k := h.below ha (Below.alloc (Below.refl _ w) (Nat.le_refl _) _) hp
  have hO : OwnB (w.alloc (.cells #[] 5)) w.heap.size (.slice (some ⟨w.heap.size, 0, none⟩) 0 0) [] := OwnB.nil w _ (Nat.le_refl _)
  have hB : Below p w (w.alloc (.cells #[] 5)) := Below.alloc (Below.refl _ w) (Nat.le_of_lt hp) _
  have hS : w.heap.size ≤ (w.alloc (.cells #[] 5)).heap.size := by simp
  have N1 := Lib.hid (pick_any (m : Int) p a n cap k _ (by omega) hn (by omega) hA)
  have HH := Lib.hid (And.intro hO (And.intro hB hS)); clear hO hB hS hA h
  go_enter Tryd.func99, Tryd.ntmps99
  go_wp2_with fail
  refine N1.out.mono ?_
  rintro e w1 ⟨v, rfl, hv0, hv1, hc⟩
  obtain ⟨j0, rfl⟩ : ∃ j : Nat, v = j := ⟨v.toNat, by omega⟩
  have hj0 : j0 ≤ m := by omega
  have D1 := Lib.hid (Dr.chose (L := 0) hp HH.out.1 (Nat.le_refl _) (Nat.le_refl _) HH.out.2.1 HH.out.2.2 hc)
  clear hc HH N1
  go_wp2
  go_loopw [5, 6] (fun out q wr => ∃ j : Nat, q = .int .i64 (j : Int) ∧ j ≤ j0 ∧ Dr w p a n cap (k + 2 + j0 - j) (j0 - j) wr out) (fun _ q _ => (intOf q).toNat)
  case atStart =>
    refine ⟨j0, rfl, Nat.le_refl _, ?_⟩
    obtain ⟨l, d1, d2, ⟨k1, d3, d4⟩, d5, d6⟩ := D1.out
    exact ⟨l, d1, by omega, ⟨k1, by omega, d4⟩, d5, d6⟩
  case round =>
    obtain ⟨j, rfl, hj, l, d1, d2, ⟨k1, d3, d4⟩, d5, d6⟩ := hrel
    by_cases h0 : 0 < j
    · have e1 : (0 : Int) < (j : Int) := by omega
      have P1 := Lib.hid (next_any p a n cap k1 wr hn (by omega) d4)
      have HD := Lib.hid (fun w' hc => Dr.chose1 (K := k + 2 + j0 - j) (L := j0 - j) (w' := w') (cap := cap) (n := n) (a := a) hp d1 d2 d3 d5 d6 hc)
      clear d1 d2 d3 d4 d5 d6
      go_wp2_with fail
      refine P1.out.mono ?_
      rintro e w2 ⟨z, rfl, hz0, hz1, hc⟩
      obtain ⟨l2, d1, d2, ⟨k2, d3, d4⟩, d5, d6⟩ := HD.out _ hc
      clear hc HD P1
      have hll : l2.length < 2147483648 := by omega
      have HX := Lib.hid (And.intro d2 (And.intro d4 (And.intro d5 d6))); clear d4 d5
      go_wp2_with (at_builtin; refine wpList_appendB rfl _ _ rfl rfl (d1.alloc _) z hz0 hz1 ⟨w2.heap.size, 0, none⟩ 1 rfl (World.news_of_block (cs := #[.int .u8 z]) (t := 5) (fr := (0, 0)) (heap_alloc_new w2 _)) hll (by simp; omega) ?_; intro g cap6 w6 hown6 _ hb6 _)
      have D3 := Dr.snoc (cap := cap) hp ha hown6 HX.out.1 d3 HX.out.2.1 HX.out.2.2.1 HX.out.2.2.2 hb6
      go_roundw
      case rel =>
        refine ⟨j - 1, by rw [show ((j - 1 : Nat) : Int) = (j : Int) - 1 by omega], by omega, ?_⟩
        rw [show k + 2 + j0 - (j - 1) = k + 2 + j0 - j + 1 by omega, show j0 - (j - 1) = j0 - j + 1 by omega]
        exact D3
      case measure => simp [intOf] <;> omega
    · obtain rfl : j = 0 := by omega
      have hcv := conv_own d1
      have HX := Lib.hid (And.intro d2 (And.intro d3 (And.intro d4 (And.intro d5 d6)))); clear d1 d2 d3 d4 d5 d6
      go_wp2
      go_ret
      obtain ⟨d2, d3, d4, d5, d6⟩ := HX.out
      exact ⟨_, rfl, by show l.toArray.size ≤ m; rw [List.size_toArray]; omega, ⟨k1, by omega, d4⟩, d5, d6⟩
theorem five_ints (w : World) : Ints (w.alloc (.cells #[.int .i64 0, .int .i64 255, .int .i64 78, .int .i64 161, .int .i64 85] 2)) w.heap.size 0 [0, 255, 78, 161, 85] := by
  intro i x hx
  have h := heap_alloc_new w (.cells #[.int .i64 0, .int .i64 255, .int .i64 78, .int .i64 161, .int .i64 85] 2)
  match i, hx with
  | 0, hx => simp at hx; subst hx; simp only [World.cell?, h]; rfl
  | 1, hx => simp at hx; subst hx; simp only [World.cell?, h]; rfl
  | 2, hx => simp at hx; subst hx; simp only [World.cell?, h]; rfl
  | 3, hx => simp at hx; subst hx; simp only [World.cell?, h]; rfl
  | 4, hx => simp at hx; subst hx; simp only [World.cell?, h]; rfl
  | i + 5, hx => simp at hx
set_option maxHeartbeats 4000000 in
theorem l05Data_any (p : Nat) (a : Option Addr) (n cap k : Nat) (w : World) (hn : n ≤ 1048576) (hk : k < 10000000000) (ha : CodeLt a n w.heap.size) (h : SrcAt w p a n cap k) :
    Calls Tryd.prog 52 #[.pointer (some ⟨p, 0, none⟩)] w fun e w' => ∃ s : ByteArray, e = .returned (.string s) ∧ s.size ≤ 40 ∧ (∃ k', k' ≤ k + 200 ∧ SrcAt w' p a n cap k') ∧ Below p w w' ∧ w.heap.size ≤ w'.heap.size := by
  have hp := h.lt
  have O1 := Lib.hid (one_any 4 p a n cap k w (by omega) hn (by omega) h)
  clear h
  go_enter Tryd.func52, Tryd.ntmps52
  go_wp2_with fail
  refine O1.out.mono ?_
  rintro e w1 ⟨b, rfl, k1, q1, q2, q3, q4⟩
  have hb1 : Below p w w1 := q4.below (Nat.le_refl _)
  have hs1 : w1.heap.size = w.heap.size := q4.2.2.2.1
  clear O1 q4
  cases b with
  | false =>
    have W1 := Lib.hid (word_any 20 (by omega) p a n cap k1 w1 hn (by omega) (ha.mono (by omega)) q3)
    have HB := Lib.hid (And.intro hb1 hs1); clear hb1 hs1 q3
    go_wp2_with fail
    refine W1.out.mono ?_
    rintro e w2 ⟨s, rfl, r1, ⟨k2, r2, r3⟩, r4, r5⟩
    have HR := Lib.hid (And.intro r1 (And.intro r2 (And.intro r3 (And.intro r4 r5)))); clear r1 r2 r3 r4 r5
    go_wp2
    go_ret
    obtain ⟨r1, r2, r3, r4, r5⟩ := HR.out
    have h2 := HB.out.2
    exact ⟨s, rfl, by omega, ⟨k2, by omega, r3⟩, HB.out.1.trans r4, by omega⟩
  | true =>
    have P1 := Lib.hid (pick_any 40 p a n cap k1 w1 (by omega) hn (by omega) q3)
    have HB := Lib.hid (And.intro hb1 hs1); clear hb1 hs1 q3
    go_wp2_with fail
    refine P1.out.mono ?_
    rintro e w2 ⟨v, rfl, hv0, hv1, k2, r1, r2, r3, r4⟩
    obtain ⟨j0, rfl⟩ : ∃ j : Nat, v = j := ⟨v.toNat, by omega⟩
    have hj0 : j0 ≤ 39 := by omega
    have hb2 : Below p w w2 := HB.out.1.trans (r4.below (Nat.le_refl _))
    have hs2 : w2.heap.size = w.heap.size := r4.2.2.2.1.trans HB.out.2
    clear P1 HB r4
    have hb3 : Below p w (w2.alloc (.cells #[.int .i64 0, .int .i64 255, .int .i64 78, .int .i64 161, .int .i64 85] 2)) := hb2.alloc (by omega) _
    have h3 : SrcAt (w2.alloc (.cells #[.int .i64 0, .int .i64 255, .int .i64 78, .int .i64 161, .int .i64 85] 2)) p a n cap k2 := r3.below ha (Below.alloc (Below.refl _ w2) (by omega) _) hp
    have A1 := Lib.hid (among_any w2.heap.size 5 [0, 255, 78, 161, 85] p a n cap k2 _ (by decide) (by decide) (by omega) (five_ints w2) hn (by omega) h3)
    have HB := Lib.hid (And.intro hb3 hs2); clear hb3 hs2 hb2 h3 r3
    go_wp2_with fail
    refine A1.out.mono ?_
    rintro e w3 ⟨c, rfl, hc, k3, s1, s2, s3, s4⟩
    have hc2 : 0 ≤ c ∧ c < 256 := by simp at hc; omega
    obtain ⟨hc0, hc1⟩ := hc2
    have hb3 : Below p w w3 := HB.out.1.trans (s4.below (Nat.le_refl _))
    have hs3 : w3.heap.size = w.heap.size + 1 := by have := s4.2.2.2.1; have := HB.out.2; simp at *; omega
    have hO : OwnB (w3.alloc (.cells #[] 5)) w3.heap.size (.slice (some ⟨w3.heap.size, 0, none⟩) 0 0) [] := OwnB.nil w3 _ (Nat.le_refl _)
    have hS : SrcAt (w3.alloc (.cells #[] 5)) p a n cap k3 := s3.below (C := w3.heap.size) (ha.mono (by omega)) (Below.alloc (Below.refl _ w3) (Nat.le_refl _) _) (by omega)
    have D1 := Lib.hid (show Dr w3 p a n cap k3 0 (w3.alloc (.cells #[] 5)) (.slice (some ⟨w3.heap.size, 0, none⟩) 0 0) from ⟨[], hO, Nat.le_refl _, ⟨k3, Nat.le_refl _, hS⟩, Below.alloc (Below.refl _ w3) (by omega) _, by simp⟩)
    have hp3 : p < w3.heap.size := by omega
    have ha3 : CodeLt a n w3.heap.size := ha.mono (by omega)
    have HW := Lib.hid (And.intro hb3 hs3); clear hb3 hs3 hO hS s3 s4 A1 HB hc
    go_wp2
    go_loopw [3, 5] (fun q out wr => ∃ j : Nat, q = .int .i64 (j : Int) ∧ j ≤ j0 ∧ Dr w3 p a n cap k3 (j0 - j) wr out) (fun q _ _ => (intOf q).toNat)
    case atStart =>
      refine ⟨j0, rfl, Nat.le_refl _, ?_⟩
      obtain ⟨l, d1, d2, d3, d5, d6⟩ := D1.out
      exact ⟨l, d1, by omega, d3, d5, d6⟩
    case round =>
      obtain ⟨j, rfl, hj, l, d1, d2, ⟨k4, d3, d4⟩, d5, d6⟩ := hrel
      by_cases h0 : 0 < j
      · have e1 : (0 : Int) < (j : Int) := by omega
        have hll : l.length < 2147483648 := by omega
        have HX := Lib.hid (And.intro d2 (And.intro d4 (And.intro d5 d6))); clear d4 d5
        go_wp2_with (at_builtin; refine wpList_appendB rfl _ _ rfl rfl (d1.alloc _) c hc0 hc1 ⟨wr.heap.size, 0, none⟩ 1 rfl (World.news_of_block (cs := #[.int .u8 c]) (t := 5) (fr := (0, 0)) (heap_alloc_new wr _)) hll (by simp; omega) ?_; intro g cap6 w6 hown6 _ hb6 _)
        have D3 := Dr.snoc (cap := cap) hp3 ha3 hown6 HX.out.1 d3 HX.out.2.1 HX.out.2.2.1 HX.out.2.2.2 hb6
        go_roundw
        case rel =>
          refine ⟨j - 1, by rw [show ((j - 1 : Nat) : Int) = (j : Int) - 1 by omega], by omega, ?_⟩
          rw [show j0 - (j - 1) = j0 - j + 1 by omega]
          exact D3
        case measure => simp [intOf] <;> omega
      · obtain rfl : j = 0 := by omega
        have hcv := conv_own d1
        have HX := Lib.hid (And.intro d2 (And.intro d3 (And.intro d4 (And.intro d5 d6)))); clear d1 d2 d3 d4 d5 d6
        go_wp2
        go_ret
        obtain ⟨d2, d3, d4, d5, d6⟩ := HX.out
        have h1 := HW.out.2
        exact ⟨_, rfl, by show l.toArray.size ≤ 40; rw [List.size_toArray]; omega, ⟨k4, by omega, d4⟩, HW.out.1.trans d5, by omega⟩
set_option maxHeartbeats 1000000 in
theorem a2Data_any (a : Option Addr) (n cap : Nat) (w : World) (hn : n ≤ 1048576) (ha : CodeLt a n w.heap.size) (hc : CodeAt w a n) :
    Calls Tryd.prog 21 #[.slice a n cap] w fun e w' => ∃ s : ByteArray, e = .returned (.string s) ∧ s.size ≤ 40 ∧ Below w.heap.size w w' := by
  have hs := src_new w a n cap ha hc
  have hb : Below w.heap.size w (w.alloc (.cells #[.slice a n cap, .int .i64 0, .int .u64 0] 103)) := Below.alloc (Below.refl _ w) (Nat.le_refl _) _
  have D := Lib.hid (l05Data_any w.heap.size a n cap 0 _ hn (by omega) (ha.mono hb.size) hs)
  have HB := Lib.hid hb; clear hs hb
  go_enter Tryd.func21, Tryd.ntmps21
  go_wp2_with fail
  refine (l00From_any a n cap w).mono ?_
  rintro e w1 ⟨rfl, rfl⟩
  go_wp2_with fail
  refine D.out.mono ?_
  rintro e w2 ⟨s, rfl, h1, _, h3, h4⟩
  go_wp2
  go_ret
  exact ⟨s, rfl, h1, HB.out.trans h3⟩
theorem a2Long_any (a b : Option Addr) (n m c d : Nat) (w : World) :
    Calls Tryd.prog 20 #[.slice a n c, .slice b m d] w fun e w' => e = .returned (.bool (decide (3000 < n) || decide (3000 < m))) ∧ w = w' := by
  by_cases h1 : 3000 < n
  · have e : (decide (3000 < n) || decide (3000 < m)) = true := by simp [h1]
    rw [e]
    have h1' : (3000 : Int) < n := by omega
    clear h1 e
    go_enter Tryd.func20, Tryd.ntmps20
    go_wp2
    go_ret
    exact ⟨rfl, rfl⟩
  · have e : (decide (3000 < n) || decide (3000 < m)) = decide (3000 < m) := by simp [h1]
    rw [e]
    have h1' : ¬ (3000 : Int) < n := by omega
    clear h1 e
    by_cases h2 : 3000 < m
    · have e : decide (3000 < m) = true := by simp [h2]
      rw [e]
      have h2' : (3000 : Int) < m := by omega
      clear h2 e
      go_enter Tryd.func20, Tryd.ntmps20
      go_wp2
      go_ret
      exact ⟨rfl, rfl⟩
    · have e : decide (3000 < m) = false := by simp [h2]
      rw [e]
      have h2' : ¬ (3000 : Int) < m := by omega
      clear h2 e
      go_enter Tryd.func20, Tryd.ntmps20
      go_wp2
      go_ret
      exact ⟨rfl, rfl⟩
end Go.Proofs.YtffefhgemmjkoaaDoor
