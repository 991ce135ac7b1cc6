/- spec.l02DrawCell, spec.DrawFluxOf, laws.b10At, laws.b10Long -/
import Derived.Test.YtfedlehibkgjbaaDoorPkFnFluxDraw3
import Derived.Test.YtfedlehibkgjbaaDoorPkFnFluxDrawCrc
namespace Go.Proofs.YtfedlehibkgjbaaDoor
open Go.RowKit
set_option linter.unusedVariables false
set_option linter.unusedSimpArgs false
theorem cell_ints (w : World) : Ints (w.alloc (.cells #[.int .i64 4, .int .i64 10, .int .i64 16, .int .i64 20, .int .i64 25, .int .i64 40, .int .i64 200] 2)) w.heap.size 0 [4, 10, 16, 20, 25, 40, 200] := by
  intro i x hx
  have h := heap_alloc_new w (.cells #[.int .i64 4, .int .i64 10, .int .i64 16, .int .i64 20, .int .i64 25, .int .i64 40, .int .i64 200] 2)
  match i, hx with
  | 0, hx => simp at hx; subst hx; simp only [World.cell?, h]; rfl
  | 1, hx => simp at hx; subst hx; simp only [World.cell?, h]; rfl
  | 2, hx => simp at hx; subst hx; simp only [World.cell?, h]; rfl
  | 3, hx => simp at hx; subst hx; simp only [World.cell?, h]; rfl
  | 4, hx => simp at hx; subst hx; simp only [World.cell?, h]; rfl
  | 5, hx => simp at hx; subst hx; simp only [World.cell?, h]; rfl
  | 6, hx => simp at hx; subst hx; simp only [World.cell?, h]; rfl
  | i + 7, hx => simp at hx
theorem bad_ints (w : World) : Ints (w.alloc (.cells #[.int .i64 3, .int .i64 201, .int .i64 0] 2)) w.heap.size 0 [3, 201, 0] := by
  intro i x hx
  have h := heap_alloc_new w (.cells #[.int .i64 3, .int .i64 201, .int .i64 0] 2)
  match i, hx with
  | 0, hx => simp at hx; subst hx; simp only [World.cell?, h]; rfl
  | 1, hx => simp at hx; subst hx; simp only [World.cell?, h]; rfl
  | 2, hx => simp at hx; subst hx; simp only [World.cell?, h]; rfl
  | i + 3, hx => simp at hx
set_option maxHeartbeats 4000000 in
theorem l02DrawCell_any (p : Nat) (a : Option Addr) (n cap k : Nat) (w : World) (hn : n ≤ 1048576) (hk : k < 10000000000) (ha : CodeLt a n w.heap.size) (h : SrcAt w p a n cap k) :
    Calls Tryd.prog 33 #[.pointer (some ⟨p, 0, none⟩)] w fun e w' => ∃ v : Int, e = .returned (.int .i64 v) ∧ 4 ≤ v ∧ v ≤ 200 ∧ (∃ k', k' ≤ k + 2 ∧ SrcAt w' p a n cap k') ∧ Below p w w' ∧ w.heap.size ≤ w'.heap.size := by
  have hp := h.lt
  have h1 : SrcAt (w.alloc (.cells #[.int .i64 4, .int .i64 10, .int .i64 16, .int .i64 20, .int .i64 25, .int .i64 40, .int .i64 200] 2)) p a n cap k := h.below ha (Below.alloc (Below.refl _ w) (Nat.le_refl _) _) hp
  have hb : Below p w (w.alloc (.cells #[.int .i64 4, .int .i64 10, .int .i64 16, .int .i64 20, .int .i64 25, .int .i64 40, .int .i64 200] 2)) := Below.alloc (Below.refl _ w) (Nat.le_of_lt hp) _
  have A1 := Lib.hid (among_any w.heap.size 7 [4, 10, 16, 20, 25, 40, 200] p a n cap k _ (by decide) (by decide) (by omega) (cell_ints w) hn (by omega) h1)
  have HB := Lib.hid hb; clear hb h1 h
  go_enter Tryd.func33, Tryd.ntmps33
  go_wp2_with fail
  refine A1.out.mono ?_
  rintro e w2 ⟨v, rfl, hv, k2, q1, q2, q3, q4⟩
  have hv2 : 4 ≤ v ∧ v ≤ 200 := by simp at hv; omega
  have HR := Lib.hid (And.intro (And.intro hv2.1 hv2.2) (And.intro q3 q4)); clear q3 q4 A1 hv hv2
  go_wp2
  go_ret
  refine ⟨v, rfl, HR.out.1.1, HR.out.1.2, ⟨k2, by omega, HR.out.2.1⟩, HB.out.trans (HR.out.2.2.below (Nat.le_refl _)), ?_⟩
  have := HR.out.2.2.2.2.2.1
  simp at this; omega
set_option maxHeartbeats 4000000 in
theorem drawFluxOf_any (a : Option Addr) (n cap : Nat) (w : World) (hn : n ≤ 1048576) (ha : CodeLt a n w.heap.size) (hc : CodeAt w a n) :
    Calls Tryd.prog 11 #[.slice a n cap] w fun e w' => ∃ (x : ByteArray) (v : Int), e = .returned (.tuple #[.string x, .int .i64 v]) ∧ x.size ≤ 101 ∧ 0 ≤ v ∧ v ≤ 201 ∧ Below w.heap.size w w' := by
  have hs := src_new w a n cap ha hc
  have hb : Below w.heap.size w (w.alloc (.cells #[.slice a n cap, .int .i64 0, .int .u64 0] 72)) := Below.alloc (Below.refl _ w) (Nat.le_refl _) _
  have D := Lib.hid (l02Bent_any w.heap.size a n cap 0 _ hn (by omega) (ha.mono hb.size) hs)
  have hsz1 : (w.alloc (.cells #[.slice a n cap, .int .i64 0, .int .u64 0] 72)).heap.size = w.heap.size + 1 := by simp
  have HZ := Lib.hid hsz1
  have HB := Lib.hid hb; clear hs hb hsz1
  go_enter Tryd.func11, Tryd.ntmps11
  go_wp2_with fail
  refine (l00From_any a n cap w).mono ?_
  rintro e w1 ⟨rfl, rfl⟩
  go_wp2_with fail
  refine D.out.mono ?_
  rintro e w2 ⟨x, rfl, hx, ⟨k2, hk2, hsrc2⟩, hb2, hs2⟩
  have hbb2 := HB.out.trans hb2
  have hs2' : w.heap.size + 1 ≤ w2.heap.size := by have := HZ.out; omega
  have O := Lib.hid (one_any 12 w.heap.size a n cap k2 w2 (by omega) hn (by omega) hsrc2)
  have HB2 := Lib.hid hbb2; clear hsrc2 hb2 hbb2 D
  go_wp2_with fail
  refine O.out.mono ?_
  rintro e w3 ⟨b, rfl, k3, q1, q2, q3, q4⟩
  have hs3 : w.heap.size + 1 ≤ w3.heap.size := by have := q4.2.2.2.1; omega
  have hbb3 := HB2.out.trans (q4.below (Nat.le_refl _))
  clear O q4
  cases b with
  | true =>
    have hsrc3 : SrcAt (w3.alloc (.cells #[.int .i64 3, .int .i64 201, .int .i64 0] 2)) w.heap.size a n cap k3 := q3.below (C := w3.heap.size) (ha.mono (by omega)) (Below.alloc (Below.refl _ w3) (Nat.le_refl _) _) (by omega)
    have A1 := Lib.hid (among_any w3.heap.size 3 [3, 201, 0] w.heap.size a n cap k3 _ (by decide) (by decide) (by omega) (bad_ints w3) hn (by omega) hsrc3)
    have HB3 := Lib.hid (hbb3.alloc (by omega) (.cells #[.int .i64 3, .int .i64 201, .int .i64 0] 2)); clear q3 hsrc3 hbb3 HB2
    go_wp2_with fail
    refine A1.out.mono ?_
    rintro e w4 ⟨v, rfl, hv, k4, r1, r2, r3, r4⟩
    have hv2 : 0 ≤ v ∧ v ≤ 201 := by simp at hv; omega
    have HR := Lib.hid (And.intro hv2 (HB3.out.trans (r4.below (Nat.le_refl _)))); clear r3 r4 A1 hv hv2
    go_wp2
    go_ret2
    exact ⟨x, v, rfl, hx, HR.out.1.1, HR.out.1.2, HR.out.2⟩
  | false =>
    have C1 := Lib.hid (l02DrawCell_any w.heap.size a n cap k3 w3 hn (by omega) (ha.mono (by omega)) q3)
    have HB3 := Lib.hid hbb3; clear q3 hbb3 HB2
    go_wp2_with fail
    refine C1.out.mono ?_
    rintro e w4 ⟨v, rfl, v0, v1, _, hb4, _⟩
    have HR := Lib.hid (HB3.out.trans hb4); clear hb4 C1
    go_wp2
    go_ret2
    exact ⟨x, v, rfl, hx, by omega, by omega, HR.out⟩
set_option maxHeartbeats 1000000 in
theorem b10At_at (a : Option Addr) (len cap : Nat) (n : Nat) (hn : 1 ≤ n) (hn2 : n ≤ 1000000) (w : World) (hl : len ≤ 1048576) (hc : CodeAt w a len) :
    Calls Tryd.prog 17 #[.slice a len cap, .int .i64 0, .int .i64 (n : Int)] w fun e w' => (∃ v : Nat, v < n ∧ e = .returned (.int .i64 (v : Int))) ∧ w = w' := by
  by_cases h1 : n = 1
  · have e1 : (n : Int) ≤ 1 := by omega
    clear hc hl
    go_enter Tryd.func17, Tryd.ntmps17
    go_wp2
    go_ret
    exact ⟨⟨0, by omega, rfl⟩, rfl⟩
  exact b10At_any a len cap 0 n (by omega) (by omega) hn2 w hl hc
theorem b10Long_is (a : Option Addr) (n cap : Nat) (w : World) :
    Calls Tryd.prog 10 #[.slice a n cap] w fun e w' => e = .returned (.bool (decide (1048576 < n))) ∧ w = w' := by
  by_cases h : 1048576 < n
  · rw [decide_eq_true h]
    have h1 : (1048576 : Int) < n := by omega
    clear h
    go_enter Tryd.func10, Tryd.ntmps10
    go_wp2
    go_ret
    exact ⟨ret_bool (by first | (simp; done) | (simp; omega)), rfl⟩
  · rw [decide_eq_false h]
    have h1 : (n : Int) ≤ 1048576 := by omega
    clear h
    go_enter Tryd.func10, Tryd.ntmps10
    go_wp2
    go_ret
    exact ⟨ret_bool (by first | (simp; done) | (simp; omega)), rfl⟩
end Go.Proofs.YtfedlehibkgjbaaDoor
