/- spec.l02Bent, spec.DrawSpliceCells -/
import Derived.Test.YteldnfamfjldpaaDraw2
namespace Go.Proofs.Yteldnfamfjldpaa
open Go.RowKit
set_option linter.unusedVariables false
set_option maxHeartbeats 2000000 in
theorem l02Bent_any (p : Nat) (a : Option Addr) (n cap k : Nat) (w : World) (hn : n ≤ 1048576) (hk : k < 10000000000) (ha : CodeLt a n w.heap.size) (h : SrcAt w p a n cap k) :
    Calls Try.prog 32 #[.pointer (some ⟨p, 0, none⟩)] w fun e w' => ∃ s : ByteArray, e = .returned (.string s) ∧ s.size ≤ 101 ∧ (∃ k', k' ≤ k + 202 ∧ SrcAt w' p a n cap k') ∧ Below p w w' ∧ w.heap.size ≤ w'.heap.size := by
  have D1 := Lib.hid (l02Draw_any 20 (by omega) p a n cap k w hn (by omega) ha h)
  clear h
  go_enter Try.func32, Try.ntmps32
  go_wp2_with fail
  refine D1.out.mono ?_
  rintro e w1 ⟨s, rfl, hs, ⟨k1, q1, q2⟩, hb, hz⟩
  have P1 := Lib.hid (pick_any 20 p a n cap k1 w1 (by omega) hn (by omega) q2)
  have HB := Lib.hid hb; clear hb q2 D1
  go_wp2_with fail
  refine P1.out.mono ?_
  rintro e w2 ⟨v, rfl, hv0, hv1, k2, r1, r2, r3, r4⟩
  have HR := Lib.hid (show (∃ k', k' ≤ k + 202 ∧ SrcAt w2 p a n cap k') ∧ Below p w w2 ∧ w.heap.size ≤ w2.heap.size from ⟨⟨k2, by omega, r3⟩, HB.out.trans (r4.below (Nat.le_refl _)), by have := r4.2.2.2.1; omega⟩)
  clear r3 r4 HB P1 hv1
  have hsz : (s ++ (⟨#[50]⟩ : ByteArray)).size ≤ 101 := by rw [ByteArray.size_append]; show s.size + 1 ≤ 101; omega
  have hs2 : s.size ≤ 101 := by omega
  have HZ := Lib.hid (And.intro hsz hs2)
  have hsm : (s.size : Int) + 1 ≤ 1000 := by omega
  clear hsz hs2
  by_cases h0 : v = 0
  · subst h0
    go_wp2
    go_ret
    exact ⟨_, rfl, HZ.out.1, HR.out⟩
  · have h0' : (v == 0) = false := by rw [beq_eq_false_iff_ne]; exact h0
    by_cases h1 : v = 1
    · subst h1
      go_wp2
      go_ret
      exact ⟨_, rfl, by decide, HR.out⟩
    · have h1' : (v == 1) = false := by rw [beq_eq_false_iff_ne]; exact h1
      go_wp2
      go_ret
      exact ⟨_, rfl, HZ.out.2, HR.out⟩
set_option maxHeartbeats 2000000 in
theorem drawSpliceCells_any (a : Option Addr) (n cap : Nat) (w : World) (hn : n ≤ 1048576) (ha : CodeLt a n w.heap.size) (hc : CodeAt w a n) :
    Calls Try.prog 18 #[.slice a n cap] w fun e w' => ∃ (s : ByteArray) (at' : Int) (t : ByteArray), e = .returned (.tuple #[.string s, .int .i64 at', .string t]) ∧ s.size ≤ 101 ∧ t.size ≤ 100 ∧ -1 ≤ at' ∧ at' ≤ 30 ∧ Below w.heap.size w w' := by
  have hs := src_new w a n cap ha hc
  have hb : Below w.heap.size w (w.alloc (.cells #[.slice a n cap, .int .i64 0, .int .u64 0] 50)) := Below.alloc (Below.refl _ w) (Nat.le_refl _) _
  have D := Lib.hid (l02Bent_any w.heap.size a n cap 0 _ hn (by omega) (ha.mono hb.size) hs)
  have HB := Lib.hid hb; clear hs hb
  go_enter Try.func18, Try.ntmps18
  go_wp2_with fail
  refine (l00From_any a n cap w).mono ?_
  rintro e w1 ⟨rfl, rfl⟩
  go_wp2_with fail
  refine D.out.mono ?_
  rintro e w2 ⟨s, rfl, hs, ⟨k1, q1, q2⟩, hb2, hz2⟩
  have hz3 : w.heap.size ≤ w2.heap.size := by have := HB.out.size; omega
  have D2 := Lib.hid (l02Draw_any 3 (by omega) w.heap.size a n cap k1 w2 hn (by omega) (ha.mono hz3) q2)
  have HB2 := Lib.hid (HB.out.trans hb2); clear hb2 q2 D HB
  go_wp2_with fail
  refine D2.out.mono ?_
  rintro e w3 ⟨t, rfl, ht, ⟨k2, r1, r2⟩, hb3, hz4⟩
  have P1 := Lib.hid (pick_any 30 w.heap.size a n cap k2 w3 (by omega) hn (by omega) r2)
  have HB3 := Lib.hid (HB2.out.trans hb3); clear hb3 r2 D2 HB2
  go_wp2_with fail
  refine P1.out.mono ?_
  rintro e w4 ⟨v, rfl, hv0, hv1, k3, s1, s2, s3, s4⟩
  have HB4 := Lib.hid (HB3.out.trans (s4.below (Nat.le_refl _))); clear s3 s4 P1 HB3
  have ew : wrap64 (v - 1) = v - 1 := by unfold wrap64; omega
  go_wp2
  refine bodyPost_ret (v := .tuple #[.string s, .int .i64 (v - 1), .string t]) (by simp [results, Try.results18, go_sem]) rfl ⟨s, v - 1, t, rfl, hs, ht, by omega, by omega, HB4.out⟩
end Go.Proofs.Yteldnfamfjldpaa
