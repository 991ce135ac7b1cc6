/- spec.l02Bent, spec.DrawSpliceCells -/
import Derived.Test.YtfedlehibkgjbaaDoorPkFnFluxDraw2
namespace Go.Proofs.YtfedlehibkgjbaaDoor
open Go.RowKit
set_option linter.unusedVariables false
set_option maxHeartbeats 2000000 in
theorem l02Bent_any (p : Nat) (a : Option Addr) (n cap k : Nat) (w : World) (hn : n ≤ 1048576) (hk : k < 10000000000) (ha : CodeLt a n w.heap.size) (h : SrcAt w p a n cap k) :
    Calls Tryd.prog 30 #[.pointer (some ⟨p, 0, none⟩)] w fun e w' => ∃ s : ByteArray, e = .returned (.string s) ∧ s.size ≤ 101 ∧ (∃ k', k' ≤ k + 202 ∧ SrcAt w' p a n cap k') ∧ Below p w w' ∧ w.heap.size ≤ w'.heap.size := by
  have D1 := Lib.hid (l02Draw_any 20 (by omega) p a n cap k w hn (by omega) ha h)
  clear h
  go_enter Tryd.func30, Tryd.ntmps30
  go_wp2_with fail
  refine D1.out.mono ?_
  rintro e w1 ⟨s, rfl, hs, ⟨k1, q1, q2⟩, hb, hz⟩
  have P1 := Lib.hid (pick_any 20 p a n cap k1 w1 (by omega) hn (by omega) q2)
  have HB := Lib.hid hb; clear hb q2 D1
  go_wp2_with fail
  refine P1.out.mono ?_
  rintro e w2 ⟨v, rfl, hv0, hv1, k2, r1, r2, r3, r4⟩
  have HR := Lib.hid (show (∃ k', k' ≤ k + 202 ∧ SrcAt w2 p a n cap k') ∧ Below p w w2 ∧ w.heap.size ≤ w2.heap.size from ⟨⟨k2, by omega, r3⟩, HB.out.trans (r4.below (Nat.le_refl _)), by have := r4.2.2.2.1; omega⟩)
  clear r3 r4 HB P1 hv1
  have hsz : (s ++ (⟨#[50]⟩ : ByteArray)).size ≤ 101 := by rw [ByteArray.size_append]; show s.size + 1 ≤ 101; omega
  have hs2 : s.size ≤ 101 := by omega
  have HZ := Lib.hid (And.intro hsz hs2)
  have hsm : (s.size : Int) + 1 ≤ 1000 := by omega
  clear hsz hs2
  by_cases h0 : v = 0
  · subst h0
    go_wp2
    go_ret
    exact ⟨_, rfl, HZ.out.1, HR.out⟩
  · have h0' : (v == 0) = false := by rw [beq_eq_false_iff_ne]; exact h0
    by_cases h1 : v = 1
    · subst h1
      go_wp2
      go_ret
      exact ⟨_, rfl, by decide, HR.out⟩
    · have h1' : (v == 1) = false := by rw [beq_eq_false_iff_ne]; exact h1
      go_wp2
      go_ret
      exact ⟨_, rfl, HZ.out.2, HR.out⟩
end Go.Proofs.YtfedlehibkgjbaaDoor
