import Derived.Test.YteldnfamfjldpabSpecFluxOf
import Derived.Test.YteldnfamfjldpabMarkFlux
import Derived.Test.YteldnfamfjldpabLawFlux
namespace Go.Proofs.Yteldnfamfjldpab.fnExactFluxOf
open Go.RowKit
set_option linter.unusedVariables false
theorem len_le (s : ByteArray) (cell : Int) (hs : s.size ≤ 1048576) : (fluxOfVal s cell).gaps.length ≤ 1048576 := by
  unfold fluxOfVal
  split
  · split
    · simp [FluxVal.none]
    · split
      · simp [FluxVal.none]
      · rw [gapsOf_length]; exact Nat.le_trans (chg_length_le _ _ _) hs
  · simp [FluxVal.none]
set_option maxHeartbeats 4000000 in
theorem walk (a0 : ByteArray) (a1 : Int) (w : World) (w0 : a0.size ≤ maxLen) (w1 : (Lit.int .i64 a1).wf = true) :
    Calls Try.prog 10 #[.string a0, .int .i64 a1] w fun e w' => e = .returned (.bool true) ∧ Below w.heap.size w w' := by
  have hs := w0
  unfold maxLen at hs
  by_cases hl : 1048576 < a0.size
  · go_enter Try.func10, Try.ntmps10
    go_wp2
    go_ret
    exact ⟨rfl, Below.refl _ _⟩
  · have hlen := len_le a0 a1 (by omega)
    have c1 := fun w' => specFluxOf_any a0 a1 w' (by omega)
    have c2 := fun w' => fluxOf_any a0 a1 w' (by omega)
    generalize fluxOfVal a0 a1 = r at *
    obtain ⟨c, f, zs, code⟩ := r
    have C1 := Lib.hid (fun w' => (c1 w').mono (fun e w'' h => (show ∃ a cap, e = .returned (.tuple #[.agg #[.int .i64 c, .int .i64 f, .slice a zs.length cap], .int .i64 code]) ∧ SlO w'' w'.heap.size a zs ∧ Below w'.heap.size w' w'' from h)))
    have C2 := Lib.hid (fun w' => (c2 w').mono (fun e w'' h => (show ∃ a cap, e = .returned (.tuple #[.agg #[.int .i64 c, .int .i64 f, .slice a zs.length cap], .int .i64 code]) ∧ SlO w'' w'.heap.size a zs ∧ Below w'.heap.size w' w'' from h)))
    clear c1 c2
    have hcc : (code != code) = false := by simp
    have hc1 : (code == code) = true := by simp
    have heq : fluxEq c f zs c f zs = true := by simp [fluxEq]
    have c3 : ∀ a d b d' w', SlA w' a zs → SlA w' b zs → Calls Try.prog 29 #[.agg #[.int .i64 c, .int .i64 f, .slice a zs.length d], .agg #[.int .i64 c, .int .i64 f, .slice b zs.length d']] w' (fun e w'' => e = .returned (.bool true) ∧ Below w'.heap.size w' w'') :=
      fun a d b d' w' h1 h2 => (eqFlux_any c f a zs d c f b zs d' w' (by dsimp only at hlen; omega) (by dsimp only at hlen; omega) h1 h2).mono (fun _ _ ⟨he, hb⟩ => ⟨by rw [he, heq], hb⟩)
    have C3 := Lib.hid c3; clear c3
    have C4 := Lib.hid (fun a d B C w' hC h => markFlux_any c f a zs d 1 B C w' (by dsimp only at hlen; omega) (by omega) hC h)
    have C5 := Lib.hid (fun a d w' h => heldFlux_any c f a zs.length d 1 w' (by dsimp only at hlen; omega) (by omega) h)
    clear heq
    have hm1 : 1 + zs.length ≤ 1048577 := by dsimp only at hlen; omega
    obtain ⟨m, hm⟩ : ∃ m, 1 + zs.length = m := ⟨_, rfl⟩
    rw [hm] at hm1 C4 C5
    have hmm : ((m : Int) != (m : Int)) = false := by simp
    have hm0 : ¬ ((m : Int) < 0) := by omega
    go_enter Try.func10, Try.ntmps10
    go_wp2_with fail
    refine (C1.out _).mono ?_
    rintro e w1 ⟨a, cap, rfl, hso1, hb1⟩
    go_wp2_with fail
    refine (C2.out _).mono ?_
    rintro e w2 ⟨a', cap', rfl, hso2, hb2⟩
    -- the two results lie in cells of their own
    have hs1 := hb1.size
    have hs2 : w1.heap.size + 1 ≤ w2.heap.size := by have := hb2.size; simp at this; omega
    have hbA : Below w.heap.size w w2 := (hb1.alloc hb1.size _).trans (hb2.mono (by simp; omega))
    have FA := (FluxAt.new w1 c f a zs.length cap 37 w1.heap.size rfl).below hb2 (by simp)
    have SA := (hso1.within.below ((Below.refl _ _).alloc (Nat.le_refl _) _) (Nat.le_refl _)).below hb2 (show w1.heap.size ≤ _ by simp)
    have SB := hso2.within.mono (show w1.heap.size + 1 ≤ _ by simp) (Nat.le_refl _)
    have FA2 := FA.below (Below.alloc (Below.refl _ w2) (Nat.le_refl _) (.cells #[.int .i64 c, .int .i64 f, .slice a' zs.length cap'] 37)) (by omega)
    have FB2 := FluxAt.new w2 c f a' zs.length cap' 37 w2.heap.size rfl
    have SA2 := SA.below (Below.alloc (Below.refl _ w2) (Nat.le_refl _) (.cells #[.int .i64 c, .int .i64 f, .slice a' zs.length cap'] 37)) (show w1.heap.size ≤ _ by omega)
    have SB2 := SB.below (Below.alloc (Below.refl _ w2) (Nat.le_refl _) (.cells #[.int .i64 c, .int .i64 f, .slice a' zs.length cap'] 37)) (Nat.le_refl _)
    have hbB : Below w.heap.size w (w2.alloc (.cells #[.int .i64 c, .int .i64 f, .slice a' zs.length cap'] 37)) := hbA.alloc hbA.size _
    have hzB : (w2.alloc (.cells #[.int .i64 c, .int .i64 f, .slice a' zs.length cap'] 37)).heap.size = w2.heap.size + 1 := by simp
    clear hso1 hso2 hb1 hb2 FA SA SB hbA
    obtain ⟨xa0, xa1, xa2⟩ := FA2
    obtain ⟨xb0, xb1, xb2⟩ := FB2
    have HF := Lib.hid (And.intro SA2 (And.intro SB2 (And.intro hbB hzB)))
    clear SA2 SB2 hbB hzB
    go_wp2_with fail
    -- eqFlux of both
    refine (C3.out _ _ _ _ _ HF.out.2.1.sl HF.out.1.sl).mono ?_
    rintro e w3 ⟨rfl, hb3⟩
    have FA3 := FluxAt.below ⟨xa0, xa1, xa2⟩ hb3 (by have := HF.out.2.2.2; omega)
    have FB3 := FluxAt.below ⟨xb0, xb1, xb2⟩ hb3 (by have := HF.out.2.2.2; omega)
    have SA3 := HF.out.1.below hb3 (show w1.heap.size ≤ _ by have := HF.out.2.2.2; omega)
    have SB3 := HF.out.2.1.below hb3 (by have := HF.out.2.2.2; omega)
    have hbC : Below w.heap.size w w3 := HF.out.2.2.1.trans (hb3.mono (by have := HF.out.2.2.2; omega))
    have hzC : w2.heap.size + 1 ≤ w3.heap.size := by have := HF.out.2.2.2; have := hb3.size; omega
    clear hb3 xa0 xa1 xa2 xb0 xb1 xb2
    have HF2 := Lib.hid (And.intro SA3 (And.intro FA3 hbC))
    have FB3h := Lib.hid FB3
    have SB3h := Lib.hid SB3
    obtain ⟨xb0, xb1, xb2⟩ := FB3
    clear SA3 FA3 hbC SB3 HF
    go_wp2_with fail
    -- the mark
    refine (C4.out _ _ (w1.heap.size + 1) w2.heap.size _ (by omega) SB3h.out).mono ?_
    rintro e w4 ⟨rfl, hm4, hb4, hs4, ho4⟩
    have SA4 : SlA w4 a zs := by
      rcases HF2.out.1 with rfl | ⟨g, rest, rfl, hg, hC, hh⟩
      · exact .inl rfl
      · exact SlO.sl (B := 0) (.inr ⟨g, rest, rfl, Nat.zero_le _, by rw [ho4 g (by omega) (.inl (by omega))]; exact hh⟩)
    have FA4 : FluxAt w4 w1.heap.size c f a zs.length cap := by
      have e : ∀ o, w4.cell? ⟨w1.heap.size, o, none⟩ = w3.cell? ⟨w1.heap.size, o, none⟩ := fun o => World.cell?_of_block (ho4 w1.heap.size (by omega) (.inl (by omega)))
      obtain ⟨q0, q1, q2⟩ := HF2.out.2.1
      exact ⟨by rw [e]; exact q0, by rw [e]; exact q1, by rw [e]; exact q2⟩
    have FB4 : FluxAt w4 w2.heap.size c f a' zs.length cap' := by
      have e : ∀ o, w4.cell? ⟨w2.heap.size, o, none⟩ = w3.cell? ⟨w2.heap.size, o, none⟩ := fun o => World.cell?_of_block (ho4 w2.heap.size (by omega) (.inr (Nat.le_refl _)))
      exact ⟨by rw [e]; exact xb0, by rw [e]; exact xb1, by rw [e]; exact xb2⟩
    have hbD : Below w.heap.size w w4 := HF2.out.2.2.trans (hb4 _ (by omega) (by omega))
    have SM4 := hm4
    clear hm4 hb4 ho4 xb0 xb1 xb2 FB3h SB3h HF2
    have HF3 := Lib.hid (And.intro SA4 (And.intro FA4 (And.intro FB4 (And.intro SM4 (And.intro hbD (show w2.heap.size + 1 ≤ w4.heap.size by omega))))))
    clear SA4 FA4 SM4 hbD
    obtain ⟨xb0, xb1, xb2⟩ := FB4
    go_wp2_with fail
    -- it is held
    refine (C5.out _ _ _ HF3.out.2.2.2.1.sl).mono ?_
    rintro e w5 ⟨rfl, hb5⟩
    obtain ⟨SA4, FA4, FB4, SM4, hbD, hzD⟩ := HF3.out
    have SA5 := SA4.below hb5 (Nat.le_refl _)
    have FA5 := FA4.below hb5 FA4.lt
    have FB5 := FB4.below hb5 FB4.lt
    have SM5 := SM4.below hb5 (by omega)
    have hbE : Below w.heap.size w w5 := hbD.trans (hb5.mono hbD.size)
    have hzE : w2.heap.size + 1 ≤ w5.heap.size := by have := hb5.size; omega
    have HF4 := Lib.hid (And.intro SA5 (And.intro FA5 (And.intro FB5 (And.intro SM5 (And.intro hbE hzE)))))
    clear SA4 FA4 FB4 SM4 hbD hzD SA5 FA5 FB5 SM5 hbE hzE hb5 xb0 xb1 xb2 HF3
    go_wp2_with fail
    -- the second call
    refine (C2.out _).mono ?_
    rintro e w6 ⟨a2, cap2, rfl, hso6, hb6⟩
    obtain ⟨SA5, FA5, FB5, SM5, hbE, hzE⟩ := HF4.out
    have hlA := FA5.lt
    have hlB := FB5.lt
    have SA6 := (SA5.below hb6 (Nat.le_refl _)).below (Below.alloc (Below.refl _ w6) (Nat.le_refl _) (.cells #[.int .i64 c, .int .i64 f, .slice a2 zs.length cap2] 37)) (Nat.le_refl _)
    have FA6 := (FA5.below hb6 hlA).below (Below.alloc (Below.refl _ w6) (Nat.le_refl _) (.cells #[.int .i64 c, .int .i64 f, .slice a2 zs.length cap2] 37)) (by have := hb6.size; omega)
    have FB6 := (FB5.below hb6 hlB).below (Below.alloc (Below.refl _ w6) (Nat.le_refl _) (.cells #[.int .i64 c, .int .i64 f, .slice a2 zs.length cap2] 37)) (by have := hb6.size; omega)
    have SM6 := (SM5.below hb6 (by omega)).below (Below.alloc (Below.refl _ w6) (Nat.le_refl _) (.cells #[.int .i64 c, .int .i64 f, .slice a2 zs.length cap2] 37)) (by have := hb6.size; omega)
    have SC6 := hso6.sl.below (Below.alloc (Below.refl _ w6) (Nat.le_refl _) (.cells #[.int .i64 c, .int .i64 f, .slice a2 zs.length cap2] 37)) (Nat.le_refl _)
    have hbG : Below w.heap.size w (w6.alloc (.cells #[.int .i64 c, .int .i64 f, .slice a2 zs.length cap2] 37)) := (hbE.trans (hb6.mono hbE.size)).alloc (by have := hbE.size; have := hb6.size; omega) _
    have hzG : (w6.alloc (.cells #[.int .i64 c, .int .i64 f, .slice a2 zs.length cap2] 37)).heap.size = w6.heap.size + 1 := by simp
    have hzH := hb6.size
    have HF5 := Lib.hid (And.intro SA6 (And.intro FB6 (And.intro SM6 (And.intro SC6 (And.intro hbG hzG)))))
    obtain ⟨xa0, xa1, xa2⟩ := FA6
    clear SA5 FA5 FB5 SM5 hbE hzE SA6 FB6 SM6 SC6 hbG hzG HF4 hb6 hso6
    go_wp2_with fail
    refine (C3.out _ _ _ _ _ HF5.out.2.2.2.1 HF5.out.1).mono ?_
    rintro e w7 ⟨rfl, hb7⟩
    obtain ⟨SA6, FB6, SM6, SC6, hbG, hzG⟩ := HF5.out
    have hlB2 := FB6.lt
    have FB7 := FB6.below hb7 hlB2
    have SM7 := SM6.below hb7 (by omega)
    have hbH : Below w.heap.size w w7 := hbG.trans (hb7.mono hbG.size)
    obtain ⟨xb0, xb1, xb2⟩ := FB7
    have HF6 := Lib.hid (And.intro SM7 hbH)
    clear SA6 FB6 SM6 SC6 hbG hzG HF5 hb7 xa0 xa1 xa2 SM7 hbH
    go_wp2_with fail
    refine (C5.out _ _ _ HF6.out.1.sl).mono ?_
    rintro e w8 ⟨rfl, hb8⟩
    have hbI : Below w.heap.size w w8 := HF6.out.2.trans (hb8.mono HF6.out.2.size)
    clear HF6 hb8 xb0 xb1 xb2
    go_wp2
    go_ret
    exact ⟨rfl, hbI⟩
end Go.Proofs.Yteldnfamfjldpab.fnExactFluxOf
