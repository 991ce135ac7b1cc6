/- spec.CommonChanges -/
import Derived.Test.YtgmnaikgjfbgkaaCommon
namespace Go.Proofs.Ytgmnaikgjfbgkaa
open Go.RowKit
set_option linter.unusedVariables false
set_option maxHeartbeats 2000000 in
theorem specCommonChanges_no (c0 f0 : Int) (s0 : Option Addr) (cap0 : Nat) (xs0 : List Int) (c1 f1 : Int) (s1 : Option Addr) (cap1 : Nat) (xs1 : List Int) (hl0 : xs0.length ≤ 1048576) (hl1 : xs1.length ≤ 1048576) (hv : fluxOk c0 f0 xs0 = false ∨ fluxOk c1 f1 xs1 = false) (w : World) (h0 : SlA w s0 xs0) (h1 : SlA w s1 xs1) :
    Calls Try.prog 25 #[.agg #[.int .i64 c0, .int .i64 f0, .slice s0 xs0.length cap0], .agg #[.int .i64 c1, .int .i64 f1, .slice s1 xs1.length cap1]] w fun e w' => e = .returned (.int .i64 0) ∧ Below w.heap.size w w' := by
  have k0 := fun w' (hb : Below w.heap.size w w') (hf : FluxAt w' w.heap.size c0 f0 s0 xs0.length cap0) => l02Ok_any w.heap.size c0 f0 s0 xs0 cap0 w' hl0 hf (h0.below hb (Nat.le_refl _))
  have k1 := fun w' (hb : Below w.heap.size w w') (hf : FluxAt w' (w.heap.size + 1) c1 f1 s1 xs1.length cap1) => l02Ok_any (w.heap.size + 1) c1 f1 s1 xs1 cap1 w' hl1 hf (h1.below hb (Nat.le_refl _))
  generalize fluxOk c0 f0 xs0 = q0 at k0 hv
  generalize fluxOk c1 f1 xs1 = q1 at k1 hv
  have K0 := Lib.hid k0; have K1 := Lib.hid k1; clear k0 k1 h0 h1
  have B0 := Lib.hid ((FluxAt.new w c0 f0 s0 xs0.length cap0 39 w.heap.size rfl).below (Below.alloc (Below.refl _ _) (Nat.le_refl _) (.cells #[.int .i64 c1, .int .i64 f1, .slice s1 xs1.length cap1] 39)) (by simp))
  have B1 := Lib.hid (FluxAt.new (w.alloc (.cells #[.int .i64 c0, .int .i64 f0, .slice s0 xs0.length cap0] 39)) c1 f1 s1 xs1.length cap1 39 (w.heap.size + 1) (by simp))
  cases q0
  · clear hv
    go_enter Try.func25, Try.ntmps25
    go_wp2_with fail
    refine (K0.out _ (by go_grown) B0.out).mono ?_
    rintro e w1 ⟨rfl, hb1⟩
    go_wp2
    go_ret
    exact ⟨rfl, Below.trans (by go_grown) (hb1.mono (by simp; omega))⟩
  · have e : q1 = false := by rcases hv with h | h; cases h; exact h
    subst e
    clear hv
    go_enter Try.func25, Try.ntmps25
    go_wp2_with fail
    refine (K0.out _ (by go_grown) B0.out).mono ?_
    rintro e w1 ⟨rfl, hb1⟩
    have FB1 := Lib.hid (show Below w.heap.size w w1 from Below.trans (by go_grown) (hb1.mono (by simp; omega)))
    have B2 := Lib.hid (B1.out.below hb1 (by simp))
    clear hb1
    go_wp2_with fail
    refine (K1.out _ FB1.out B2.out).mono ?_
    rintro e w2 ⟨rfl, hb2⟩
    go_wp2
    go_ret
    exact ⟨rfl, FB1.out.trans (hb2.mono FB1.out.size)⟩
set_option maxHeartbeats 2000000 in
theorem specCommonChanges_yes (c0 f0 : Int) (s0 : Option Addr) (cap0 : Nat) (xs0 : List Int) (c1 f1 : Int) (s1 : Option Addr) (cap1 : Nat) (xs1 : List Int) (hl0 : xs0.length ≤ 1048576) (hl1 : xs1.length ≤ 1048576) (hv0 : fluxOk c0 f0 xs0 = true) (hv1 : fluxOk c1 f1 xs1 = true) (w : World) (h0 : SlA w s0 xs0) (h1 : SlA w s1 xs1) :
    Calls Try.prog 25 #[.agg #[.int .i64 c0, .int .i64 f0, .slice s0 xs0.length cap0], .agg #[.int .i64 c1, .int .i64 f1, .slice s1 xs1.length cap1]] w fun e w' => e = .returned (.int .i64 (commonVal c0 f0 xs0 c1 f1 xs1)) ∧ Below w.heap.size w w' := by
  have k0 := fun w' (hb : Below w.heap.size w w') (hf : FluxAt w' w.heap.size c0 f0 s0 xs0.length cap0) => l02Ok_any w.heap.size c0 f0 s0 xs0 cap0 w' hl0 hf (h0.below hb (Nat.le_refl _))
  have k1 := fun w' (hb : Below w.heap.size w w') (hf : FluxAt w' (w.heap.size + 1) c1 f1 s1 xs1.length cap1) => l02Ok_any (w.heap.size + 1) c1 f1 s1 xs1 cap1 w' hl1 hf (h1.below hb (Nat.le_refl _))
  rw [hv0] at k0
  rw [hv1] at k1
  obtain ⟨_, ⟨_, hz40⟩, hz0, _, hf00, _⟩ := fluxOk_iff.1 hv0
  obtain ⟨_, ⟨_, hz41⟩, hz1, _, hf01, _⟩ := fluxOk_iff.1 hv1
  have m0 := fun w' (hb : Below w.heap.size w w') (hf : FluxAt w' w.heap.size c0 f0 s0 xs0.length cap0) => l02Changes_any w.heap.size c0 f0 s0 xs0 cap0 w' hz40 hz0 hf00 (last_bd hv0) hf (h0.below hb (Nat.le_refl _))
  have m1 := fun w' (hb : Below w.heap.size w w') (hf : FluxAt w' (w.heap.size + 1) c1 f1 s1 xs1.length cap1) => l02Changes_any (w.heap.size + 1) c1 f1 s1 xs1 cap1 w' hz41 hz1 hf01 (last_bd hv1) hf (h1.below hb (Nat.le_refl _))
  have ht0 := timesOf_length f0 xs0
  have ht1 := timesOf_length f1 xs1
  have hval : commonVal c0 f0 xs0 c1 f1 xs1 = commonTo (timesOf f0 xs0) (timesOf f1 xs1) (timesOf f0 xs0).length := by unfold commonVal chgVal; rw [if_pos hv0, if_pos hv1]
  rw [hval]
  generalize timesOf f0 xs0 = xs at m0 ht0 hval ⊢
  generalize timesOf f1 xs1 = ys at m1 ht1 hval ⊢
  have K0 := Lib.hid k0; have K1 := Lib.hid k1; have M0 := Lib.hid m0; have M1 := Lib.hid m1
  have hlx : xs0.length ≤ 4000 := by omega
  have hly : xs1.length ≤ 4000 := by omega
  rw [ht0]
  have HT := Lib.hid (And.intro ht0 ht1)
  clear k0 k1 m0 m1 h0 h1 hv0 hv1 hz0 hz1 hval ht0 ht1 hz40 hz41
  have B0 := Lib.hid ((FluxAt.new w c0 f0 s0 xs0.length cap0 39 w.heap.size rfl).below (Below.alloc (Below.refl _ _) (Nat.le_refl _) (.cells #[.int .i64 c1, .int .i64 f1, .slice s1 xs1.length cap1] 39)) (by simp))
  have B1 := Lib.hid (FluxAt.new (w.alloc (.cells #[.int .i64 c0, .int .i64 f0, .slice s0 xs0.length cap0] 39)) c1 f1 s1 xs1.length cap1 39 (w.heap.size + 1) (by simp))
  go_enter Try.func25, Try.ntmps25
  go_wp2_with fail
  refine (K0.out _ (by go_grown) B0.out).mono ?_
  rintro e w1 ⟨rfl, hb1⟩
  have FB1 := Lib.hid (show Below w.heap.size w w1 from Below.trans (by go_grown) (hb1.mono (by simp; omega)))
  replace B0 := Lib.hid (B0.out.below hb1 (by simp; omega))
  replace B1 := Lib.hid (B1.out.below hb1 (by simp))
  clear hb1 K0
  go_wp2_with fail
  refine (K1.out _ FB1.out B1.out).mono ?_
  rintro e w2 ⟨rfl, hb2⟩
  have FB2 := Lib.hid (show Below w.heap.size w w2 from FB1.out.trans (hb2.mono FB1.out.size))
  replace B0 := Lib.hid (B0.out.below hb2 B0.out.lt)
  replace B1 := Lib.hid (B1.out.below hb2 B1.out.lt)
  clear hb2 K1 FB1
  go_wp2_with fail
  refine (M0.out _ FB2.out B0.out).mono ?_
  rintro e w3 ⟨a3, d3, rfl, hs3, hb3⟩
  have FB3 := Lib.hid (show Below w.heap.size w w3 from FB2.out.trans (hb3.mono FB2.out.size))
  replace B1 := Lib.hid (B1.out.below hb3 B1.out.lt)
  have S0 := Lib.hid hs3.sl
  clear hb3 M0 FB2 hs3
  go_wp2_with fail
  refine (M1.out _ FB3.out B1.out).mono ?_
  rintro e w4 ⟨a4, d4, rfl, hs4, hb4⟩
  have FB4 := Lib.hid (show Below w.heap.size w w4 from FB3.out.trans (hb4.mono FB3.out.size))
  replace S0 := Lib.hid (S0.out.below hb4 (Nat.le_refl _))
  have S1 := Lib.hid hs4.sl
  clear hb4 M1 FB3 hs4 B0 B1
  go_wp2
  go_loop [5, 8] (fun s i => ∃ k : Nat, k ≤ xs0.length ∧ i = .int .i64 (k : Int) ∧ s = .int .i64 (commonTo xs ys k)) (fun _ i => xs0.length - (intOf i).toNat)
  case atStart => exact ⟨0, Nat.zero_le _, rfl, by rw [commonTo_zero]⟩
  case round =>
    obtain ⟨k, hk, rfl, rfl⟩ := hrel
    by_cases hlt : k < xs0.length
    · obtain ⟨x, hx⟩ : ∃ x, xs[k]? = some x := getOf (by rw [HT.out.1]; exact hlt)
      have e1 : (k : Int) < (xs0.length : Int) := by omega
      obtain ⟨b, off, rfl, hcx⟩ := S0.out.cell hx
      have hbd := commonTo_bd xs ys k
      have HS := Lib.hid (commonTo_succ (ys := ys) hx)
      obtain ⟨m, hm⟩ : ∃ m, commonTo xs ys k = m := ⟨_, rfl⟩
      rw [hm] at hbd ⊢
      have hm0 := hbd.1
      have hm1 := hbd.2
      have HM := Lib.hid hm
      have hh := l00Has_any a4 ys d4 x w4 (by rw [HT.out.2]; omega) S1.out
      obtain ⟨g, hg⟩ : ∃ g, hasB ys x = g := ⟨_, rfl⟩
      rw [hg, HT.out.2] at hh
      rw [hg] at HS
      have HH := Lib.hid hh
      clear hbd hm hg hx hh
      cases g
      · go_wp2_with (go_at_call 72; refine (HH.out).mono ?_; rintro e w' ⟨rfl, rfl⟩)
        go_round
        case rel => exact ⟨k + 1, by omega, by go_num, by rw [HS.out, HM.out]; simp⟩
        case measure => simp [intOf]; omega
      · go_wp2_with (go_at_call 72; refine (HH.out).mono ?_; rintro e w' ⟨rfl, rfl⟩)
        go_round
        case rel => exact ⟨k + 1, by omega, by go_num, by rw [HS.out, HM.out]; simp⟩
        case measure => simp [intOf]; omega
    · obtain rfl : k = xs0.length := by omega
      go_wp2
      go_ret
      exact ⟨rfl, FB4.out⟩
theorem specCommonChanges_any (c0 f0 : Int) (s0 : Option Addr) (cap0 : Nat) (xs0 : List Int) (c1 f1 : Int) (s1 : Option Addr) (cap1 : Nat) (xs1 : List Int) (hl0 : xs0.length ≤ 1048576) (hl1 : xs1.length ≤ 1048576) (w : World) (h0 : SlA w s0 xs0) (h1 : SlA w s1 xs1) :
    Calls Try.prog 25 #[.agg #[.int .i64 c0, .int .i64 f0, .slice s0 xs0.length cap0], .agg #[.int .i64 c1, .int .i64 f1, .slice s1 xs1.length cap1]] w fun e w' => e = .returned (.int .i64 (commonVal c0 f0 xs0 c1 f1 xs1)) ∧ Below w.heap.size w w' := by
  by_cases hv0 : fluxOk c0 f0 xs0 = true
  · by_cases hv1 : fluxOk c1 f1 xs1 = true
    · exact specCommonChanges_yes c0 f0 s0 cap0 xs0 c1 f1 s1 cap1 xs1 hl0 hl1 hv0 hv1 w h0 h1
    · have : commonVal c0 f0 xs0 c1 f1 xs1 = 0 := by unfold commonVal; rw [show chgVal c1 f1 xs1 = [] by unfold chgVal; rw [if_neg hv1]]; exact commonTo_none _ _
      rw [this]
      exact specCommonChanges_no c0 f0 s0 cap0 xs0 c1 f1 s1 cap1 xs1 hl0 hl1 (.inr (by simpa using hv1)) w h0 h1
  · have : commonVal c0 f0 xs0 c1 f1 xs1 = 0 := by unfold commonVal; rw [show chgVal c0 f0 xs0 = [] by unfold chgVal; rw [if_neg hv0]]; exact commonTo_nil _ _
    rw [this]
    exact specCommonChanges_no c0 f0 s0 cap0 xs0 c1 f1 s1 cap1 xs1 hl0 hl1 (.inl (by simpa using hv0)) w h0 h1
end Go.Proofs.Ytgmnaikgjfbgkaa
