/- spec.GfMul, spec.GfPow, spec.l23Inverse, spec.GfInverse. -/
import Derived.Test.YtpgcmgbflcdjiaaGfIm
namespace Go.Proofs.Ytpgcmgbflcdjiaa
open Go.RowKit
set_option linter.unusedVariables false
open Gf
theorem specGfMul_any (a b : Int) (w : World) :
    Calls Try.prog 13 #[.int .i64 a, .int .i64 b] w fun e w' => e = .returned (.int .i64 (gmV a b)) ∧ w = w' := by
  cases hq : inB 0 255 a with
  | false =>
    rw [gmV_no (by rw [hq]; rfl)]
    have HQ := Lib.hid hq; clear hq
    go_enter Try.func13, Try.ntmps13
    go_wp2_with (go_at_call 33; refine (l00In_any _ _ _ _).mono ?_; rintro e w1 ⟨rfl, rfl⟩; rw [HQ.out])
    go_ret
    exact ⟨rfl, rfl⟩
  | true =>
    cases hr : inB 0 255 b with
    | false =>
      rw [gmV_no (by rw [hq, hr]; rfl)]
      have HQ := Lib.hid hq; have HR := Lib.hid hr; clear hq hr
      go_enter Try.func13, Try.ntmps13
      go_wp2_with (go_at_call 33; refine (l00In_any _ _ _ _).mono ?_; rintro e w1 ⟨rfl, rfl⟩; first | rw [HQ.out] | rw [HR.out])
      go_ret
      exact ⟨rfl, rfl⟩
    | true =>
      have h1 : 0 ≤ a ∧ a ≤ 255 ∧ 0 ≤ b ∧ b ≤ 255 := by simp [inB] at hq hr; omega
      obtain ⟨x, rfl⟩ : ∃ x : Nat, a = (x : Int) := ⟨a.toNat, by omega⟩
      obtain ⟨y, rfl⟩ : ∃ y : Nat, b = (y : Int) := ⟨b.toNat, by omega⟩
      have hx : x < 256 := by omega
      have hy : y < 256 := by omega
      rw [gmV_nat hx hy]
      have HQ := Lib.hid hq; have HR := Lib.hid hr; clear hq hr h1
      go_enter Try.func13, Try.ntmps13
      go_wp2_with (first | (go_at_call 33; refine (l00In_any _ _ _ _).mono ?_; rintro e w1 ⟨rfl, rfl⟩; first | rw [HQ.out] | rw [HR.out]) | (go_at_call 34; refine (l23Mul_any x y hx hy _).mono ?_; rintro e w1 ⟨rfl, rfl⟩))
      go_ret
      exact ⟨rfl, rfl⟩
theorem pw_two (n : Nat) : gmul (pw n) 2 = pw (n + 1) := gmul_two (pw_lt n)
set_option maxRecDepth 20000 in
set_option maxHeartbeats 1000000 in
theorem specGfPow_any (n : Int) (w : World) :
    Calls Try.prog 15 #[.int .i64 n] w fun e w' => e = .returned (.int .i64 (pwV n : Nat)) ∧ w = w' := by
  obtain ⟨hm, he⟩ := pwE_bd n
  have h2 := tm255 n
  unfold pwV
  generalize pwE n = m at *
  obtain ⟨r, hr⟩ : ∃ r, n.tmod 255 = r := ⟨_, rfl⟩
  have hw1 : IntKind.i64.wrap r = r := IntWalk.i64_in _ (by omega)
  have hw2 : IntKind.i64.wrap (r + 255) = r + 255 := IntWalk.i64_in _ (by omega)
  have hw3 : IntKind.i64.wrap (m : Int) = m := IntWalk.i64_in _ (by omega)
  rw [hr] at he h2
  have he2 := he.symm
  clear he
  go_enter Try.func15, Try.ntmps15
  go_wp2
  go_loop [0, 3] (fun i p => ∃ k : Nat, k ≤ m ∧ i = .int .i64 ((m - k : Nat) : Int) ∧ p = .int .i64 (pw k : Nat)) (fun i _ => (intOf i).toNat)
  case atStart => exact ⟨0, Nat.zero_le _, rfl, rfl⟩
  case round =>
    obtain ⟨k, hk, rfl, rfl⟩ := hrel
    have hp := pw_lt k
    have e2 := Lib.hid (pw_two k)
    by_cases hl : k < m
    · have hL := Lib.hid hl
      obtain ⟨j, hj⟩ : ∃ j, m - k = j + 1 := ⟨m - k - 1, by omega⟩
      have hj2 := Lib.hid (show m - (k + 1) = j by omega)
      have HJ := Lib.hid hj
      have hjl : j < 255 := by omega
      rw [hj]
      clear hj hl
      go_wp2_with (go_at_call 34; refine (l23Mul_any (pw k) 2 hp (by omega) _).mono ?_; rintro e w1 ⟨rfl, rfl⟩)
      go_round
      case rel => exact ⟨k + 1, hL.out, by first | (rw [hj2.out]; done) | (rw [hj2.out]; go_num), by rw [e2.out]⟩
      case measure => simp [intOf]
    · obtain rfl : k = m := by omega
      rw [Nat.sub_self]
      go_wp2
      go_ret
      exact ⟨rfl, rfl⟩
set_option maxRecDepth 20000 in
set_option maxHeartbeats 1000000 in
theorem l23Inverse_any (a : Nat) (ha : a < 256) (h0 : a ≠ 0) (w : World) :
    Calls Try.prog 37 #[.int .i64 (a : Int)] w fun e w' => e = .returned (.int .i64 (ginv a : Nat)) ∧ w = w' := by
  have h1 := ginv_pos ha h0
  have h2 := ginv_lt ha
  have h3 := Lib.hid (gmul_inv ha h0)
  have h4 := Lib.hid (fun x (hx : x < 256) (e : gmul a x = 1) => ginv_of ha hx e)
  clear h0
  generalize ginv a = g at *
  go_enter Try.func37, Try.ntmps37
  go_wp2
  go_loop [3] (fun i => ∃ k : Nat, 1 ≤ k ∧ k ≤ g ∧ i = .int .i64 (k : Int)) (fun i => 256 - (intOf i).toNat)
  case atStart => exact ⟨1, Nat.le_refl _, h1, rfl⟩
  case round =>
    obtain ⟨k, hk1, hk, rfl⟩ := hrel
    have hk2 : k < 256 := by omega
    by_cases hl : gmul a k = 1
    · have hh := h4.out k hk2 hl
      subst hh
      have hl2 := Lib.hid hl; clear hl
      go_wp2_with (go_at_call 34; refine (l23Mul_any a k ha hk2 _).mono ?_; rintro e w1 ⟨rfl, rfl⟩; rw [hl2.out])
      go_ret
      exact ⟨rfl, rfl⟩
    · have hne : k ≠ g := by
        intro e; subst e; exact hl h3.out
      have hlt : k < g := by omega
      have hb : gmul a k < 256 := gmul_lt ha
      have hl2 := Lib.hid (show ¬ (gmul a k : Nat) = 1 from hl)
      clear hl hne
      obtain ⟨x, hx⟩ : ∃ x, gmul a k = x := ⟨_, rfl⟩
      have hl3 : ((x : Int) == 1) = false := by rw [beq_eq_false_iff_ne]; have := hl2.out; omega
      have HX := Lib.hid hx; clear hx
      go_wp2_with (go_at_call 34; refine (l23Mul_any a k ha hk2 _).mono ?_; rintro e w1 ⟨rfl, rfl⟩; rw [HX.out])
      go_round
      case rel => exact ⟨k + 1, by omega, by omega, by go_num⟩
      case measure => simp [intOf]; omega
theorem specGfInverse_any (a : Int) (w : World) :
    Calls Try.prog 17 #[.int .i64 a] w fun e w' => e = .returned (.int .i64 (giV a)) ∧ w = w' := by
  cases hq : inB 1 255 a with
  | false =>
    have h2 : giV a = 0 := by unfold giV; rw [hq]; rfl
    rw [h2]
    have HQ := Lib.hid hq; clear hq h2
    go_enter Try.func17, Try.ntmps17
    go_wp2_with (go_at_call 33; refine (l00In_any _ _ _ _).mono ?_; rintro e w1 ⟨rfl, rfl⟩; rw [HQ.out])
    go_ret
    exact ⟨rfl, rfl⟩
  | true =>
    have h1 : 1 ≤ a ∧ a ≤ 255 := by simp [inB] at hq; omega
    obtain ⟨x, rfl⟩ : ∃ x : Nat, a = (x : Int) := ⟨a.toNat, by omega⟩
    have hx : x < 256 := by omega
    have hx0 : x ≠ 0 := by omega
    rw [giV_nat hx]
    have HQ := Lib.hid hq; clear hq h1
    have H0 := Lib.hid hx0; clear hx0
    go_enter Try.func17, Try.ntmps17
    go_wp2_with (first | (go_at_call 33; refine (l00In_any _ _ _ _).mono ?_; rintro e w1 ⟨rfl, rfl⟩; rw [HQ.out]) | (go_at_call 37; refine (l23Inverse_any x hx H0.out _).mono ?_; rintro e w1 ⟨rfl, rfl⟩))
    go_ret
    exact ⟨rfl, rfl⟩
theorem specGfMul_g (a b : Int) (w : World) : Calls Try.prog 13 #[.int .i64 a, .int .i64 b] w fun e w' => e = .returned (.int .i64 (gmV a b)) ∧ Below w.heap.size w w' :=
  (specGfMul_any a b w).mono fun e w' ⟨h, hw⟩ => ⟨h, by rw [← hw]; exact Below.refl _ _⟩
theorem gfMul_g (a b : Int) (w : World) : Calls Try.prog 14 #[.int .i64 a, .int .i64 b] w fun e w' => e = .returned (.int .i64 (gmV a b)) ∧ Below w.heap.size w w' :=
  gfMul_any a b w
theorem specGfPow_g (a : Int) (w : World) : Calls Try.prog 15 #[.int .i64 a] w fun e w' => e = .returned (.int .i64 ((pwV a : Nat))) ∧ Below w.heap.size w w' :=
  (specGfPow_any a w).mono fun e w' ⟨h, hw⟩ => ⟨h, by rw [← hw]; exact Below.refl _ _⟩
theorem gfPow_g (a : Int) (w : World) : Calls Try.prog 16 #[.int .i64 a] w fun e w' => e = .returned (.int .i64 ((pwV a : Nat))) ∧ Below w.heap.size w w' :=
  (gfPow_any a w).mono fun e w' ⟨h, hw⟩ => ⟨h, by rw [← hw]; exact Below.refl _ _⟩
theorem specGfInverse_g (a : Int) (w : World) : Calls Try.prog 17 #[.int .i64 a] w fun e w' => e = .returned (.int .i64 (giV a)) ∧ Below w.heap.size w w' :=
  (specGfInverse_any a w).mono fun e w' ⟨h, hw⟩ => ⟨h, by rw [← hw]; exact Below.refl _ _⟩
theorem gfInverse_g (a : Int) (w : World) : Calls Try.prog 18 #[.int .i64 a] w fun e w' => e = .returned (.int .i64 (giV a)) ∧ Below w.heap.size w w' :=
  gfInverse_any a w
end Go.Proofs.Ytpgcmgbflcdjiaa
