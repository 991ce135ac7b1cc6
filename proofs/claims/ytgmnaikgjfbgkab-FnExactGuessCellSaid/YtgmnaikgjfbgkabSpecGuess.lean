/- spec.l00Min, spec.l03Far, spec.GuessCell -/
import Derived.Test.YtgmnaikgjfbgkabGuessCell
import Derived.Test.YtgmnaikgjfbgkabBoxes
namespace Go.Proofs.Ytgmnaikgjfbgkab
open Go.RowKit
set_option linter.unusedVariables false
set_option maxHeartbeats 400000 in
theorem l00Min_any (a b : Int) (w : World) :
    Calls Try.prog 101 #[.int .i64 a, .int .i64 b] w fun e w' => e = .returned (.int .i64 (min a b)) ∧ w = w' := by
  by_cases h : a < b
  · go_enter Try.func101, Try.ntmps101
    go_wp2
    go_ret
    exact ⟨ret_int (by omega), rfl⟩
  · go_enter Try.func101, Try.ntmps101
    go_wp2
    go_ret
    exact ⟨ret_int (by omega), rfl⟩
set_option maxHeartbeats 1000000 in
theorem l03Far_any (p : Nat) (c0 f : Int) (a : Option Addr) (zs : List Int) (d : Nat) (c : Int) (w : World) (hl : zs.length ≤ 4000) (hz : zs.all (inB 1 2000000) = true) (hc : 4 ≤ c) (hc2 : c ≤ 200) (hf : FluxAt w p c0 f a zs.length d) (h : SlA w a zs) :
    Calls Try.prog 68 #[.pointer (some ⟨p, 0, none⟩), .int .i64 c] w fun e w' => e = .returned (.int .i64 (farOf zs c)) ∧ w = w' := by
  obtain ⟨hc0, hc1, hcs⟩ := hf
  have H := Lib.hid (And.intro h hz); clear h hz
  go_enter Try.func68, Try.ntmps68
  go_wp2
  go_loop [5, 6] (fun s i => ∃ k : Nat, k ≤ zs.length ∧ i = .int .i64 k ∧ s = .int .i64 (farTo zs c k)) (fun _ i => zs.length - (intOf i).toNat)
  case atStart => exact ⟨0, Nat.zero_le _, rfl, by rw [farTo_zero]⟩
  case round =>
    obtain ⟨k, hk, rfl, rfl⟩ := hrel
    by_cases hlt : k < zs.length
    · obtain ⟨x, hx⟩ := getOf hlt
      obtain ⟨b, off, rfl, hcx⟩ := H.out.1.cell hx
      have hb := bd_of_all H.out.2 hx
      have hb1 := hb.1
      have hb2 := hb.2
      have hs := farTo_bd hc hc2 H.out.2 k hk
      have hss := farTo_succ (c := c) hx
      have hg := gdist_bd hc hc2 hb1
      have hr0 := Int.emod_nonneg x (show c ≠ 0 by omega)
      have hr1 := Int.emod_lt_of_pos x (show 0 < c by omega)
      generalize farTo zs c k = m at hs hss ⊢
      have hm0 := hs.1
      have hm1 : m ≤ 800000 := by omega
      have HS := Lib.hid hss; clear hss hb hs hx
      have hcn : (c == 0) = false := by rw [beq_eq_false_iff_ne]; omega
      have hrt : x.tmod c = x % c := Int.tmod_eq_emod_of_nonneg (by omega)
      by_cases hxc : x < c
      · have hgd : gdist c x = c - x := by unfold gdist; rw [if_pos hxc]
        have hxm : x % c = x := Int.emod_eq_of_lt (by omega) hxc
        rw [hgd] at HS
        rw [hxm] at hr0 hr1 hrt
        have HXM := Lib.hid hxm; clear hgd hg
        go_wp2_with (go_at_call 101; refine (l00Min_any _ _ _).mono ?_; rintro e w' ⟨rfl, rfl⟩)
        go_round
        case rel => exact ⟨k + 1, by omega, by go_num, by rw [HS.out]; first | done | rw [HXM.out]⟩
        case measure => simp [intOf]; omega
      · have hgd : gdist c x = min (x % c) (c - x % c) := by unfold gdist; rw [if_neg hxc]
        rw [hgd] at HS hg
        generalize x % c = r at hr0 hr1 hrt HS hg
        have HR := Lib.hid hrt
        have hg0 := hg.1
        have hg1 := hg.2
        clear hgd hg
        go_wp2_with (go_at_call 101; refine (l00Min_any _ _ _).mono ?_; rintro e w' ⟨rfl, rfl⟩)
        go_round
        case rel => exact ⟨k + 1, by omega, by go_num, by rw [HS.out]⟩
        case measure => simp [intOf]; omega
    · obtain rfl : k = zs.length := by omega
      clear H
      go_wp2
      go_ret
      exact ⟨rfl, rfl⟩
set_option maxHeartbeats 1000000 in
theorem specGuessCell_no (c f : Int) (a : Option Addr) (cap : Nat) (zs : List Int) (hl : zs.length ≤ 1048576) (hv : fluxOk c f zs = false) (w : World) (h : SlA w a zs) :
    Calls Try.prog 39 #[.agg #[.int .i64 c, .int .i64 f, .slice a zs.length cap]] w fun e w' => e = .returned (.tuple #[.int .i64 0, .int .i64 1]) ∧ Below w.heap.size w w' := by
  have c1 := fun w' (hb : Below w.heap.size w w') (hf : FluxAt w' w.heap.size c f a zs.length cap) => l02Ok_any w.heap.size c f a zs cap w' hl hf (h.below hb (Nat.le_refl _))
  rw [hv] at c1
  have C1 := Lib.hid c1; clear c1 h hv
  go_enter Try.func39, Try.ntmps39
  go_wp2_with fail
  refine (C1.out _ (by go_grown) (FluxAt.new w c f a zs.length cap 48 w.heap.size rfl)).mono ?_
  rintro e w1 ⟨rfl, hb1⟩
  go_wp2
  go_ret2
  exact ⟨rfl, Below.trans (by go_grown) (hb1.mono (by simp))⟩
set_option maxHeartbeats 2000000 in
theorem specGuessCell_yes (c f : Int) (a : Option Addr) (cap : Nat) (zs : List Int) (hl : zs.length ≤ 1048576) (hv : fluxOk c f zs = true) (w : World) (h : SlA w a zs) :
    Calls Try.prog 39 #[.agg #[.int .i64 c, .int .i64 f, .slice a zs.length cap]] w fun e w' => e = .returned (.tuple #[.int .i64 (guessBest zs), .int .i64 0]) ∧ Below w.heap.size w w' := by
  have c1 := fun w' (hb : Below w.heap.size w w') (hf : FluxAt w' w.heap.size c f a zs.length cap) => l02Ok_any w.heap.size c f a zs cap w' hl hf (h.below hb (Nat.le_refl _))
  rw [hv] at c1
  obtain ⟨_, ⟨hz1, hz4⟩, hz, _, _⟩ := fluxOk_iff.1 hv
  have C1 := Lib.hid c1; clear c1 hv
  have HFB : Hid (∀ c, 4 ≤ c → c ≤ 200 → 0 ≤ farOf zs c ∧ farOf zs c ≤ 800000) := Lib.hid (fun c h1 h2 => by have := farTo_bd h1 h2 hz zs.length (Nat.le_refl _); unfold farOf; omega)
  have C2 := Lib.hid (fun n w' (hn1 : 4 ≤ n) (hn2 : n ≤ 200) (hb : Below w.heap.size w w') (hf : FluxAt w' w.heap.size c f a zs.length cap) => l03Far_any w.heap.size c f a zs cap n w' (by omega) hz hn1 hn2 hf (h.below hb (Nat.le_refl _)))
  clear h hz
  go_enter Try.func39, Try.ntmps39
  go_wp2_with fail
  refine (C1.out _ (by go_grown) (FluxAt.new w c f a zs.length cap 48 w.heap.size rfl)).mono ?_
  rintro e w1 ⟨rfl, hb1⟩
  have FB := Lib.hid (show Below w.heap.size w w1 from Below.trans (by go_grown) (hb1.mono (by simp)))
  have C3 := Lib.hid (fun n hn1 hn2 => C2.out n w1 hn1 hn2 FB.out ((FluxAt.new w c f a zs.length cap 48 w.heap.size rfl).below hb1 (by simp)))
  clear hb1 C1 C2
  go_wp2_with fail
  refine (C3.out 200 (by omega) (by omega)).mono ?_
  rintro e w2 ⟨rfl, rfl⟩
  go_wp2
  go_loop [4, 5, 6] (fun b l q => ∃ n x : Int, 3 ≤ n ∧ n ≤ 199 ∧ q = .int .i64 n ∧ b = .int .i64 x ∧ l = .int .i64 (farOf zs x) ∧ Hid (BestCell (farOf zs) (n + 1) 200 x)) (fun _ _ q => (intOf q).toNat)
  case atStart => exact ⟨199, 200, by omega, by omega, rfl, rfl, rfl, Lib.hid (BestCell.one _ _)⟩
  case round =>
    obtain ⟨n, x, hn1, hn2, rfl, rfl, rfl, hbest⟩ := hrel
    by_cases hn : 4 ≤ n
    · have hfb := HFB.out n hn (by omega)
      have hf0 := hfb.1
      have hf1 := hfb.2
      have CN := Lib.hid (C3.out n hn (by omega))
      have hx1 := hbest.out.lo_le
      have hx2 := hbest.out.le_hi
      have hft := HFB.out x (by omega) hx2
      have ht0 := hft.1
      have ht1 := hft.2
      clear hfb hft
      obtain ⟨s, hs⟩ : ∃ s, farOf zs n = s := ⟨_, rfl⟩
      obtain ⟨t, ht⟩ : ∃ t, farOf zs x = t := ⟨_, rfl⟩
      rw [hs] at hf0 hf1 CN
      rw [ht] at ht0 ht1 ⊢
      have HSN := Lib.hid hs; have HT := Lib.hid ht; clear hs ht
      have p1 : 0 ≤ s * x := Int.mul_nonneg hf0 (by omega)
      have p2 : s * x ≤ 800000 * 200 := Int.mul_le_mul hf1 (by omega) (by omega) (by omega)
      have p3 : 0 ≤ t * n := Int.mul_nonneg ht0 (by omega)
      have p4 : t * n ≤ 800000 * 200 := Int.mul_le_mul ht1 (by omega) (by omega) (by omega)
      have w1' : IntKind.i64.wrap (s * x) = s * x := IntWalk.i64_in _ (by omega)
      have w2' : IntKind.i64.wrap (t * n) = t * n := IntWalk.i64_in _ (by omega)
      have w3' : wrap64 (s * x) = s * x := by unfold wrap64; omega
      have w4' : wrap64 (t * n) = t * n := by unfold wrap64; omega
      by_cases hcmp : s * x < t * n
      · have HN := Lib.hid (BestCell.down_new (k := n) (by omega) hbest.out (by rw [HSN.out, HT.out]; exact hcmp))
        go_wp2_with (go_at_call 68; refine (CN.out).mono ?_; rintro e w' ⟨rfl, rfl⟩)
        go_round
        case rel => exact ⟨n - 1, n, by omega, by omega, by go_num, rfl, by rw [HSN.out], Lib.hid (by rw [show n - 1 + 1 = n by omega]; exact HN.out)⟩
        case measure => simp [intOf]; omega
      · have HN := Lib.hid (BestCell.down_old (k := n) hbest.out (by rw [HSN.out, HT.out]; exact hcmp))
        go_wp2_with (go_at_call 68; refine (CN.out).mono ?_; rintro e w' ⟨rfl, rfl⟩)
        go_round
        case rel => exact ⟨n - 1, x, by omega, by omega, by go_num, rfl, by rw [HT.out], Lib.hid (by rw [show n - 1 + 1 = n by omega]; exact HN.out)⟩
        case measure => simp [intOf]; omega
    · have HE := Lib.hid (guessBest_eq (b := x) (by have h := hbest.out; rw [show n + 1 = 4 by omega] at h; exact h))
      go_wp2
      go_ret2
      exact ⟨by rw [HE.out]; rfl, FB.out⟩
theorem specGuessCell_any (c f : Int) (a : Option Addr) (cap : Nat) (zs : List Int) (hl : zs.length ≤ 1048576) (w : World) (h : SlA w a zs) :
    Calls Try.prog 39 #[.agg #[.int .i64 c, .int .i64 f, .slice a zs.length cap]] w fun e w' => e = .returned (.tuple #[.int .i64 (guessVal c f zs).1, .int .i64 (guessVal c f zs).2]) ∧ Below w.heap.size w w' := by
  unfold guessVal
  by_cases hv : fluxOk c f zs = true
  · rw [if_pos hv]; exact specGuessCell_yes c f a cap zs hl hv w h
  · rw [if_neg hv]; exact specGuessCell_no c f a cap zs hl (by simpa using hv) w h
end Go.Proofs.Ytgmnaikgjfbgkab
