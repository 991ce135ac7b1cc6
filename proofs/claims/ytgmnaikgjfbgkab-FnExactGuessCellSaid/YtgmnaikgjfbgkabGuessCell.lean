/- impl.distance, impl.GuessCell -/
import Derived.Test.YtgmnaikgjfbgkabGuessVal
import Derived.Test.YtgmnaikgjfbgkabBoxes
namespace Go.Proofs.Ytgmnaikgjfbgkab
open Go.RowKit
set_option linter.unusedVariables false
set_option maxHeartbeats 400000 in
theorem distance_any (x c : Int) (w : World) (hc : 4 ≤ c) (hc2 : c ≤ 200) (hb1 : 1 ≤ x) (hb2 : x ≤ 2000000) :
    Calls Try.prog 70 #[.int .i64 x, .int .i64 c] w fun e w' => e = .returned (.int .i64 (gdist c x)) ∧ w = w' := by
  have hr0 := Int.emod_nonneg x (show c ≠ 0 by omega)
  have hr1 := Int.emod_lt_of_pos x (show 0 < c by omega)
  have hcn : (c == 0) = false := by rw [beq_eq_false_iff_ne]; omega
  by_cases hxc : x < c
  · have HG := Lib.hid (show gdist c x = c - x by unfold gdist; rw [if_pos hxc])
    go_enter Try.func70, Try.ntmps70
    go_wp2
    go_ret
    exact ⟨ret_int HG.out.symm, rfl⟩
  · have HG := Lib.hid (show gdist c x = min (x % c) (c - x % c) by unfold gdist; rw [if_neg hxc])
    go_enter Try.func70, Try.ntmps70
    go_wp2
    all_goals
      go_ret
      exact ⟨ret_int (by rw [HG.out]; omega), rfl⟩
set_option maxHeartbeats 1000000 in
theorem guessCell_no (c f : Int) (a : Option Addr) (cap : Nat) (zs : List Int) (hl : zs.length ≤ 1048576) (hv : fluxOk c f zs = false) (w : World) (h : SlA w a zs) :
    Calls Try.prog 40 #[.agg #[.int .i64 c, .int .i64 f, .slice a zs.length cap]] w fun e w' => e = .returned (.tuple #[.int .i64 0, .int .i64 1]) ∧ Below w.heap.size w w' := by
  have c1 := fun w' (hb : Below w.heap.size w w') => validFlux_any c f a zs cap w' hl (h.below hb (Nat.le_refl _))
  rw [hv] at c1
  have C1 := Lib.hid c1; clear c1 h hv
  go_enter Try.func40, Try.ntmps40
  go_wp2_with fail
  refine (C1.out _ (by go_grown)).mono ?_
  rintro e w1 ⟨rfl, hb1⟩
  go_wp2
  go_ret2
  exact ⟨rfl, Below.trans (by go_grown) (hb1.mono (by simp))⟩
set_option maxHeartbeats 2000000 in
theorem guessCell_yes (c f : Int) (a : Option Addr) (cap : Nat) (zs : List Int) (hl : zs.length ≤ 1048576) (hv : fluxOk c f zs = true) (w : World) (h : SlA w a zs) :
    Calls Try.prog 40 #[.agg #[.int .i64 c, .int .i64 f, .slice a zs.length cap]] w fun e w' => e = .returned (.tuple #[.int .i64 (guessBest zs), .int .i64 0]) ∧ Below w.heap.size w w' := by
  have c1 := fun w' (hb : Below w.heap.size w w') => validFlux_any c f a zs cap w' hl (h.below hb (Nat.le_refl _))
  rw [hv] at c1
  obtain ⟨_, ⟨hz1, hz4⟩, hz, _, _⟩ := fluxOk_iff.1 hv
  have C1 := Lib.hid c1; clear c1 hv
  have HZ := Lib.hid hz
  have HSL := Lib.hid h; clear h hz
  have HFB : Hid (∀ c, 4 ≤ c → c ≤ 200 → 0 ≤ farOf zs c ∧ farOf zs c ≤ 800000) := Lib.hid (fun c h1 h2 => by have := farTo_bd h1 h2 HZ.out zs.length (Nat.le_refl _); unfold farOf; omega)
  have hDg : ∃ D, farOf zs = D := ⟨_, rfl⟩
  go_enter Try.func40, Try.ntmps40
  go_wp2_with fail
  refine (C1.out _ (by go_grown)).mono ?_
  rintro e w1 ⟨rfl, hb1⟩
  have hz1 := hb1.size
  have FB := Lib.hid (show Below w.heap.size w w1 from Below.trans (by go_grown) (hb1.mono (by simp)))
  have HS1 := Lib.hid (HSL.out.below FB.out (Nat.le_refl _))
  have hcs : w1.cell? ⟨w.heap.size, 2, none⟩ = some (.slice a zs.length cap) := ((FluxAt.new w c f a zs.length cap 48 w.heap.size rfl).below hb1 (by simp)).2.2
  clear hb1 C1 HSL
  go_wp2
  go_loop [4, 5, 6] (fun b l q => ∃ n : Int, 4 ≤ n ∧ n ≤ 201 ∧ q = .int .i64 n ∧ ((n = 4 ∧ b = .int .i64 0 ∧ l = .int .i64 0) ∨ ∃ x, b = .int .i64 x ∧ l = .int .i64 (farOf zs x) ∧ Hid (BestCell (farOf zs) 4 (n - 1) x))) (fun _ _ q => (201 - intOf q).toNat)
  case atStart => exact ⟨4, by omega, by omega, rfl, .inl ⟨rfl, rfl, rfl⟩⟩
  case round =>
    obtain ⟨n, hn1, hn2, rfl, hrel⟩ := hrel
    by_cases hn : n ≤ 200
    · have hfb := HFB.out n hn1 hn
      have hf0 := hfb.1
      have hf1 := hfb.2
      clear hfb
      obtain ⟨s, hs⟩ : ∃ s, farOf zs n = s := ⟨_, rfl⟩
      rw [hs] at hf0 hf1
      have HSN := Lib.hid hs; clear hs
      rcases hrel with ⟨rfl, rfl, rfl⟩ | ⟨x, rfl, rfl, hbest⟩
      · go_wp2
        go_hide hQ
        go_loop [7, 20] (fun s i => ∃ k : Nat, k ≤ zs.length ∧ i = .int .i64 k ∧ s = .int .i64 (farTo zs 4 k)) (fun _ i => zs.length - (intOf i).toNat)
        case atStart => exact ⟨0, Nat.zero_le _, rfl, by rw [farTo_zero]⟩
        case round =>
          obtain ⟨k, hk, rfl, rfl⟩ := hrel
          by_cases hlt : k < zs.length
          · obtain ⟨y, hy⟩ := getOf hlt
            obtain ⟨b, off, rfl, hcx⟩ := HS1.out.cell hy
            have hb := bd_of_all HZ.out hy
            have hb1 := hb.1
            have hb2 := hb.2
            have hs := farTo_bd hn1 hn HZ.out k hk
            have HS := Lib.hid (farTo_succ (c := 4) hy)
            have hg := gdist_bd hn1 hn hb1
            obtain ⟨m, hm⟩ : ∃ m, farTo zs 4 k = m := ⟨_, rfl⟩
            rw [hm] at hs
            have hm0 := hs.1
            have hm1 : m ≤ 800000 := by omega
            have hg0 := hg.1
            have hg1 := hg.2
            have HM := Lib.hid hm
            have DI := Lib.hid (fun w => distance_any y 4 w hn1 hn hb1 hb2)
            obtain ⟨g, hgg⟩ : ∃ g, gdist 4 y = g := ⟨_, rfl⟩
            rw [hgg] at hg0 hg1 DI HS
            rw [hm]
            clear hs hg hy hm hgg hb
            go_wp2_with (go_at_call 70; refine (DI.out _).mono ?_; rintro e w' ⟨rfl, rfl⟩)
            go_round
            case rel => exact ⟨k + 1, by omega, by go_num, by rw [HS.out, HM.out]⟩
            case measure => simp [intOf]; omega
          · obtain rfl : k = zs.length := by omega
            subst hQ
            go_wp2
            go_round
            case rel => exact ⟨5, by omega, by omega, rfl, .inr ⟨4, rfl, rfl, Lib.hid (by rw [show (5 : Int) - 1 = 4 by omega]; exact BestCell.one _ 4)⟩⟩
            case measure => simp [intOf]
      · have hb := hbest.out
        have hx1 := hb.lo_le
        have hx2 := hb.le_hi
        have hft := HFB.out x hx1 (by omega)
        have ht0 := hft.1
        have ht1 := hft.2
        have hx0 : (x == 0) = false := by rw [beq_eq_false_iff_ne]; omega
        clear hb hft
        obtain ⟨t, ht⟩ : ∃ t, farOf zs x = t := ⟨_, rfl⟩
        rw [ht] at ht0 ht1 ⊢
        have HT := Lib.hid ht; clear ht
        have p1 : 0 ≤ s * x := Int.mul_nonneg hf0 (by omega)
        have p2 : s * x ≤ 800000 * 200 := Int.mul_le_mul hf1 (by omega) (by omega) (by omega)
        have p3 : 0 ≤ t * n := Int.mul_nonneg ht0 (by omega)
        have p4 : t * n ≤ 800000 * 200 := Int.mul_le_mul ht1 (by omega) (by omega) (by omega)
        have w1' : IntKind.i64.wrap (s * x) = s * x := IntWalk.i64_in _ (by omega)
        have w2' : IntKind.i64.wrap (t * n) = t * n := IntWalk.i64_in _ (by omega)
        have w3' : wrap64 (s * x) = s * x := by unfold wrap64; omega
        have w4' : wrap64 (t * n) = t * n := by unfold wrap64; omega
        have HW := Lib.hid (And.intro w1' (And.intro w2' (And.intro w3' w4')))
        have HP := Lib.hid (And.intro p1 (And.intro p2 (And.intro p3 p4)))
        have HX0 := Lib.hid hx0
        clear w1' w2' w3' w4' p1 p2 p3 p4 hx0
        go_wp2
        go_hide hQ
        go_loop [7, 20] (fun s i => ∃ k : Nat, k ≤ zs.length ∧ i = .int .i64 k ∧ s = .int .i64 (farTo zs n k)) (fun _ i => zs.length - (intOf i).toNat)
        case atStart => exact ⟨0, Nat.zero_le _, rfl, by rw [farTo_zero]⟩
        case round =>
          obtain ⟨k, hk, rfl, rfl⟩ := hrel
          by_cases hlt : k < zs.length
          · obtain ⟨y, hy⟩ := getOf hlt
            obtain ⟨b, off, rfl, hcx⟩ := HS1.out.cell hy
            have hb := bd_of_all HZ.out hy
            have hb1 := hb.1
            have hb2 := hb.2
            have hs := farTo_bd hn1 hn HZ.out k hk
            have HS := Lib.hid (farTo_succ (c := n) hy)
            have hg := gdist_bd hn1 hn hb1
            obtain ⟨m, hm⟩ : ∃ m, farTo zs n k = m := ⟨_, rfl⟩
            rw [hm] at hs
            have hm0 := hs.1
            have hm1 : m ≤ 800000 := by omega
            have hg0 := hg.1
            have hg1 := hg.2
            have HM := Lib.hid hm
            have DI := Lib.hid (fun w => distance_any y n w hn1 hn hb1 hb2)
            obtain ⟨g, hgg⟩ : ∃ g, gdist n y = g := ⟨_, rfl⟩
            rw [hgg] at hg0 hg1 DI HS
            rw [hm]
            clear hs hg hy hm hgg hb
            go_wp2_with (go_at_call 70; refine (DI.out _).mono ?_; rintro e w' ⟨rfl, rfl⟩)
            go_round
            case rel => exact ⟨k + 1, by omega, by go_num, by rw [HS.out, HM.out]⟩
            case measure => simp [intOf]; omega
          · obtain rfl : k = zs.length := by omega
            have hsn : farTo zs n zs.length = s := HSN.out
            rw [hsn]
            obtain ⟨w1', w2', w3', w4'⟩ := HW.out
            have hx0 := HX0.out
            clear hsn
            by_cases hcmp : s * x ≤ t * n
            · have HN := Lib.hid (BestCell.up_new (k := n) (by omega) hbest.out (by rw [HSN.out, HT.out]; exact hcmp))
              subst hQ
              go_wp2
              go_round
              case rel => exact ⟨n + 1, by omega, by omega, by go_num, .inr ⟨n, rfl, by rw [HSN.out], Lib.hid (by rw [show n + 1 - 1 = n by omega]; exact HN.out)⟩⟩
              case measure => simp [intOf]; omega
            · have HN := Lib.hid (BestCell.up_old (k := n) hbest.out (by rw [HSN.out, HT.out]; exact hcmp))
              subst hQ
              go_wp2
              go_round
              case rel => exact ⟨n + 1, by omega, by omega, by go_num, .inr ⟨x, rfl, by rw [HT.out], Lib.hid (by rw [show n + 1 - 1 = n by omega]; exact HN.out)⟩⟩
              case measure => simp [intOf]; omega
    · rcases hrel with ⟨rfl, _⟩ | ⟨x, rfl, rfl, hbest⟩
      · omega
      · have HE := Lib.hid (guessBest_eq (b := x) (by have h := hbest.out; rw [show n - 1 = 200 by omega] at h; exact h))
        go_wp2
        go_ret2
        exact ⟨by rw [HE.out]; rfl, FB.out⟩
def guessVal (c f : Int) (zs : List Int) : Int × Int := if fluxOk c f zs = true then (guessBest zs, 0) else (0, 1)
theorem guessCell_any (c f : Int) (a : Option Addr) (cap : Nat) (zs : List Int) (hl : zs.length ≤ 1048576) (w : World) (h : SlA w a zs) :
    Calls Try.prog 40 #[.agg #[.int .i64 c, .int .i64 f, .slice a zs.length cap]] w fun e w' => e = .returned (.tuple #[.int .i64 (guessVal c f zs).1, .int .i64 (guessVal c f zs).2]) ∧ Below w.heap.size w w' := by
  unfold guessVal
  by_cases hv : fluxOk c f zs = true
  · rw [if_pos hv]; exact guessCell_yes c f a cap zs hl hv w h
  · rw [if_neg hv]; exact guessCell_no c f a cap zs hl (by simpa using hv) w h
end Go.Proofs.Ytgmnaikgjfbgkab
