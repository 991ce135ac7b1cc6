/- FnMfm: the law's walk. -/
import Derived.Test.YtkdhhkoablmbbabData05
import Derived.Test.YtkdhhkoablmbbabRoundMfm
import Derived.Test.YtkdhhkoablmbbabEncodeFm
import Derived.Test.YtkdhhkoablmbbabSm
namespace Go.Proofs.Ytkdhhkoablmbbab.fnMfm
open Go.RowKit
set_option linter.unusedVariables false
set_option maxHeartbeats 4000000 in
theorem walk (a0 : Option Addr) (len0 cap0 : Nat) (z0 : List Int) (a1 : Option Addr) (len1 cap1 : Nat) (z1 : List Int) (w : World) (w0 : IsRow .u8 w a0 len0 cap0 z0) (w1 : IsRow .u8 w a1 len1 cap1 z1) :
    Calls Try.prog 4 #[.slice a0 len0 cap0, .slice a1 len1 cap1] w fun e w' => e = .returned (.bool true) ∧ Below w.heap.size w w' := by
  obtain ⟨hca, hcl⟩ := code_of w0
  obtain ⟨hcb, hcm⟩ := code_of w1
  have HL := Lib.hid (fun w => a2Long_any a0 a1 len0 len1 cap0 cap1 w)
  obtain ⟨lo, hlo⟩ : ∃ b, (decide (3000 < len0) || decide (3000 < len1)) = b := ⟨_, rfl⟩
  rw [hlo] at HL
  cases lo with
  | true =>
    clear hlo
    go_enter Try.func4, Try.ntmps4
    go_wp2_with fail
    refine (HL.out _).mono ?_
    rintro e w' ⟨rfl, rfl⟩
    go_wp2
    go_ret
    exact ⟨rfl, Below.refl _ _⟩
  | false =>
    have hl : len0 ≤ 3000 ∧ len1 ≤ 3000 := by simp at hlo; omega
    obtain ⟨hl0, hl1⟩ := hl
    have D0 := Lib.hid (a2Data_any a0 len0 cap0 w (by omega) hcl hca)
    have D1 := Lib.hid (fun w2 (hb : Below w.heap.size w w2) => a2Data_any a1 len1 cap1 w2 (by omega) (hcm.mono hb.size) (hcb.below hcm hb))
    have B0 := Lib.hid (fun w2 (hb : Below w.heap.size w w2) => a2Byte_any a0 len0 cap0 0 2 w2 (by omega) (by omega) (by omega) (by omega) (hca.below hcl hb))
    clear hlo hca hcl hcb hcm
    go_enter Try.func4, Try.ntmps4
    go_wp2_with fail
    refine (HL.out _).mono ?_
    rintro e w' ⟨rfl, rfl⟩
    go_wp2_with fail
    refine D0.out.mono ?_
    rintro e w2 ⟨a, rfl, ha40, hb2⟩
    go_wp2_with fail
    refine (D1.out w2 hb2).mono ?_
    rintro e w3 ⟨b, rfl, hb40, hb3⟩
    have h3 := hb2.trans (hb3.mono hb2.size)
    clear hb2 hb3
    go_wp2_with fail
    refine (B0.out w3 h3).mono ?_
    rintro e w4 ⟨v, rfl, hv, rfl⟩
    obtain ⟨la, hla⟩ : ∃ la, ((v : Int) == 1) = la := ⟨_, rfl⟩
    have hend := lastS_end a la
    obtain ⟨T, hT⟩ : ∃ T, lastS a la (8 * a.size) = T := ⟨_, rfl⟩
    have hE := encV_app a b la true (by omega)
    have hz1 := encV_size la true (show a.size ≤ 500 by omega)
    have hz2 := encV_size T true (show b.size ≤ 500 by omega)
    obtain ⟨hd1, hd2⟩ := decT_enc la true (show (a ++ b).size ≤ 500 by rw [app_size]; omega)
    have cE := fun w => encodeMfm_any (a ++ b) la (by rw [app_size]; omega) w
    have cA := fun w => encodeMfm_any a la (by omega) w
    have cB := fun w => encodeMfm_any b T (by omega) w
    rw [hT] at hend hE
    rw [hE] at cE hd1 hd2
    generalize encV a la true = Ea at *
    generalize encV b T true = Eb at *
    have cD := fun w => decodeMfm_any (Ea ++ Eb) (by rw [app_size]; omega) w
    rw [hd1, hd2] at cD
    have hs1 : Ea.size ≤ 640 := by omega
    have hs2 : Eb.size ≤ 640 := by omega
    have CE := Lib.hid cE; have CA := Lib.hid cA; have CB := Lib.hid cB; have CD := Lib.hid cD
    clear cE cA cB cD hd1 hd2 hE hT hz1 hz2 HL D0 D1 B0
    by_cases h0 : a.size = 0
    · obtain rfl := bytes_empty h0
      rw [if_pos h0] at hend
      subst hend
      clear h0
      go_wp2_with fail
      refine (CE.out _).mono ?_
      rintro e w5 ⟨rfl, hb5⟩
      go_wp2_with fail
      refine (CD.out _).mono ?_
      rintro e w6 ⟨rfl, hb6⟩
      go_wp2_with fail
      refine (CA.out _).mono ?_
      rintro e w7 ⟨rfl, hb7⟩
      go_wp2_with fail
      refine (CB.out _).mono ?_
      rintro e w8 ⟨rfl, hb8⟩
      have g5 := h3.trans (hb5.mono h3.size)
      have g6 := g5.trans (hb6.mono g5.size)
      have g7 := g6.trans (hb7.mono g6.size)
      have g8 := g7.trans (hb8.mono g7.size)
      clear hb5 hb6 hb7 hb8 g5 g6 g7 h3
      go_wp2
      go_ret
      exact ⟨rfl, g8⟩
    · rw [if_neg h0] at hend
      obtain ⟨hn1, hn2⟩ := bytes_ne h0
      have CL := Lib.hid (fun w => lastBit_any a (by omega) w)
      rw [← hend] at CL
      clear h0 hend
      go_wp2_with fail
      refine (CL.out _).mono ?_
      rintro e w4 ⟨rfl, hb4⟩
      have g4 := h3.trans (hb4.mono h3.size)
      clear hb4
      go_wp2_with fail
      refine (CE.out _).mono ?_
      rintro e w5 ⟨rfl, hb5⟩
      go_wp2_with fail
      refine (CD.out _).mono ?_
      rintro e w6 ⟨rfl, hb6⟩
      go_wp2_with fail
      refine (CA.out _).mono ?_
      rintro e w7 ⟨rfl, hb7⟩
      go_wp2_with fail
      refine (CB.out _).mono ?_
      rintro e w8 ⟨rfl, hb8⟩
      have g5 := g4.trans (hb5.mono g4.size)
      have g6 := g5.trans (hb6.mono g5.size)
      have g7 := g6.trans (hb7.mono g6.size)
      have g8 := g7.trans (hb8.mono g7.size)
      clear hb5 hb6 hb7 hb8 g4 g5 g6 g7 h3
      go_wp2
      go_ret
      exact ⟨rfl, g8⟩
end Go.Proofs.Ytkdhhkoablmbbab.fnMfm
