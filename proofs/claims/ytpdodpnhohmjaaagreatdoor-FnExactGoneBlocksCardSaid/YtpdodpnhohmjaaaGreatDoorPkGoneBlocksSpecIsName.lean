/- spec.IsName, spec.l01Letter, spec.l01Digit -/
import Derived.Test.YtpdodpnhohmjaaaGreatDoorPkGoneBlocksC
namespace Go.Proofs.YtpdodpnhohmjaaaGreatDoor
open Go.RowKit
set_option maxRecDepth 20000
set_option linter.unusedVariables false
set_option maxHeartbeats 400000 in
theorem letter_yes {c : Nat} (w : World) (h1 : 65 ≤ c) (h2 : c ≤ 90) : Calls Tryz.prog 80 #[.int .u8 c] w fun e w' => e = .returned (.bool true) ∧ w = w' := by
  go_enter Tryz.func80, Tryz.ntmps80
  go_wp2
  all_goals
    go_ret
    exact ⟨ret_bool (decide_eq_true (by omega)), rfl⟩
set_option maxHeartbeats 400000 in
theorem letter_no {c : Nat} (w : World) (h : ¬ (65 ≤ c ∧ c ≤ 90)) : Calls Tryz.prog 80 #[.int .u8 c] w fun e w' => e = .returned (.bool false) ∧ w = w' := by
  by_cases h1 : 65 ≤ c
  · have h2 : 90 < c := by omega
    clear h
    go_enter Tryz.func80, Tryz.ntmps80
    go_wp2
    all_goals
      go_ret
      exact ⟨ret_bool (decide_eq_false (by omega)), rfl⟩
  · clear h
    go_enter Tryz.func80, Tryz.ntmps80
    go_wp2
    all_goals
      go_ret
      exact ⟨rfl, rfl⟩
set_option maxHeartbeats 400000 in
theorem digit_yes {c : Nat} (w : World) (h1 : 48 ≤ c) (h2 : c ≤ 57) : Calls Tryz.prog 81 #[.int .u8 c] w fun e w' => e = .returned (.bool true) ∧ w = w' := by
  go_enter Tryz.func81, Tryz.ntmps81
  go_wp2
  all_goals
    go_ret
    exact ⟨ret_bool (decide_eq_true (by omega)), rfl⟩
set_option maxHeartbeats 400000 in
theorem digit_no {c : Nat} (w : World) (h : ¬ (48 ≤ c ∧ c ≤ 57)) : Calls Tryz.prog 81 #[.int .u8 c] w fun e w' => e = .returned (.bool false) ∧ w = w' := by
  by_cases h1 : 48 ≤ c
  · have h2 : 57 < c := by omega
    clear h
    go_enter Tryz.func81, Tryz.ntmps81
    go_wp2
    all_goals
      go_ret
      exact ⟨ret_bool (decide_eq_false (by omega)), rfl⟩
  · clear h
    go_enter Tryz.func81, Tryz.ntmps81
    go_wp2
    all_goals
      go_ret
      exact ⟨rfl, rfl⟩
/-- A byte of a name, wherever it stands. -/
def okAny (c : Nat) : Bool := (decide (65 ≤ c) && decide (c ≤ 90)) || (decide (c = 95) || (decide (48 ≤ c) && decide (c ≤ 57)))
theorem okAt_any {i c : Nat} (h : okAny c = false) : okAt i c = false := by
  unfold okAny at h; unfold okAt
  simp only [Bool.or_eq_false_iff] at h ⊢
  simp [h]
theorem okAt_first {i c : Nat} (h : okAny c = true) (hi : i = 0 → (65 ≤ c ∧ c ≤ 90)) : okAt i c = true := by
  unfold okAny at h; unfold okAt
  simp only [Bool.or_eq_true, Bool.and_eq_true, decide_eq_true_eq] at h ⊢
  by_cases hz : i = 0
  · exact .inl (hi hz)
  · rcases h with h | h
    · exact .inl h
    · exact .inr ⟨by omega, h⟩
set_option maxHeartbeats 1000000 in
theorem specIsName_any (s : ByteArray) (w : World) (hs : s.size ≤ maxLen) :
    Calls Tryz.prog 53 #[.string s] w fun e w' => e = .returned (.bool (nameB s)) ∧ w = w' := by
  unfold maxLen at hs
  by_cases h0 : s.size = 0
  · have hb : s = ⟨#[]⟩ := by
      cases s with | mk d => simp only [ByteArray.mk.injEq]; exact Array.eq_empty_of_size_eq_zero h0
    subst hb
    clear h0 hs
    go_enter Tryz.func53, Tryz.ntmps53
    go_wp2
    go_ret
    exact ⟨ret_bool rfl, rfl⟩
  · have hls : s.toList.length = s.size := by rw [ByteArray.toList_eq]; simp
    have hne : s.toList.isEmpty = false := by
      cases h : s.toList with
      | nil => rw [h] at hls; simp at hls; omega
      | cons => rfl
    have hne2 : ¬ s.toList = [] := by
      intro h; rw [h] at hls; simp at hls; omega
    clear hls
    have hpos : 0 < s.size := by omega
    by_cases h8 : 8 < s.size
    · go_enter Tryz.func53, Tryz.ntmps53
      go_wp2
      go_ret
      exact ⟨ret_bool (by unfold nameB; rw [inB_hi (by omega)]; simp), rfl⟩
    · by_cases hL : 65 ≤ s[0].toNat ∧ s[0].toNat ≤ 90
      · have hL0 := Lib.hid hL
        have hlet : ∀ w, Calls Tryz.prog 80 #[.int .u8 s[0].toNat] w _ := fun w => letter_yes w hL.1 hL.2
        have HLET := Lib.hid hlet; clear hlet hL
        have hin : ¬ s.size < 1 := by omega
        go_enter Tryz.func53, Tryz.ntmps53
        go_wp2_with (go_at_call 80; refine (HLET.out _).mono ?_; rintro e w1 ⟨rfl, rfl⟩)
        clear HLET
        go_loop [3] (fun i => ∃ k : Nat, k ≤ s.size ∧ i = .int .i64 k ∧ Hid (okTo s k = true)) (fun i => s.size - (intOf i).toNat)
        case atStart => exact ⟨0, Nat.zero_le _, rfl, by unfold Hid; rfl⟩
        case round =>
          obtain ⟨k, hk, rfl, ha⟩ := hrel
          by_cases hlt : k < s.size
          · have HS := Lib.hid (okTo_succ s k hlt)
            have HN := Lib.hid (okTo_no s k hlt)
            have hfst : k = 0 → (65 ≤ s[k].toNat ∧ s[k].toNat ≤ 90) := by intro h; subst h; exact hL0.out
            have HF := Lib.hid hfst; clear hfst
            obtain ⟨c, hc⟩ : ∃ c, s[k].toNat = c := ⟨_, rfl⟩
            rw [hc] at HS HN HF
            by_cases h1 : 65 ≤ c ∧ c ≤ 90
            · have ok := Lib.hid (show okAt k c = true by unfold okAt; simp; omega)
              have hlet : ∀ w, Calls Tryz.prog 80 #[.int .u8 c] w _ := fun w => letter_yes w h1.1 h1.2
              have HLET := Lib.hid hlet; clear hlet
              go_wp2_with (go_at_call 80; refine (HLET.out _).mono ?_; rintro e w1 ⟨rfl, rfl⟩)
              go_round
              case rel => exact ⟨k + 1, by omega, by go_num, by unfold Hid; rw [HS.out, ha.out, ok.out]; rfl⟩
              case measure => simp [intOf]; omega
            · have hlet : ∀ w, Calls Tryz.prog 80 #[.int .u8 c] w _ := fun w => letter_no w h1
              have HLET := Lib.hid hlet; clear hlet
              by_cases h2 : 48 ≤ c ∧ c ≤ 57
              · have ok := Lib.hid (show okAt k c = true from okAt_first (by unfold okAny; simp; omega) HF.out)
                have hdig : ∀ w, Calls Tryz.prog 81 #[.int .u8 c] w _ := fun w => digit_yes w h2.1 h2.2
                have HDIG := Lib.hid hdig; clear hdig h1 h2
                go_wp2_with (first | (go_at_call 80; refine (HLET.out _).mono ?_; rintro e w1 ⟨rfl, rfl⟩) | (go_at_call 81; refine (HDIG.out _).mono ?_; rintro e w1 ⟨rfl, rfl⟩))
                go_round
                case rel => exact ⟨k + 1, by omega, by go_num, by unfold Hid; rw [HS.out, ha.out, ok.out]; rfl⟩
                case measure => simp [intOf]; omega
              · have hdig : ∀ w, Calls Tryz.prog 81 #[.int .u8 c] w _ := fun w => digit_no w h2
                have HDIG := Lib.hid hdig; clear hdig
                by_cases h3 : c = 95
                · have ok := Lib.hid (show okAt k c = true from okAt_first (by unfold okAny; simp; omega) HF.out)
                  have b95 : ((c : Int) != 95) = false := by simp; omega
                  clear h1 h2 h3
                  go_wp2_with (first | (go_at_call 80; refine (HLET.out _).mono ?_; rintro e w1 ⟨rfl, rfl⟩) | (go_at_call 81; refine (HDIG.out _).mono ?_; rintro e w1 ⟨rfl, rfl⟩))
                  go_round
                  case rel => exact ⟨k + 1, by omega, by go_num, by unfold Hid; rw [HS.out, ha.out, ok.out]; rfl⟩
                  case measure => simp [intOf]; omega
                · have ok := Lib.hid (HN.out (show okAt k c = false from okAt_any (by unfold okAny; simp; omega)))
                  have b95 : ((c : Int) != 95) = true := by simp; omega
                  clear h1 h2 h3
                  go_wp2_with (first | (go_at_call 80; refine (HLET.out _).mono ?_; rintro e w1 ⟨rfl, rfl⟩) | (go_at_call 81; refine (HDIG.out _).mono ?_; rintro e w1 ⟨rfl, rfl⟩))
                  go_ret
                  exact ⟨ret_bool (by unfold nameB; rw [ok.out]; rfl), rfl⟩
          · go_wp2
            go_ret
            obtain rfl : k = s.size := by omega
            exact ⟨ret_bool (by unfold nameB; rw [ha.out, inB_true (by omega) (by omega)]; rfl), rfl⟩
      · have hlet : ∀ w, Calls Tryz.prog 80 #[.int .u8 s[0].toNat] w _ := fun w => letter_no w hL
        have HLET := Lib.hid hlet; clear hlet
        have HN := Lib.hid (okTo_no s 0 hpos (show okAt 0 s[0].toNat = false by unfold okAt; simp; omega))
        clear hL
        have hin : ¬ s.size < 1 := by omega
        go_enter Tryz.func53, Tryz.ntmps53
        go_wp2_with (go_at_call 80; refine (HLET.out _).mono ?_; rintro e w1 ⟨rfl, rfl⟩)
        go_ret
        exact ⟨ret_bool (by unfold nameB; rw [HN.out]; rfl), rfl⟩
end Go.Proofs.YtpdodpnhohmjaaaGreatDoor
