/- spec.l01Number: the number of a text without leading zeros, or -1. -/
import Derived.Test.YtfedlehibkgjbaaDoorSpecIsName
namespace Go.Proofs.YtfedlehibkgjbaaDoor
open Go.RowKit
set_option linter.unusedVariables false
set_option linter.unusedSimpArgs false
set_option maxRecDepth 20000
/-- The number of the first k bytes, if all are digits. -/
def numD (s : ByteArray) : Nat → Option Nat
  | 0 => some 0
  | k + 1 => match numD s k, s.data.toList[k]? with
    | some n, some c => if 48 ≤ c.toNat ∧ c.toNat ≤ 57 then some (n * 10 + (c.toNat - 48)) else none
    | _, _ => none
def numW (s : ByteArray) : Int :=
  if s.size = 0 ∨ 7 < s.size ∨ (s.data.toList[0]?.map UInt8.toNat = some 48 ∧ 1 < s.size) then -1 else
  match numD s s.size with
  | some n => n
  | none => -1
theorem numD_hit {s : ByteArray} {k n d : Nat} (h : k < s.size) (hn : numD s k = some n) (e : s[k].toNat = 48 + d) (hd : d ≤ 9) : numD s (k + 1) = some (n * 10 + d) := by
  have hl : k < s.data.toList.length := by simpa using h
  have h2 : s.data.toList[k]? = some s[k] := by rw [List.getElem?_eq_getElem hl]; rfl
  rw [numD, hn, h2]
  simp only [e]
  rw [if_pos (by omega), show 48 + d - 48 = d by omega]
theorem numD_miss {s : ByteArray} {k : Nat} (h : k < s.size) (e : ¬ (48 ≤ s[k].toNat ∧ s[k].toNat ≤ 57)) : numD s (k + 1) = none := by
  have hl : k < s.data.toList.length := by simpa using h
  have h2 : s.data.toList[k]? = some s[k] := by rw [List.getElem?_eq_getElem hl]; rfl
  rw [numD, h2]
  cases numD s k with
  | none => rfl
  | some n => exact if_neg e
theorem numD_none (s : ByteArray) (k : Nat) (h : numD s k = none) (j : Nat) : numD s (k + j) = none := by
  induction j with
  | zero => exact h
  | succ j ih => rw [show k + (j + 1) = (k + j) + 1 by omega, numD, ih]
theorem numD_bd (s : ByteArray) (k n : Nat) (h : numD s k = some n) : n < 10 ^ k := by
  induction k generalizing n with
  | zero => rw [numD] at h; cases h; decide
  | succ k ih =>
    rw [numD] at h
    split at h
    · rename_i m c hm hc
      have := ih m hm
      split at h
      · cases h
        rw [Nat.pow_succ]
        omega
      · cases h
    · cases h
set_option maxHeartbeats 4000000 in
theorem l01Number_any (s : ByteArray) (hs : s.size ≤ 1048576) (w : World) :
    Calls Tryd.prog 22 #[.string s] w fun e w' => e = .returned (.int .i64 (numW s)) ∧ w' = w := by
  by_cases h0 : s.size = 0
  · have hr : numW s = -1 := by unfold numW; rw [if_pos (.inl h0)]
    rw [hr]
    have hb : s = ⟨#[]⟩ := by
      cases s with | mk d => simp only [ByteArray.mk.injEq]; exact Array.eq_empty_of_size_eq_zero h0
    subst hb
    clear h0 hs hr
    go_enter Tryd.func22, Tryd.ntmps22
    go_wp2
    go_ret
    exact ⟨rfl, rfl⟩
  · have hls : s.toList.length = s.size := by rw [ByteArray.toList_eq]; simp
    have hne : s.toList.isEmpty = false := by
      cases h : s.toList with
      | nil => rw [h] at hls; simp at hls; omega
      | cons => rfl
    have hne2 : ¬ s.toList = [] := by
      intro h; rw [h] at hls; simp at hls; omega
    clear hls
    have hpos : 0 < s.size := by omega
    have hfst : s.data.toList[0]? = some s[0] := by rw [List.getElem?_eq_getElem (by simpa using hpos)]; rfl
    by_cases h7 : 7 < s.size
    · have hr : numW s = -1 := by unfold numW; rw [if_pos (.inr (.inl h7))]
      rw [hr]
      clear hr hfst
      go_enter Tryd.func22, Tryd.ntmps22
      go_wp2
      go_ret
      exact ⟨rfl, rfl⟩
    · by_cases hz : s[0].toNat = 48 ∧ 1 < s.size
      · have hr : numW s = -1 := by unfold numW; rw [if_pos (.inr (.inr ⟨by rw [hfst]; simp [hz.1], hz.2⟩))]
        rw [hr]
        obtain ⟨hz1, hz2⟩ := hz
        clear hr hfst
        go_enter Tryd.func22, Tryd.ntmps22
        go_wp2
        go_ret
        exact ⟨rfl, rfl⟩
      · have hr : numW s = match numD s s.size with | some n => (n : Int) | none => -1 := by
          unfold numW
          rw [if_neg]
          rw [hfst]
          rintro (h | h | ⟨h, h'⟩)
          · exact h0 h
          · exact h7 h
          · exact hz ⟨by simpa using h, h'⟩
        have HR := Lib.hid hr
        obtain ⟨c0, hc0⟩ : ∃ c0, s[0].toNat = c0 := ⟨_, rfl⟩
        have hcase : (c0 ≠ 48) ∨ (c0 = 48 ∧ ¬ 1 < s.size) := by
          rw [hc0] at hz
          by_cases h : c0 = 48
          · exact .inr ⟨h, fun h' => hz ⟨h, h'⟩⟩
          · exact .inl h
        clear hr hfst hz
        rcases hcase with h48 | ⟨h48, h1⟩
        all_goals
          have hq0 : (((c0 : Nat) : Int) == 48) = decide (c0 = 48) := by
            by_cases h : c0 = 48
            · simp [h]
            · simp [h]; omega
          rw [← hc0] at hq0 h48
          clear hc0
          go_enter Tryd.func22, Tryd.ntmps22
          go_wp2
          clear hq0 h48
          go_loopw [3, 4] (fun nv kv wr => ∃ k n : Nat, k ≤ s.size ∧ kv = .int .i64 k ∧ nv = .int .i64 n ∧ Hid (numD s k = some n) ∧ wr = w) (fun _ kv _ => s.size - (intOf kv).toNat)
          case atStart => exact ⟨0, 0, Nat.zero_le _, rfl, rfl, by unfold Hid; rfl, rfl⟩
          case round =>
            obtain ⟨k, n, hk, rfl, rfl, hN, rfl⟩ := hrel
            have hnb : n < 10 ^ 7 := Nat.lt_of_lt_of_le (numD_bd s k n hN.out) (Nat.pow_le_pow_right (by omega) (by omega))
            by_cases hp : k < s.size
            · by_cases hd : 48 ≤ s[k].toNat ∧ s[k].toNat ≤ 57
              · obtain ⟨d, hd2⟩ : ∃ d, s[k].toNat = 48 + d := ⟨s[k].toNat - 48, by omega⟩
                have hd9 : d ≤ 9 := by omega
                have HS := Lib.hid (numD_hit hp hN.out hd2 hd9)
                clear hd
                have DY := Lib.hid (fun w1 => (show Calls Tryd.prog 41 #[.int .u8 (48 + (d : Int))] w1 (fun e w' => e = .returned (.bool true) ∧ w1 = w') by have := digit_yes (c := 48 + d) w1 (by omega) (by omega); simpa using this))
                go_wp2_with (go_at_call 41; refine (DY.out _).mono ?_; rintro e w1 ⟨rfl, rfl⟩)
                go_roundw
                case rel => exact ⟨k + 1, n * 10 + d, by omega, by go_num, by go_num, HS, trivial⟩
                case measure => simp [intOf]; omega
              · have HS := Lib.hid (numD_miss hp hd)
                have HD := Lib.hid hd
                clear hd
                go_wp2_with (go_at_call 41; refine (digit_no _ HD.out).mono ?_; rintro e w1 ⟨rfl, rfl⟩)
                go_ret
                refine ⟨?_, rfl⟩
                have hj := numD_none s (k + 1) HS.out (s.size - (k + 1))
                rw [show k + 1 + (s.size - (k + 1)) = s.size by omega] at hj
                rw [HR.out, hj]
                rfl
            · obtain rfl : k = s.size := by omega
              go_wp2
              go_ret
              refine ⟨?_, rfl⟩
              rw [HR.out, hN.out]
              rfl
end Go.Proofs.YtfedlehibkgjbaaDoor
