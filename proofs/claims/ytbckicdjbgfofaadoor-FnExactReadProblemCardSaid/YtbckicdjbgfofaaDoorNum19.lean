/- spec.l19Number: the number of up to three digits, or -1. -/
import Derived.Test.YtbckicdjbgfofaaDoorRpVal
namespace Go.Proofs.YtbckicdjbgfofaaDoor
open Go.RowKit
set_option linter.unusedVariables false
set_option linter.unusedSimpArgs false
set_option maxRecDepth 20000
set_option maxHeartbeats 4000000 in
theorem l19Number_any (s : ByteArray) (hs : s.size ≤ 1048576) (w : World) :
    Calls Tryd.prog 8 #[.string s] w fun e w' => e = .returned (.int .i64 (num19 s)) ∧ w' = w := by
  by_cases h0 : s.size < 1
  · have hr : num19 s = -1 := by unfold num19; rw [if_pos (.inl h0)]
    rw [hr]
    have h0' : (s.size : Int) < 1 := by omega
    clear hr
    go_enter Tryd.func8, Tryd.ntmps8
    go_wp2
    go_ret
    exact ⟨rfl, rfl⟩
  by_cases h3 : 3 < s.size
  · have hr : num19 s = -1 := by unfold num19; rw [if_pos (.inr h3)]
    rw [hr]
    have h0' : ¬ (s.size : Int) < 1 := by omega
    have h3' : (3 : Int) < (s.size : Int) := by omega
    clear hr h0 h3
    go_enter Tryd.func8, Tryd.ntmps8
    go_wp2
    go_ret
    exact ⟨rfl, rfl⟩
  have HR := Lib.hid (show num19 s = match numD s s.size with | some n => (n : Int) | none => -1 by unfold num19; rw [if_neg (by omega)]; rfl)
  have h0' : ¬ (s.size : Int) < 1 := by omega
  have h3' : ¬ (3 : Int) < (s.size : Int) := by omega
  go_enter Tryd.func8, Tryd.ntmps8
  go_wp2
  clear h0'
  go_loopw [3, 4] (fun nv kv wr => ∃ k n : Nat, k ≤ s.size ∧ kv = .int .i64 k ∧ nv = .int .i64 n ∧ Hid (numD s k = some n) ∧ wr = w) (fun _ kv _ => s.size - (intOf kv).toNat)
  case atStart => exact ⟨0, 0, Nat.zero_le _, rfl, rfl, by unfold Hid; rfl, rfl⟩
  case round =>
    obtain ⟨k, n, hk, rfl, rfl, hN, rfl⟩ := hrel
    have hnb : n < 10 ^ 3 := Nat.lt_of_lt_of_le (numD_bd s k n hN.out) (Nat.pow_le_pow_right (by omega) (by omega))
    by_cases hp : k < s.size
    · by_cases hd : 48 ≤ s[k].toNat ∧ s[k].toNat ≤ 57
      · obtain ⟨d, hd2⟩ : ∃ d, s[k].toNat = 48 + d := ⟨s[k].toNat - 48, by omega⟩
        have hd9 : d ≤ 9 := by omega
        have HS := Lib.hid (numD_hit hp hN.out hd2 hd9)
        clear hd
        have q1 : ¬ ((48 + d : Nat) : Int) < 48 := by omega
        have q2 : ¬ (57 : Int) < ((48 + d : Nat) : Int) := by omega
        go_wp2
        go_roundw
        case rel => exact ⟨k + 1, n * 10 + d, by omega, by go_num, by go_num, HS, trivial⟩
        case measure => simp [intOf]; omega
      · have HS := Lib.hid (numD_miss hp hd)
        have hcase : (s[k].toNat : Int) < 48 ∨ (¬ (s[k].toNat : Int) < 48 ∧ (57 : Int) < (s[k].toNat : Int)) := by omega
        clear hd
        rcases hcase with h | ⟨h, h'⟩
        all_goals
          go_wp2
          go_ret
          refine ⟨?_, rfl⟩
          have hj := numD_none s (k + 1) HS.out (s.size - (k + 1))
          rw [show k + 1 + (s.size - (k + 1)) = s.size by omega] at hj
          rw [HR.out, hj]
          rfl
    · obtain rfl : k = s.size := by omega
      go_wp2
      go_ret
      refine ⟨?_, rfl⟩
      rw [HR.out, hN.out]
      rfl
end Go.Proofs.YtbckicdjbgfofaaDoor
