/- spec.l13Note -/
import Derived.Test.YtipepnphdiflcaaNoteIm
namespace Go.Proofs.Ytipepnphdiflcaa
open Go.RowKit
set_option linter.unusedVariables false
set_option maxHeartbeats 400000 in
theorem specNote_any (s : ByteArray) (w : World) (hs : s.size ≤ maxLen) :
    Calls Try.prog 132 #[.string s] w fun e w' => e = .returned (.bool (noteB s)) ∧ w = w' := by
  unfold maxLen at hs
  go_enter Try.func132, Try.ntmps132
  go_wp2
  go_loop [3] (fun i => ∃ k : Nat, k ≤ s.size ∧ i = .int .i64 k ∧ Hid (prL (s.data.toList.take k) = true)) (fun i => s.size - (intOf i).toNat)
  case atStart => exact ⟨0, Nat.zero_le _, rfl, by unfold Hid; rfl⟩
  case round =>
    obtain ⟨k, hk, rfl, ha⟩ := hrel
    by_cases hlt : k < s.size
    · have HS := Lib.hid (prL_snoc s k hlt)
      have HN := Lib.hid (prL_no s k hlt)
      by_cases h1 : s[k].toNat < 32
      · have hc0 : isPr s[k] = false := by unfold isPr; simp; omega
        go_wp2
        go_ret
        exact ⟨ret_bool (by unfold noteB; rw [HN.out hc0]; rfl), rfl⟩
      · by_cases h2 : 126 < s[k].toNat
        · have hc0 : isPr s[k] = false := by unfold isPr; simp; omega
          go_wp2
          go_ret
          exact ⟨ret_bool (by unfold noteB; rw [HN.out hc0]; rfl), rfl⟩
        · have hc0 := Lib.hid ((isPr_iff s[k]).2 ⟨by omega, by omega⟩)
          go_wp2
          go_round
          case rel => exact ⟨k + 1, by omega, by go_num, by unfold Hid; rw [HS.out, ha.out, hc0.out]; rfl⟩
          case measure => simp [intOf]; omega
    · have e := Lib.hid (take_all s k (by omega))
      by_cases h1 : 1 ≤ s.size <;> by_cases h2 : s.size ≤ 40
      all_goals
        go_wp2 <;> (go_ret; exact ⟨ret_bool (by unfold noteB; rw [← e.out, ha.out]; unfold inB; simp; try omega), rfl⟩)
end Go.Proofs.Ytipepnphdiflcaa
