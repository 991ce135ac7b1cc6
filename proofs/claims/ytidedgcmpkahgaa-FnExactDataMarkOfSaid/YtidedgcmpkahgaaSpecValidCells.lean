/- spec.l02Cells, spec.ValidCells -/
import Derived.Test.YtidedgcmpkahgaaValidCells
namespace Go.Proofs.Ytidedgcmpkahgaa
open Go.RowKit
set_option linter.unusedVariables false
set_option maxHeartbeats 400000 in
theorem l02Cells_any (s : ByteArray) (w : World) (hs : s.size ≤ maxLen) :
    Calls Try.prog 66 #[.string s] w fun e w' => e = .returned (.bool (validCells s)) ∧ w = w' := by
  unfold maxLen at hs
  by_cases h0 : s.size < 1
  · go_enter Try.func66, Try.ntmps66
    go_wp2
    go_ret
    exact ⟨ret_bool (by unfold validCells; rw [inB_lo (by omega)]; simp), rfl⟩
  · by_cases h1 : 8000 < s.size
    · go_enter Try.func66, Try.ntmps66
      go_wp2
      go_ret
      exact ⟨ret_bool (by unfold validCells; rw [inB_hi (by omega)]; simp), rfl⟩
    · go_enter Try.func66, Try.ntmps66
      go_wp2
      go_loop [3] (fun i => ∃ k : Nat, k ≤ s.size ∧ i = .int .i64 k ∧ Hid (cellsL (s.data.toList.take k) = true)) (fun i => s.size - (intOf i).toNat)
      case atStart => exact ⟨0, Nat.zero_le _, rfl, by unfold Hid; rfl⟩
      case round =>
        obtain ⟨k, hk, rfl, ha⟩ := hrel
        by_cases hlt : k < s.size
        · have HS := Lib.hid (cellsL_snoc s k hlt)
          by_cases hc : isCell s[k] = true
          · have hc2 := (isCell_iff _).1 hc
            have HC := Lib.hid hc; clear hc
            rcases hc2 with h48 | h49
            · go_wp2
              go_round
              case rel => exact ⟨k + 1, by omega, by go_num, by unfold Hid; rw [HS.out, ha.out, HC.out]; rfl⟩
              case measure => simp [intOf]; omega
            · go_wp2
              go_round
              case rel => exact ⟨k + 1, by omega, by go_num, by unfold Hid; rw [HS.out, ha.out, HC.out]; rfl⟩
              case measure => simp [intOf]; omega
          · have hc0 : isCell s[k] = false := by simpa using hc
            have hr : ¬ (s[k].toNat = 48 ∨ s[k].toNat = 49) := by rw [← isCell_iff]; simp [hc0]
            have HN := Lib.hid (cellsL_no s k hlt hc0)
            clear hc hc0
            have b48 : ((s[k].toNat : Int) != 48) = true := by simp; omega
            have b49 : ((s[k].toNat : Int) != 49) = true := by simp; omega
            clear hr
            go_wp2
            go_ret
            refine ⟨ret_bool ?_, rfl⟩
            unfold validCells; rw [HN.out]; rfl
        · go_wp2
          go_ret
          have e := take_ge' s k (by omega)
          refine ⟨ret_bool ?_, rfl⟩
          unfold validCells; rw [← e, ha.out, inB_true (by omega) (by omega)]; rfl
end Go.Proofs.Ytidedgcmpkahgaa
