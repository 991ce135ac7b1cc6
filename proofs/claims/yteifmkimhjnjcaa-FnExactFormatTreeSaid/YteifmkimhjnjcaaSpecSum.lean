/- spec.Sum16. -/
import Derived.Test.YteifmkimhjnjcaaSum
namespace Go.Proofs.Yteifmkimhjnjcaa
open Go.RowKit
set_option linter.unusedVariables false
set_option maxHeartbeats 400000 in
theorem specSum16 (s : ByteArray) (w : World) (hs : s.size ≤ 1048576) :
    Calls Try.prog 16 #[.string s] w fun e w' => e = .returned (.int .i64 ((sumL s.data.toList % 65536 : Nat) : Int)) ∧ w = w' := by
  go_enter Try.func16, Try.ntmps16
  go_wp2
  go_loop [3, 4] (fun n i => ∃ k : Nat, k ≤ s.size ∧ i = .int .i64 k ∧ ∃ m : Nat, n = .int .i64 m ∧ m ≤ 255 * k ∧ Hid (m = sumL (s.data.toList.take k))) (fun _ i => s.size - (intOf i).toNat)
  case atStart => exact ⟨0, Nat.zero_le _, rfl, 0, rfl, by omega, by unfold Hid; rfl⟩
  case round =>
    obtain ⟨k, hk, rfl, m, rfl, hm, hd⟩ := hrel
    by_cases hlt : k < s.size
    · have hx := (s[k]).toNat_lt
      have hts := Lib.hid (take_snoc s k hlt)
      go_wp2
      go_round
      case rel =>
        refine ⟨k + 1, by omega, by go_num, m + (s[k]).toNat, by go_num, by omega, ?_⟩
        unfold Hid; rw [hts.out, sumL_snoc, hd.out]
      case measure => simp [intOf]; omega
    · go_wp2
      go_ret
      have e := take_ge s k (by omega)
      refine ⟨ret_int ?_, rfl⟩
      rw [hd.out, e]
end Go.Proofs.Yteifmkimhjnjcaa
