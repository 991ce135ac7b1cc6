/- spec.l02Rotate -/
import Derived.Test.YteldnfamfjldpacRot
namespace Go.Proofs.Yteldnfamfjldpac
open Go.RowKit
set_option linter.unusedVariables false
set_option maxHeartbeats 400000 in
theorem l02Rotate_any (s : ByteArray) (a : Int) (w : World) (h0 : 0 < s.size) (h1 : s.size ≤ 8000) :
    Calls Try.prog 30 #[.string s, .int .i64 a] w fun e w' => e = .returned (.string (rotS s (rotK a s.size))) ∧ Below w.heap.size w w' := by
  obtain ⟨b1, b2⟩ := rot_bd a s.size h0
  have hr := rotK_eq a s.size h0
  have hk := rotK_lt a s.size h0
  obtain ⟨k, hkk⟩ : ∃ k, rotK a s.size = k := ⟨_, rfl⟩
  rw [hkk] at hr hk ⊢
  clear hkk
  have e0 : (0 : Int) ≤ k := by omega
  have e1 : (k : Int) ≤ s.size := by omega
  go_enter Try.func30, Try.ntmps30
  go_wp2
  go_quiet (fail)
  go_wp2
  go_ret
  exact ⟨rfl, below_drewN (Below.refl _ _) _⟩
end Go.Proofs.Yteldnfamfjldpac
