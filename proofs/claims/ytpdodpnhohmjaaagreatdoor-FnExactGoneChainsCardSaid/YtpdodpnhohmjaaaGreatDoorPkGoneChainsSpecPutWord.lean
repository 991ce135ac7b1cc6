/- spec.PutWord -/
import Derived.Test.YtpdodpnhohmjaaaGreatDoorPkGoneChainsC
namespace Go.Proofs.YtpdodpnhohmjaaaGreatDoor
open Go.RowKit
set_option maxRecDepth 20000
set_option linter.unusedVariables false
set_option maxHeartbeats 400000 in
theorem l01Word_any (n : Int) (w : World) (h0 : 0 ≤ n) (h1 : n ≤ 65535) :
    Calls Tryz.prog 78 #[.int .i64 n] w fun e w' => e = .returned (.string (wordBytes n)) ∧ Below w.heap.size w w' := by
  have hcv := conv_new2 w (n / 256) (n % 256) (by omega) (by omega) (by omega) (by omega)
  go_enter Tryz.func78, Tryz.ntmps78
  go_wp2
  go_ret
  exact ⟨rfl, (Below.refl _ _).alloc (Nat.le_refl _) _⟩
set_option maxHeartbeats 400000 in
theorem specPutWord_yes (n : Int) (w : World) (h0 : 0 ≤ n) (h1 : n ≤ 65535) :
    Calls Tryz.prog 51 #[.int .i64 n] w fun e w' => e = .returned (.string (wordBytes n)) ∧ Below w.heap.size w w' := by
  have hin : inB 0 65535 n = true := by rw [inB_iff]; omega
  go_enter Tryz.func51, Tryz.ntmps51
  go_wp2_with (first | (go_at_call 38; refine (l00In_any _ _ _ _).mono ?_; rintro e w' ⟨rfl, rfl⟩) | (go_at_call 78; refine (l01Word_any _ _ h0 h1).mono ?_; rintro e w1 ⟨rfl, hb⟩))
  go_ret
  exact ⟨rfl, hb⟩
set_option maxHeartbeats 400000 in
theorem specPutWord_no (n : Int) (w : World) (h : inB 0 65535 n = false) :
    Calls Tryz.prog 51 #[.int .i64 n] w fun e w' => e = .returned (.string ⟨#[]⟩) ∧ Below w.heap.size w w' := by
  go_enter Tryz.func51, Tryz.ntmps51
  go_wp2_with (go_at_call 38; refine (l00In_any _ _ _ _).mono ?_; rintro e w' ⟨rfl, rfl⟩)
  go_ret
  exact ⟨rfl, Below.refl _ _⟩
end Go.Proofs.YtpdodpnhohmjaaaGreatDoor
