/- impl.PutWord -/
import Derived.Test.YthcbekfgkbhpeaaDoorPkChainFromA
import Derived.Test.YthcbekfgkbhpeaaDoorPkChainFromConv
namespace Go.Proofs.YthcbekfgkbhpeaaDoor
open Go.RowKit
set_option maxRecDepth 20000
set_option linter.unusedVariables false
def wordBytes (n : Int) : ByteArray := ⟨#[(n / 256).toNat.toUInt8, (n % 256).toNat.toUInt8]⟩
set_option maxHeartbeats 400000 in
theorem putWord_yes (n : Int) (w : World) (h0 : 0 ≤ n) (h1 : n ≤ 65535) :
    Calls Tryd.prog 63 #[.int .i64 n] w fun e w' => e = .returned (.string (wordBytes n)) ∧ Below w.heap.size w w' := by
  have hin : inB 0 65535 n = true := by rw [inB_iff]; omega
  have hcv := conv_new2 (w.alloc (.cells #[.int .i64 n] 2)) (n / 256) (n % 256) (by omega) (by omega) (by omega) (by omega)
  simp only [World.size_alloc] at hcv
  go_enter Tryd.func63, Tryd.ntmps63
  go_wp2_with (go_at_call 37; refine (within_new _ _ _ _ _).mono ?_; rintro e w' ⟨rfl, rfl⟩)
  go_ret
  exact ⟨rfl, ((Below.refl _ _).alloc (Nat.le_refl _) _).alloc (by simp) _⟩
set_option maxHeartbeats 400000 in
theorem putWord_no (n : Int) (w : World) (h : inB 0 65535 n = false) :
    Calls Tryd.prog 63 #[.int .i64 n] w fun e w' => e = .returned (.string ⟨#[]⟩) ∧ Below w.heap.size w w' := by
  go_enter Tryd.func63, Tryd.ntmps63
  go_wp2_with (go_at_call 37; refine (within_new _ _ _ _ _).mono ?_; rintro e w' ⟨rfl, rfl⟩)
  go_ret
  exact ⟨rfl, (Below.refl _ _).alloc (Nat.le_refl _) _⟩
end Go.Proofs.YthcbekfgkbhpeaaDoor
