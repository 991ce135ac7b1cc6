/- impl.isPlace, impl.around, impl.SliceCells, impl.CellsBetween -/
import Derived.Test.YtpgcmgbflcdjiaaArcOf
namespace Go.Proofs.Ytpgcmgbflcdjiaa
open Go.RowKit
set_option linter.unusedVariables false
set_option maxHeartbeats 400000 in
theorem isPlace_any (n total : Int) (w : World) (h0 : -9223372036854775808 < total) (h1 : total ≤ 9223372036854775807) :
    Calls Try.prog 40 #[.int .i64 n, .int .i64 total] w fun e w' => e = .returned (.bool (inB 0 (total - 1) n)) ∧ Below w.heap.size w w' := by
  go_enter Try.func40, Try.ntmps40
  go_wp2_with (go_at_call 51; refine (within_at _ _ _ _ _ _ (by simp)).mono ?_; rintro e w' ⟨rfl, rfl⟩)
  go_ret
  exact ⟨rfl, (Below.refl _ _).alloc (Nat.le_refl _) _⟩
theorem within_b (lo hi n : Int) (w : World) (T : TypeId) (b : Nat) (hb : w.heap.size = b) :
    Calls Try.prog 51 #[.int .i64 lo, .int .i64 hi, .slice (some ⟨b, 0, none⟩) 1 1] (w.alloc (.cells #[.int .i64 n] T)) fun e w' => e = .returned (.bool (inB lo hi n)) ∧ Below w.heap.size w w' :=
  (within_at lo hi n w T b hb).mono fun e w' ⟨he, hw⟩ => ⟨he, by rw [← hw]; exact (Below.refl _ _).alloc (Nat.le_refl _) _⟩
end Go.Proofs.Ytpgcmgbflcdjiaa
