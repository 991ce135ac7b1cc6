/- spec.RotateFlux -/
import Derived.Test.YtfedlehibkgjbaaDoorPkFnFluxC
import Derived.Test.YtfedlehibkgjbaaDoorPkFnFluxSpecTimes
import Derived.Test.YtfedlehibkgjbaaDoorPkFnFluxSpecChanges
namespace Go.Proofs.YtfedlehibkgjbaaDoor
open Go.RowKit
set_option linter.unusedVariables false
/-- The two cells at the start: the flux that came in, and the zero flux. -/
theorem specRot_start (w : World) (c f : Int) (a : Option Addr) (n cap : Nat) {w1 : World} {W : World} (hW : (w.alloc (.cells #[.int .i64 c, .int .i64 f, .slice a n cap] 24)).alloc (.cells #[.int .i64 0, .int .i64 0, .slice none 0 0] 24) = W) (hb1 : Below W.heap.size W w1) :
    ZeroAt w1 (w.heap.size + 1) ∧ FluxAt w1 w.heap.size c f a n cap ∧ Below w.heap.size w w1 := by
  subst hW
  refine ⟨(ZeroAt.new _ (w.heap.size + 1) (by simp)).below hb1 (by simp), ((FluxAt.new w c f a n cap 24 w.heap.size rfl).below (Below.alloc (Below.refl _ _) (Nat.le_refl _) _) (by simp)).below hb1 (by simp; omega), ?_⟩
  exact Below.trans (by go_grown) (hb1.mono (by simp; omega))
end Go.Proofs.YtfedlehibkgjbaaDoor
