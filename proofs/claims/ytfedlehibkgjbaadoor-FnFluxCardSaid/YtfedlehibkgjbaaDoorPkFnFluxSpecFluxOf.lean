/- spec.l02Ones, spec.l02Flux, spec.FluxOf -/
import Derived.Test.YtfedlehibkgjbaaDoorPkFnFluxSpecTimes
import Derived.Test.YtfedlehibkgjbaaDoorPkFnFluxB
import Derived.Test.YtfedlehibkgjbaaDoorPkFnFluxSpecValidCells
namespace Go.Proofs.YtfedlehibkgjbaaDoor
open Go.RowKit
set_option linter.unusedVariables false
def L02FluxPost (c f : Int) (zs : List Int) (w : World) (e : Ending) (w' : World) : Prop :=
  ∃ a' cap, e = .returned (.agg #[.int .i64 c, .int .i64 f, .slice a' zs.length cap]) ∧ SlO w' w.heap.size a' zs ∧ Below w.heap.size w w'
theorem fluxOf_any (s : ByteArray) (cell : Int) (w : World) (hs : s.size ≤ 1048576) :
    Calls Tryd.prog 12 #[.string s, .int .i64 cell] w (FluxRes (fluxOfVal s cell) w) := by
  by_cases hv : validCells s = true ∧ inB 4 200 cell = true
  · exact fluxOf_yes s cell w hv.1 hv.2
  · have e : fluxOfVal s cell = .none 1 := by unfold fluxOfVal; rw [if_neg hv]
    rw [e]; exact fluxOf_no s cell w hs hv
end Go.Proofs.YtfedlehibkgjbaaDoor
