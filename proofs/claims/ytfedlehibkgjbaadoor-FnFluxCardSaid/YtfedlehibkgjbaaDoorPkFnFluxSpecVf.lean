/- spec.ValidFlux -/
import Derived.Test.YtfedlehibkgjbaaDoorPkFnFluxA
import Derived.Test.YtfedlehibkgjbaaDoorPkFnFluxLawFlux
namespace Go.Proofs.YtfedlehibkgjbaaDoor
open Go.RowKit
set_option linter.unusedVariables false
set_option maxHeartbeats 400000 in
theorem specValidFlux_f (c f : Int) (a : Option Addr) (zs : List Int) (d : Nat) (w : World) (hl : zs.length ≤ 1048576) (h : SlA w a zs) :
    Calls Tryd.prog 15 #[.agg #[.int .i64 c, .int .i64 f, .slice a zs.length d]] w fun e w' => e = .returned (.bool (fluxOk c f zs)) ∧ Below w.heap.size w w' := by
  have hc := fun w' (hb : Below w.heap.size w w') (hf : FluxAt w' w.heap.size c f a zs.length d) => l02Ok_any w.heap.size c f a zs d w' hl hf (h.below hb (Nat.le_refl _))
  have HC := Lib.hid hc; clear hc h
  go_enter Tryd.func15, Tryd.ntmps15
  go_wp2_with fail
  refine (HC.out _ (by go_grown) ⟨by simp [go_sem], by simp [go_sem], by simp [go_sem]⟩).mono ?_
  rintro e w1 ⟨rfl, hb⟩
  go_wp2
  go_ret
  exact ⟨rfl, Below.trans (by go_grown) (hb.mono (by simp))⟩
end Go.Proofs.YtfedlehibkgjbaaDoor
