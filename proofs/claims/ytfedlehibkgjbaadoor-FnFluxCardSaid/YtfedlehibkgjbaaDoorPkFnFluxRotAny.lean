/- impl.RotateFlux: the contract. -/
import Derived.Test.YtfedlehibkgjbaaDoorPkFnFluxRotYes
namespace Go.Proofs.YtfedlehibkgjbaaDoor
open Go.RowKit
set_option linter.unusedVariables false
theorem rotateFlux_any (c f : Int) (a : Option Addr) (cap : Nat) (zs : List Int) (b : Int) (hcap : zs.length ≤ cap) (hl : zs.length ≤ 1048576) (w : World) (h : SlA w a zs) :
    Calls Tryd.prog 19 #[.agg #[.int .i64 c, .int .i64 f, .slice a zs.length cap], .int .i64 b] w (FluxRes (rotVal c f zs b) w) := by
  by_cases hv : fluxOk c f zs = true
  · by_cases hn : inB 0 (zs.sum - 1) b = true
    · exact callsIn_wide.1 (rotateFlux_yes_in c f a cap zs b hl hv hn hcap w h)
    · have e : rotVal c f zs b = .none 2 := by unfold rotVal; rw [if_pos hv, if_neg hn]
      rw [e]; exact rotateFlux_no2 c f a cap zs b hl hv (by simpa using hn) w h
  · have e : rotVal c f zs b = .none 1 := by unfold rotVal; rw [if_neg hv]
    rw [e]; exact rotateFlux_no1 c f a cap zs b hl (by simpa using hv) w h
end Go.Proofs.YtfedlehibkgjbaaDoor
