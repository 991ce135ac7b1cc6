/- impl.FluxOfTimes, spec.FluxOfTimes -/
import Derived.Test.YtoehejikohicfaaSpecMake
namespace Go.Proofs.Ytoehejikohicfaa
open Go.RowKit
set_option linter.unusedVariables false
set_option maxHeartbeats 4000000 in
theorem fluxOfTimes_any (a : Option Addr) (cap : Nat) (ts : List Int) (rev c : Int) (hl : ts.length ≤ 1048576) (w : World) (h : SlA w a ts) :
    Calls Try.prog 6 #[.slice a ts.length cap, .int .i64 rev, .int .i64 c] w (FluxRes (mkVal c ts rev 1) w) := by
  have c1 := fun w' (hb : Below w.heap.size w w') => readingFlux_any c 0 none 0 0 a ts cap rev 1 w' hl (h.below hb (Nat.le_refl _))
  generalize mkVal c ts rev 1 = fv at c1 ⊢
  obtain ⟨vc, vf, vg, vk⟩ := fv
  have C1 := Lib.hid c1; clear c1 h
  go_enter Try.func6, Try.ntmps6
  go_wp2_with fail
  refine (C1.out _ (by go_grown)).mono ?_
  rintro e w1 ⟨x, cp, rfl, hso, hb1⟩
  have R := Lib.hid (zero_start w hb1)
  have hR := R.out.2.2
  have HS := Lib.hid (show SlO w1 (w.heap.size + 1) x vg from hso.mono (by simp))
  obtain ⟨z0, z1, z2, y0, y1, y2⟩ := R.out.1.facts
  clear hb1 hso
  go_wp2
  refine bodyPost_ret (v := .tuple #[.agg #[.int .i64 vc, .int .i64 vf, .slice x vg.length cp], .int .i64 vk]) (by simp [results, Try.results6, go_sem, z0, z1, z2]) rfl ⟨x, cp, rfl, ?_, below_set3 R.out.2.1 (by omega) _ _ _⟩
  exact (HS.out.set3 _ _ _ (by omega)).mono (by omega)
end Go.Proofs.Ytoehejikohicfaa
