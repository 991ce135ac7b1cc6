/- impl.clamp, (impl.Clock).bounded, keepAll, keepRest, phase -/
import Derived.Test.YtdoledckkbcihaaStepVal
import Derived.Test.YtdoledckkbcihaaBoxF
import Derived.Test.YtdoledckkbcihaaStartClock
import Derived.IntWalk
import Derived.Deep.RegionHeld3
import Derived.Deep.RegionLaw
import Derived.BigRegion
namespace Go.Proofs.Ytdoledckkbcihaa
open Go.RowKit
set_option linter.unusedVariables false
set_option linter.unusedSimpArgs false
set_option maxRecDepth 20000
theorem clamp_any (x lo hi : Int) (w : World) : Calls Try.prog 143 #[.int .i64 x, .int .i64 lo, .int .i64 hi] w fun e w' => e = .returned (.int .i64 (clampI x lo hi)) ∧ w = w' := by
  unfold clampI
  go_enter Try.func143, Try.ntmps143
  go_wp2
  all_goals
    go_ret
    exact ⟨ret_int (by first | rfl | omega | (rename_i h8 h9; split at h8 <;> omega)), rfl⟩
theorem keepAll_any (x : Int) (w : World) : Calls Try.prog 141 #[.int .i64 x] w fun e w' => e = .returned (.int .i64 x) ∧ w = w' := by
  go_enter Try.func141, Try.ntmps141
  go_wp2
  go_ret
  exact ⟨rfl, rfl⟩
set_option maxHeartbeats 1000000 in
theorem keepRest_any (c l h p s x : Int) (w : World) (hp : 1 ≤ p) (x1 : -60000 ≤ x) (x2 : x ≤ 60000) : Calls Try.prog 142 #[.agg #[.int .i64 c, .int .i64 l, .int .i64 h, .int .i64 p, .int .i64 s], .int .i64 x] w fun e w' => e = .returned (.int .i64 (x - x.tdiv p)) ∧ Below w.heap.size w w' := by
  have hb := tdiv_bd hp (e := x) (by omega) (by omega)
  have h0 : ¬ p = 0 := by omega
  have hw1 : IntKind.i64.wrap (x.tdiv p) = x.tdiv p := IntWalk.i64_in _ (by omega)
  have hw2 : IntKind.i64.wrap (x - x.tdiv p) = x - x.tdiv p := IntWalk.i64_in _ (by omega)
  go_enter Try.func142, Try.ntmps142
  go_wp2
  go_ret
  exact ⟨ret_int (by first | rfl | exact hw2 | omega), by go_grown⟩
set_option maxHeartbeats 1000000 in
theorem bounded_any (c l h p s P o : Int) (w : World) (l1 : 2 ≤ l) (l2 : l ≤ 400) (h1 : 2 ≤ h) (h2 : h ≤ 400) : Calls Try.prog 139 #[.agg #[.int .i64 c, .int .i64 l, .int .i64 h, .int .i64 p, .int .i64 s], .agg #[.int .i64 P, .int .i64 o]] w fun e w' => e = .returned (.agg #[.int .i64 (clampI P (l * 64) (h * 64)), .int .i64 (clampI o (-(clampI P (l * 64) (h * 64))) (clampI P (l * 64) (h * 64)))]) ∧ Below w.heap.size w w' := by
  have C1 := Lib.hid (fun w => clamp_any P (l * 64) (h * 64) w)
  have hq1 : 0 ≤ clampI P (l * 64) (h * 64) := by unfold clampI; omega
  have hq2 : clampI P (l * 64) (h * 64) ≤ 25600 := by unfold clampI; omega
  generalize clampI P (l * 64) (h * 64) = q at *
  have C2 := Lib.hid (fun w => clamp_any o (-q) q w)
  generalize clampI o (-q) q = z at *
  go_enter Try.func139, Try.ntmps139
  go_wp2_with fail
  refine (C1.out _).mono ?_
  rintro e _ ⟨rfl, rfl⟩
  go_wp2_with fail
  refine (C2.out _).mono ?_
  rintro e _ ⟨rfl, rfl⟩
  go_wp2
  refine bodyPost_ret (v := .agg #[.int .i64 q, .int .i64 z]) (by simp [results, Try.results139, go_sem]) rfl ⟨rfl, ?_⟩
  go_grown
/-- The function that c.phase() gives. -/
def phaseF (c l h p s : Int) : Value := if p = 0 then .func (.func 141) #[] #[] else .func (.func 142) #[.agg #[.int .i64 c, .int .i64 l, .int .i64 h, .int .i64 p, .int .i64 s]] #[]
set_option maxHeartbeats 1000000 in
theorem phase_any (c l h p s : Int) (w : World) : Calls Try.prog 138 #[.agg #[.int .i64 c, .int .i64 l, .int .i64 h, .int .i64 p, .int .i64 s]] w fun e w' => e = .returned (phaseF c l h p s) ∧ Below w.heap.size w w' := by
  unfold phaseF
  by_cases h0 : p = 0
  · have hb : (p == 0) = true := by simp [h0]
    rw [if_pos h0]
    go_enter Try.func138, Try.ntmps138
    go_wp2
    go_ret
    exact ⟨rfl, by go_grown⟩
  · have hb : (p == 0) = false := by simp [h0]
    rw [if_neg h0]
    go_enter Try.func138, Try.ntmps138
    go_wp2
    go_ret
    exact ⟨rfl, by go_grown⟩
end Go.Proofs.Ytdoledckkbcihaa
