/- impl.StartClock, spec.StartClock -/
import Derived.Test.YtdoledckkbcihaaPlainClock
import Derived.Test.YtdoledckkbcihaaBoxes
namespace Go.Proofs.Ytdoledckkbcihaa
open Go.RowKit
set_option linter.unusedVariables false
set_option maxHeartbeats 1000000 in
theorem startClock_any (c l h p s : Int) (w : World) :
    Calls Try.prog 128 #[.agg #[.int .i64 c, .int .i64 l, .int .i64 h, .int .i64 p, .int .i64 s]] w (LckRes (startPer c l h p s) 0 (startCode c l h p s) w) := by
  have c1 := fun w => validClock_any c l h p s w
  have hcc : clockOk c l h p s = true → 4 ≤ c ∧ c ≤ 200 := fun h => (clockOk_iff.1 h).1
  unfold startPer startCode
  generalize clockOk c l h p s = q at c1 hcc
  have C1 := Lib.hid c1; clear c1
  cases q
  · clear hcc
    go_enter Try.func128, Try.ntmps128
    go_wp2_with fail
    refine (C1.out _).mono ?_
    rintro e w1 ⟨rfl, hb⟩
    have hz := hb.size
    obtain ⟨hc, hf⟩ := bcell hb
    have x0 : w1.cell? ⟨w.heap.size + 1, 0, none⟩ = some (.int .i64 0) := by rw [hc _ _ (by simp)]; simp [go_sem]
    have x1 : w1.cell? ⟨w.heap.size + 1, 1, none⟩ = some (.int .i64 0) := by rw [hc _ _ (by simp)]; simp [go_sem]
    have y : ∀ o, w1.frozen? ⟨w.heap.size + 1, o, none⟩ = false := fun o => by rw [hf _ _ (by simp)]; simp [go_sem]
    have y0 := y 0; have y1 := y 1
    have HB := Lib.hid hb
    clear hc hf y hb
    go_wp2
    refine bodyPost_ret (v := .tuple #[.agg #[.int .i64 0, .int .i64 0], .int .i64 1]) (by simp [results, Try.results128, go_sem, x0, x1]) rfl ⟨rfl, ?_⟩
    have hB : Below w.heap.size w w1 := Below.trans (by go_grown) (HB.out.mono (by simp; omega))
    exact (hB.setCell (by simp) _).setCell (by simp) _
  · obtain ⟨b1, b2⟩ := hcc rfl
    clear hcc
    go_enter Try.func128, Try.ntmps128
    go_wp2_with fail
    refine (C1.out _).mono ?_
    rintro e w1 ⟨rfl, hb⟩
    have hz := hb.size
    obtain ⟨hc, hf⟩ := bcell hb
    have x0 : w1.cell? ⟨w.heap.size + 1, 0, none⟩ = some (.int .i64 0) := by rw [hc _ _ (by simp)]; simp [go_sem]
    have x1 : w1.cell? ⟨w.heap.size + 1, 1, none⟩ = some (.int .i64 0) := by rw [hc _ _ (by simp)]; simp [go_sem]
    have z0 : w1.cell? ⟨w.heap.size, 0, none⟩ = some (.int .i64 c) := by rw [hc _ _ (by simp; omega)]; simp [go_sem]
    have y : ∀ o, w1.frozen? ⟨w.heap.size + 1, o, none⟩ = false := fun o => by rw [hf _ _ (by simp)]; simp [go_sem]
    have y0 := y 0; have y1 := y 1
    have HB := Lib.hid hb
    clear hc hf y hb
    go_wp2
    refine bodyPost_ret (v := .tuple #[.agg #[.int .i64 (c * 64), .int .i64 0], .int .i64 0]) (by simp [results, Try.results128, go_sem, x0, x1]) rfl ⟨rfl, ?_⟩
    have hB : Below w.heap.size w w1 := Below.trans (by go_grown) (HB.out.mono (by simp; omega))
    exact (hB.setCell (by simp) _).setCell (by simp) _
set_option maxHeartbeats 1000000 in
theorem l03Start_any (c l h p s : Int) (w : World) (b1 : 4 ≤ c) (b2 : c ≤ 200) :
    Calls Try.prog 107 #[.agg #[.int .i64 c, .int .i64 l, .int .i64 h, .int .i64 p, .int .i64 s]] w fun e w' => e = .returned (.agg #[.int .i64 (c * 64), .int .i64 0]) ∧ Below w.heap.size w w' := by
  go_enter Try.func107, Try.ntmps107
  go_wp2
  refine bodyPost_ret (v := .agg #[.int .i64 (c * 64), .int .i64 0]) (by simp [results, Try.results107, go_sem]) rfl ⟨rfl, ?_⟩
  go_grown
end Go.Proofs.Ytdoledckkbcihaa
