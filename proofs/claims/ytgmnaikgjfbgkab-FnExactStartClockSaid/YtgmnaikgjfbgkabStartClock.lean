/- impl.StartClock, spec.StartClock -/
import Derived.Test.YtgmnaikgjfbgkabPlainClock
import Derived.Test.YtgmnaikgjfbgkabBoxes
namespace Go.Proofs.Ytgmnaikgjfbgkab
open Go.RowKit
set_option linter.unusedVariables false
set_option maxHeartbeats 1000000 in
theorem startClock_any (c l h p s : Int) (w : World) :
    Calls Try.prog 21 #[.agg #[.int .i64 c, .int .i64 l, .int .i64 h, .int .i64 p, .int .i64 s]] w (LckRes (startPer c l h p s) 0 (startCode c l h p s) w) := by
  have c1 := fun w => validClock_any c l h p s w
  have hcc : clockOk c l h p s = true → 4 ≤ c ∧ c ≤ 200 := fun h => (clockOk_iff.1 h).1
  unfold startPer startCode
  generalize clockOk c l h p s = q at c1 hcc
  have C1 := Lib.hid c1; clear c1
  cases q
  · clear hcc
    go_enter Try.func21, Try.ntmps21
    go_wp2_with fail
    refine (C1.out _).mono ?_
    rintro e w1 ⟨rfl, hb⟩
    have hz := hb.size
    obtain ⟨hc, hf⟩ := bcell hb
    have x0 : w1.cell? ⟨w.heap.size + 1, 0, none⟩ = some (.int .i64 0) := by rw [hc _ _ (by simp)]; simp [go_sem]
    have x1 : w1.cell? ⟨w.heap.size + 1, 1, none⟩ = some (.int .i64 0) := by rw [hc _ _ (by simp)]; simp [go_sem]
    have y : ∀ o, w1.frozen? ⟨w.heap.size + 1, o, none⟩ = false := fun o => by rw [hf _ _ (by simp)]; simp [go_sem]
    have y0 := y 0; have y1 := y 1
    have HB := Lib.hid hb
    clear hc hf y hb
    go_wp2
    refine bodyPost_ret (v := .tuple #[.agg #[.int .i64 0, .int .i64 0], .int .i64 1]) (by simp [results, Try.results21, go_sem, x0, x1]) rfl ⟨rfl, ?_⟩
    have hB : Below w.heap.size w w1 := Below.trans (by go_grown) (HB.out.mono (by simp; omega))
    exact (hB.setCell (by simp) _).setCell (by simp) _
  · obtain ⟨b1, b2⟩ := hcc rfl
    clear hcc
    go_enter Try.func21, Try.ntmps21
    go_wp2_with fail
    refine (C1.out _).mono ?_
    rintro e w1 ⟨rfl, hb⟩
    have hz := hb.size
    obtain ⟨hc, hf⟩ := bcell hb
    have x0 : w1.cell? ⟨w.heap.size + 1, 0, none⟩ = some (.int .i64 0) := by rw [hc _ _ (by simp)]; simp [go_sem]
    have x1 : w1.cell? ⟨w.heap.size + 1, 1, none⟩ = some (.int .i64 0) := by rw [hc _ _ (by simp)]; simp [go_sem]
    have z0 : w1.cell? ⟨w.heap.size, 0, none⟩ = some (.int .i64 c) := by rw [hc _ _ (by simp; omega)]; simp [go_sem]
    have y : ∀ o, w1.frozen? ⟨w.heap.size + 1, o, none⟩ = false := fun o => by rw [hf _ _ (by simp)]; simp [go_sem]
    have y0 := y 0; have y1 := y 1
    have HB := Lib.hid hb
    clear hc hf y hb
    go_wp2
    refine bodyPost_ret (v := .tuple #[.agg #[.int .i64 (c * 64), .int .i64 0], .int .i64 0]) (by simp [results, Try.results21, go_sem, x0, x1]) rfl ⟨rfl, ?_⟩
    have hB : Below w.heap.size w w1 := Below.trans (by go_grown) (HB.out.mono (by simp; omega))
    exact (hB.setCell (by simp) _).setCell (by simp) _
set_option maxHeartbeats 1000000 in
theorem l03Start_any (c l h p s : Int) (w : World) (b1 : 4 ≤ c) (b2 : c ≤ 200) :
    Calls Try.prog 53 #[.agg #[.int .i64 c, .int .i64 l, .int .i64 h, .int .i64 p, .int .i64 s]] w fun e w' => e = .returned (.agg #[.int .i64 (c * 64), .int .i64 0]) ∧ Below w.heap.size w w' := by
  go_enter Try.func53, Try.ntmps53
  go_wp2
  refine bodyPost_ret (v := .agg #[.int .i64 (c * 64), .int .i64 0]) (by simp [results, Try.results53, go_sem]) rfl ⟨rfl, ?_⟩
  go_grown
set_option maxHeartbeats 1000000 in
theorem specStartClock_any (c l h p s : Int) (w : World) :
    Calls Try.prog 20 #[.agg #[.int .i64 c, .int .i64 l, .int .i64 h, .int .i64 p, .int .i64 s]] w (LckRes (startPer c l h p s) 0 (startCode c l h p s) w) := by
  have c1 := fun w => l03Ok_any c l h p s w
  have hcc : clockOk c l h p s = true → 4 ≤ c ∧ c ≤ 200 := fun h => (clockOk_iff.1 h).1
  unfold startPer startCode
  generalize clockOk c l h p s = q at c1 hcc
  have C1 := Lib.hid c1; clear c1
  cases q
  · clear hcc
    go_enter Try.func20, Try.ntmps20
    go_wp2_with fail
    refine (C1.out _).mono ?_
    rintro e w1 ⟨rfl, hb⟩
    have hz := hb.size
    obtain ⟨hc, hf⟩ := bcell hb
    have x0 : w1.cell? ⟨w.heap.size + 1, 0, none⟩ = some (.int .i64 0) := by rw [hc _ _ (by simp)]; simp [go_sem]
    have x1 : w1.cell? ⟨w.heap.size + 1, 1, none⟩ = some (.int .i64 0) := by rw [hc _ _ (by simp)]; simp [go_sem]
    have y : ∀ o, w1.frozen? ⟨w.heap.size + 1, o, none⟩ = false := fun o => by rw [hf _ _ (by simp)]; simp [go_sem]
    have y0 := y 0; have y1 := y 1
    have HB := Lib.hid hb
    clear hc hf y hb
    go_wp2
    refine bodyPost_ret (v := .tuple #[.agg #[.int .i64 0, .int .i64 0], .int .i64 1]) (by simp [results, Try.results20, go_sem, x0, x1]) rfl ⟨rfl, ?_⟩
    have hB : Below w.heap.size w w1 := Below.trans (by go_grown) (HB.out.mono (by simp; omega))
    exact (hB.setCell (by simp) _).setCell (by simp) _
  · obtain ⟨b1, b2⟩ := hcc rfl
    clear hcc
    have C2 := Lib.hid (fun w => l03Start_any c l h p s w b1 b2)
    go_enter Try.func20, Try.ntmps20
    go_wp2_with fail
    refine (C1.out _).mono ?_
    rintro e w1 ⟨rfl, hb⟩
    have hz := hb.size
    obtain ⟨hc, hf⟩ := bcell hb
    have z : ∀ i v, #[Value.int .i64 c, .int .i64 l, .int .i64 h, .int .i64 p, .int .i64 s][i]? = some v → w1.cell? ⟨w.heap.size, i, none⟩ = some v := fun i v hv => by rw [hc _ _ (by simp; omega)]; exact ((BoxAt.new w _ 25 _ rfl).alloc _ (by simp)) i v hv
    have z0 := z 0 _ rfl; have z1 := z 1 _ rfl; have z2 := z 2 _ rfl; have z3 := z 3 _ rfl; have z4 := z 4 _ rfl
    have x0 : w1.cell? ⟨w.heap.size + 1, 0, none⟩ = some (.int .i64 0) := by rw [hc _ _ (by simp)]; simp [go_sem]
    have x1 : w1.cell? ⟨w.heap.size + 1, 1, none⟩ = some (.int .i64 0) := by rw [hc _ _ (by simp)]; simp [go_sem]
    have y : ∀ o, w1.frozen? ⟨w.heap.size + 1, o, none⟩ = false := fun o => by rw [hf _ _ (by simp)]; simp [go_sem]
    have HB := Lib.hid hb
    have Y := Lib.hid y
    clear hc hf y hb z
    go_wp2_with fail
    refine (C2.out _).mono ?_
    rintro e w2 ⟨rfl, hb2⟩
    obtain ⟨hc, hf⟩ := bcell hb2
    have X0 : w2.cell? ⟨w.heap.size + 1, 0, none⟩ = some (.int .i64 0) := by rw [hc _ _ (by simp at hz; omega)]; exact x0
    have X1 : w2.cell? ⟨w.heap.size + 1, 1, none⟩ = some (.int .i64 0) := by rw [hc _ _ (by simp at hz; omega)]; exact x1
    have y : ∀ o, w2.frozen? ⟨w.heap.size + 1, o, none⟩ = false := fun o => by rw [hf _ _ (by simp at hz; omega)]; exact Y.out o
    have y0 := y 0; have y1 := y 1
    have HB2 := Lib.hid hb2
    clear hc hf y hb2 z0 z1 z2 z3 z4 x0 x1
    go_wp2
    refine bodyPost_ret (v := .tuple #[.agg #[.int .i64 (c * 64), .int .i64 0], .int .i64 0]) (by simp [results, Try.results20, go_sem, X0, X1]) rfl ⟨rfl, ?_⟩
    have hB : Below w.heap.size w w2 := (Below.trans (by go_grown) (HB.out.mono (by simp; omega))).trans (HB2.out.mono (by simp at hz; omega))
    exact (hB.setCell (by simp) _).setCell (by simp) _
end Go.Proofs.Ytgmnaikgjfbgkab
