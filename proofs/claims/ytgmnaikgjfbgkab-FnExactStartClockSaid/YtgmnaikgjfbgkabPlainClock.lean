/- impl.PlainClock, spec.PlainClock, impl.StartClock, spec.StartClock -/
import Derived.Test.YtgmnaikgjfbgkabClockOk
namespace Go.Proofs.Ytgmnaikgjfbgkab
open Go.RowKit
set_option linter.unusedVariables false
def ClkRes (c l h p s code : Int) (w : World) (e : Ending) (w' : World) : Prop :=
  e = .returned (.tuple #[.agg #[.int .i64 c, .int .i64 l, .int .i64 h, .int .i64 p, .int .i64 s], .int .i64 code]) ∧ Below w.heap.size w w'
def LckRes (p o code : Int) (w : World) (e : Ending) (w' : World) : Prop :=
  e = .returned (.tuple #[.agg #[.int .i64 p, .int .i64 o], .int .i64 code]) ∧ Below w.heap.size w w'
/-- The cell of a plain clock, and its code. -/
def plainCell (n : Int) : Int := if inB 4 200 n = true then n else 0
def plainCode (n : Int) : Int := if inB 4 200 n = true then 0 else 2
def startPer (c l h p s : Int) : Int := if clockOk c l h p s = true then c * 64 else 0
def startCode (c l h p s : Int) : Int := if clockOk c l h p s = true then 0 else 1
set_option maxHeartbeats 1000000 in
theorem plainClock_any (n : Int) (w : World) :
    Calls Try.prog 18 #[.int .i64 n] w (ClkRes (plainCell n) (plainCell n) (plainCell n) 0 0 (plainCode n) w) := by
  have c1 := fun w b T hb => within_at 4 200 n w T b hb
  unfold plainCell plainCode
  generalize inB 4 200 n = q at c1
  have C1 := Lib.hid c1; clear c1
  cases q
  · go_enter Try.func18, Try.ntmps18
    go_wp2_with (go_at_call 50; refine (C1.out _ _ _ (by simp)).mono ?_; rintro e w' ⟨rfl, rfl⟩)
    refine bodyPost_ret (v := .tuple #[.agg #[.int .i64 0, .int .i64 0, .int .i64 0, .int .i64 0, .int .i64 0], .int .i64 2]) (by simp [results, Try.results18, go_sem]) rfl ⟨rfl, ?_⟩
    go_grown
  · go_enter Try.func18, Try.ntmps18
    go_wp2_with (go_at_call 50; refine (C1.out _ _ _ (by simp)).mono ?_; rintro e w' ⟨rfl, rfl⟩)
    refine bodyPost_ret (v := .tuple #[.agg #[.int .i64 n, .int .i64 n, .int .i64 n, .int .i64 0, .int .i64 0], .int .i64 0]) (by simp [results, Try.results18, go_sem]) rfl ⟨rfl, ?_⟩
    go_grown
set_option maxHeartbeats 1000000 in
theorem l03Plain_any (n : Int) (w : World) :
    Calls Try.prog 52 #[.int .i64 n] w fun e w' => e = .returned (.agg #[.int .i64 n, .int .i64 n, .int .i64 n, .int .i64 0, .int .i64 0]) ∧ Below w.heap.size w w' := by
  go_enter Try.func52, Try.ntmps52
  go_wp2
  refine bodyPost_ret (v := .agg #[.int .i64 n, .int .i64 n, .int .i64 n, .int .i64 0, .int .i64 0]) (by simp [results, Try.results52, go_sem]) rfl ⟨rfl, ?_⟩
  go_grown
set_option maxHeartbeats 1000000 in
theorem specPlainClock_any (n : Int) (w : World) :
    Calls Try.prog 17 #[.int .i64 n] w (ClkRes (plainCell n) (plainCell n) (plainCell n) 0 0 (plainCode n) w) := by
  have c1 := fun w => l00In_any n 4 200 w
  have C2 := Lib.hid (fun w => l03Plain_any n w)
  unfold plainCell plainCode
  generalize inB 4 200 n = q at c1
  have C1 := Lib.hid c1; clear c1
  cases q
  · go_enter Try.func17, Try.ntmps17
    go_wp2_with (go_at_call 51; refine (C1.out _).mono ?_; rintro e w' ⟨rfl, rfl⟩)
    refine bodyPost_ret (v := .tuple #[.agg #[.int .i64 0, .int .i64 0, .int .i64 0, .int .i64 0, .int .i64 0], .int .i64 2]) (by simp [results, Try.results17, go_sem]) rfl ⟨rfl, ?_⟩
    go_grown
  · go_enter Try.func17, Try.ntmps17
    go_wp2_with (go_at_call 51; refine (C1.out _).mono ?_; rintro e w' ⟨rfl, rfl⟩)
    refine (C2.out _).mono ?_
    rintro e w1 ⟨rfl, hb⟩
    have hz := hb.size
    obtain ⟨hc, hf⟩ := bcell hb
    have x0 : w1.cell? ⟨w.heap.size, 0, none⟩ = some (.int .i64 0) := by rw [hc _ _ (by simp)]; simp [go_sem]
    have x1 : w1.cell? ⟨w.heap.size, 1, none⟩ = some (.int .i64 0) := by rw [hc _ _ (by simp)]; simp [go_sem]
    have x2 : w1.cell? ⟨w.heap.size, 2, none⟩ = some (.int .i64 0) := by rw [hc _ _ (by simp)]; simp [go_sem]
    have x3 : w1.cell? ⟨w.heap.size, 3, none⟩ = some (.int .i64 0) := by rw [hc _ _ (by simp)]; simp [go_sem]
    have x4 : w1.cell? ⟨w.heap.size, 4, none⟩ = some (.int .i64 0) := by rw [hc _ _ (by simp)]; simp [go_sem]
    have y : ∀ o, w1.frozen? ⟨w.heap.size, o, none⟩ = false := fun o => by rw [hf _ _ (by simp)]; simp [go_sem]
    have y0 := y 0; have y1 := y 1; have y2 := y 2; have y3 := y 3; have y4 := y 4
    have HB := Lib.hid hb
    clear hc hf y hb
    go_wp2
    refine bodyPost_ret (v := .tuple #[.agg #[.int .i64 n, .int .i64 n, .int .i64 n, .int .i64 0, .int .i64 0], .int .i64 0]) (by simp [results, Try.results17, go_sem, x0, x1, x2, x3, x4]) rfl ⟨rfl, ?_⟩
    have hB : Below w.heap.size w w1 := Below.trans (by go_grown) (HB.out.mono (by simp))
    exact ((((hB.setCell (by simp) _).setCell (by simp) _).setCell (by simp) _).setCell (by simp) _).setCell (by simp) _
end Go.Proofs.Ytgmnaikgjfbgkab
