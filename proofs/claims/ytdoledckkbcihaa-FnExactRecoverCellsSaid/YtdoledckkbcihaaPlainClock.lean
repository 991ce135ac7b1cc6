/- impl.PlainClock, spec.PlainClock, impl.StartClock, spec.StartClock -/
import Derived.Test.YtdoledckkbcihaaClockOk
namespace Go.Proofs.Ytdoledckkbcihaa
open Go.RowKit
set_option linter.unusedVariables false
def ClkRes (c l h p s code : Int) (w : World) (e : Ending) (w' : World) : Prop :=
  e = .returned (.tuple #[.agg #[.int .i64 c, .int .i64 l, .int .i64 h, .int .i64 p, .int .i64 s], .int .i64 code]) ∧ Below w.heap.size w w'
def LckRes (p o code : Int) (w : World) (e : Ending) (w' : World) : Prop :=
  e = .returned (.tuple #[.agg #[.int .i64 p, .int .i64 o], .int .i64 code]) ∧ Below w.heap.size w w'
/-- The cell of a plain clock, and its code. -/
def plainCell (n : Int) : Int := if inB 4 200 n = true then n else 0
def plainCode (n : Int) : Int := if inB 4 200 n = true then 0 else 2
def startPer (c l h p s : Int) : Int := if clockOk c l h p s = true then c * 64 else 0
def startCode (c l h p s : Int) : Int := if clockOk c l h p s = true then 0 else 1
end Go.Proofs.Ytdoledckkbcihaa
