/- The struct ChainProblem and slices of it: laws.szChainProblemS, laws.toChainProblem, laws.toChainProblemS, laws.eqChainProblem, laws.eqChainProblemS, laws.markChainProblemS, laws.heldChainProblemS -/
import Derived.Test.YtccjjlfjbandfaaDoorRecs
import Derived.Test.YtccjjlfjbandfaaDoorRecKit
namespace Go.Proofs.YtccjjlfjbandfaaDoor
open Go.RowKit Go.ChangeShapes Go.WideShapes Go.ChangeAt Go.Joins Go.Deep
set_option linter.unusedVariables false
set_option linter.unusedSimpArgs false
structure ChainProblemV where
  f0 : Int
  f1 : Int
  f2 : Int
def rowChainProblem (e : ChainProblemV) : List Value := [.int .i64 e.f0, .int .i64 e.f1, .int .i64 e.f2]
def zeroChainProblem : List Value := [.int .i64 0, .int .i64 0, .int .i64 0]
theorem rowChainProblem_len (e : ChainProblemV) : (rowChainProblem e).length = 3 := rfl
theorem infoChainProblem : (Tryd.prog.info? 25).map (fun i => (i.zero, i.size, i.bytes)) = some (some (.agg zeroChainProblem.toArray), 3, 24) := by kernel_rfl
theorem cellsChainProblemL : Tryd.prog.cellsOf 23 = 3 := by kernel_rfl
def wtChainProblem (es : List ChainProblemV) : Nat := es.length
theorem wtChainProblem_len (es : List ChainProblemV) : es.length ≤ wtChainProblem es := Nat.le_refl _
set_option maxHeartbeats 2000000 in
theorem toChainProblem_any (e : ChainProblemV) (w : World) :
    Calls Tryd.prog 6 #[.agg #[.int .i64 e.f0, .int .i64 e.f1, .int .i64 e.f2]] w fun x w' => x = .returned (.agg #[.int .i64 e.f0, .int .i64 e.f1, .int .i64 e.f2]) ∧ Below w.heap.size w w' := by
  go_enter Tryd.func6, Tryd.ntmps6
  go_wp2
  refine bodyPost_ret (v := .agg #[.int .i64 e.f0, .int .i64 e.f1, .int .i64 e.f2]) (by simp [results, Tryd.results6, go_sem]) rfl ⟨rfl, ?_⟩
  go_grown
def sameChainProblem (x y : ChainProblemV) : Bool := (x.f0 == y.f0) && (x.f1 == y.f1) && (x.f2 == y.f2)
theorem sameChainProblem_iff {x y : ChainProblemV} : sameChainProblem x y = true ↔ x = y := by
  cases x; cases y
  simp [sameChainProblem, and_assoc]
end Go.Proofs.YtccjjlfjbandfaaDoor
