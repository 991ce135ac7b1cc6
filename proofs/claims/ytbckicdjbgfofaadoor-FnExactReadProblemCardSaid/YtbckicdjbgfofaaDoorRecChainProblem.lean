/- The struct ChainProblem and slices of it: laws.szChainProblemS, laws.toChainProblem, laws.toChainProblemS, laws.eqChainProblem, laws.eqChainProblemS, laws.markChainProblemS, laws.heldChainProblemS -/
import Derived.Test.YtbckicdjbgfofaaDoorRecs
import Derived.Test.YtbckicdjbgfofaaDoorRecKit
namespace Go.Proofs.YtbckicdjbgfofaaDoor
open Go.RowKit Go.ChangeShapes Go.WideShapes Go.ChangeAt Go.Joins Go.Deep
set_option linter.unusedVariables false
set_option linter.unusedSimpArgs false
structure ChainProblemV where
  f0 : Int
  f1 : Int
  f2 : Int
def rowChainProblem (e : ChainProblemV) : List Value := [.int .i64 e.f0, .int .i64 e.f1, .int .i64 e.f2]
def zeroChainProblem : List Value := [.int .i64 0, .int .i64 0, .int .i64 0]
theorem rowChainProblem_len (e : ChainProblemV) : (rowChainProblem e).length = 3 := rfl
theorem infoChainProblem : (Tryd.prog.info? 23).map (fun i => (i.zero, i.size, i.bytes)) = some (some (.agg zeroChainProblem.toArray), 3, 24) := by kernel_rfl
def wtChainProblem (es : List ChainProblemV) : Nat := es.length
theorem wtChainProblem_len (es : List ChainProblemV) : es.length ≤ wtChainProblem es := Nat.le_refl _
def sameChainProblem (x y : ChainProblemV) : Bool := (x.f0 == y.f0) && (x.f1 == y.f1) && (x.f2 == y.f2)
theorem sameChainProblem_iff {x y : ChainProblemV} : sameChainProblem x y = true ↔ x = y := by
  cases x; cases y
  simp [sameChainProblem, and_assoc]
set_option maxHeartbeats 4000000 in
theorem eqChainProblem_any (x y : ChainProblemV) (w : World) :
    Calls Tryd.prog 6 #[.agg #[.int .i64 x.f0, .int .i64 x.f1, .int .i64 x.f2], .agg #[.int .i64 y.f0, .int .i64 y.f1, .int .i64 y.f2]] w fun e w' => e = .returned (.bool (sameChainProblem x y)) ∧ Below w.heap.size w w' := by
  obtain ⟨x0, x1, x2⟩ := x
  obtain ⟨y0, y1, y2⟩ := y
  dsimp only
  by_cases h0 : x0 = y0
  case neg =>
    have hb0 : (x0 != y0) = true := by simp [h0]
    have HE := Lib.hid (show sameChainProblem ⟨x0, x1, x2⟩ ⟨y0, y1, y2⟩ = false by simp [sameChainProblem, h0])
    clear h0
    go_enter Tryd.func6, Tryd.ntmps6
    go_wp2
    go_ret
    exact ⟨ret_bool HE.out.symm, by go_grown⟩
  subst h0
  by_cases h1 : x1 = y1
  case neg =>
    have hb1 : (x1 != y1) = true := by simp [h1]
    have HE := Lib.hid (show sameChainProblem ⟨x0, x1, x2⟩ ⟨x0, y1, y2⟩ = false by simp [sameChainProblem, h1])
    clear h1
    go_enter Tryd.func6, Tryd.ntmps6
    go_wp2
    go_ret
    exact ⟨ret_bool HE.out.symm, by go_grown⟩
  subst h1
  by_cases h2 : x2 = y2
  case neg =>
    have hb2 : (x2 != y2) = true := by simp [h2]
    have HE := Lib.hid (show sameChainProblem ⟨x0, x1, x2⟩ ⟨x0, x1, y2⟩ = false by simp [sameChainProblem, h2])
    clear h2
    go_enter Tryd.func6, Tryd.ntmps6
    go_wp2
    go_ret
    exact ⟨ret_bool HE.out.symm, by go_grown⟩
  subst h2
  have HE := Lib.hid (show sameChainProblem ⟨x0, x1, x2⟩ ⟨x0, x1, x2⟩ = true by simp [sameChainProblem])
  go_enter Tryd.func6, Tryd.ntmps6
  go_wp2
  go_ret
  exact ⟨ret_bool HE.out.symm, by go_grown⟩
end Go.Proofs.YtbckicdjbgfofaaDoor
