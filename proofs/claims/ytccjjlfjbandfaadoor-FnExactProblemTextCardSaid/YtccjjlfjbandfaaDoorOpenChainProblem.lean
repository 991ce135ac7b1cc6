/- The struct ChainProblem among the arguments, opened. -/
import Derived.Test.YtccjjlfjbandfaaDoorBoxes
import Derived.Test.YtccjjlfjbandfaaDoorRecChainProblem
namespace Go.Proofs.YtccjjlfjbandfaaDoor
open Go.RowKit Go.ChangeShapes Go.WideShapes Go.ChangeAt Go.Joins Go.Deep
set_option maxRecDepth 100000 in
theorem open_ChainProblem {H : Type} {enc : TypeId × Value → H} {W : World} {base : Nat} {v : Value} {d : DataW H} {p : List MemPlace}
    (hv : Value.okWide Tryd.prog W .any base 23 v) (h : DataW.Trod enc Tryd.prog W 0 (fun _ => true) true 23 v d p) :
    ∃ e : ChainProblemV, v = .agg #[.int .i64 e.f0, .int .i64 e.f1, .int .i64 e.f2] := by
  obtain ⟨cs, rfl, hsz, hf⟩ := open_fields Tryd.underlying23 (by kernel_rfl) cellsChainProblemL (by rfl) hv h
  obtain ⟨l⟩ := cs
  match l, hsz, hf with
  | [c0, c1, c2], _, hf =>
    obtain ⟨c0', _, _, e0, t0⟩ := hf 0 _ rfl
    obtain ⟨c1', _, _, e1, t1⟩ := hf 1 _ rfl
    obtain ⟨c2', _, _, e2, t2⟩ := hf 2 _ rfl
    cases e0; cases e1; cases e2
    obtain ⟨x0, rfl⟩ := int_cell Tryd.underlying2 t0
    obtain ⟨x1, rfl⟩ := int_cell Tryd.underlying2 t1
    obtain ⟨x2, rfl⟩ := int_cell Tryd.underlying2 t2
    exact ⟨⟨x0, x1, x2⟩, rfl⟩
end Go.Proofs.YtccjjlfjbandfaaDoor
