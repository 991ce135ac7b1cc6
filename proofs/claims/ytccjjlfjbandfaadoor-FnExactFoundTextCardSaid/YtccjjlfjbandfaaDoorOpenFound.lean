/- The struct Found among the arguments, opened. -/
import Derived.Test.YtccjjlfjbandfaaDoorBoxes
import Derived.Test.YtccjjlfjbandfaaDoorRecFound
namespace Go.Proofs.YtccjjlfjbandfaaDoor
open Go.RowKit Go.ChangeShapes Go.WideShapes Go.ChangeAt Go.Joins Go.Deep
set_option maxRecDepth 100000 in
theorem open_Found {H : Type} {enc : TypeId × Value → H} {W : World} {base : Nat} {v : Value} {d : DataW H} {p : List MemPlace}
    (hv : Value.okWide Tryd.prog W .any base 29 v) (h : DataW.Trod enc Tryd.prog W 0 (fun _ => true) true 29 v d p) :
    ∃ e : FoundV, v = .agg #[.int .i64 e.f0, .int .i64 e.f1, .int .i64 e.f2, .int .i64 e.f3, .string e.f4, .int .i64 e.f5, .bool e.f6, .int .i64 e.f7] ∧ e.f4.size ≤ maxLen := by
  obtain ⟨cs, rfl, hsz, hf⟩ := open_fields Tryd.underlying29 (by kernel_rfl) cellsFoundL (by rfl) hv h
  obtain ⟨l⟩ := cs
  match l, hsz, hf with
  | [c0, c1, c2, c3, c4, c5, c6, c7], _, hf =>
    obtain ⟨c0', _, _, e0, t0⟩ := hf 0 _ rfl
    obtain ⟨c1', _, _, e1, t1⟩ := hf 1 _ rfl
    obtain ⟨c2', _, _, e2, t2⟩ := hf 2 _ rfl
    obtain ⟨c3', _, _, e3, t3⟩ := hf 3 _ rfl
    obtain ⟨c4', _, _, e4, t4⟩ := hf 4 _ rfl
    obtain ⟨c5', _, _, e5, t5⟩ := hf 5 _ rfl
    obtain ⟨c6', _, _, e6, t6⟩ := hf 6 _ rfl
    obtain ⟨c7', _, _, e7, t7⟩ := hf 7 _ rfl
    cases e0; cases e1; cases e2; cases e3; cases e4; cases e5; cases e6; cases e7
    obtain ⟨x0, rfl⟩ := int_cell Tryd.underlying2 t0
    obtain ⟨x1, rfl⟩ := int_cell Tryd.underlying2 t1
    obtain ⟨x2, rfl⟩ := int_cell Tryd.underlying2 t2
    obtain ⟨x3, rfl⟩ := int_cell Tryd.underlying2 t3
    obtain ⟨x4, rfl, s4⟩ := string_cell Tryd.underlying9 t4
    obtain ⟨x5, rfl⟩ := int_cell Tryd.underlying2 t5
    obtain ⟨x6, rfl⟩ := bool_cell Tryd.underlying4 t6
    obtain ⟨x7, rfl⟩ := int_cell Tryd.underlying2 t7
    exact ⟨⟨x0, x1, x2, x3, x4, x5, x6, x7⟩, rfl, s4⟩
end Go.Proofs.YtccjjlfjbandfaaDoor
