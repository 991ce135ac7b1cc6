/- The struct Sector among the arguments, opened. -/
import Derived.Test.YtpcfhfnlpcpofaaBoxes
import Derived.Test.YtpcfhfnlpcpofaaRecSector
namespace Go.Proofs.Ytpcfhfnlpcpofaa
open Go.RowKit Go.ChangeShapes Go.WideShapes Go.ChangeAt Go.Joins Go.Deep
set_option maxRecDepth 100000 in
theorem open_Sector {H : Type} {enc : TypeId × Value → H} {W : World} {base : Nat} {v : Value} {d : DataW H} {p : List MemPlace}
    (hv : Value.okWide Try.prog W .any base 46 v) (h : DataW.Trod enc Try.prog W 0 (fun _ => true) true 46 v d p) :
    ∃ e : SectorV, v = .agg #[.string e.f0, .int .i64 e.f1] ∧ e.f0.size ≤ maxLen := by
  obtain ⟨cs, rfl, hsz, hf⟩ := open_fields Try.underlying46 (by kernel_rfl) cellsSectorL (by rfl) hv h
  obtain ⟨l⟩ := cs
  match l, hsz, hf with
  | [c0, c1], _, hf =>
    obtain ⟨c0', _, _, e0, t0⟩ := hf 0 _ rfl
    obtain ⟨c1', _, _, e1, t1⟩ := hf 1 _ rfl
    cases e0; cases e1
    obtain ⟨x0, rfl, s0⟩ := string_cell Try.underlying9 t0
    obtain ⟨x1, rfl⟩ := int_cell Try.underlying2 t1
    exact ⟨⟨x0, x1⟩, rfl, s0⟩
end Go.Proofs.Ytpcfhfnlpcpofaa
