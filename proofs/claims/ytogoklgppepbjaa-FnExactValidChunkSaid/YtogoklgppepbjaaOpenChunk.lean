/- The struct Chunk among the arguments, opened. -/
import Derived.Test.YtogoklgppepbjaaBoxes
import Derived.Test.YtogoklgppepbjaaRecChunk
namespace Go.Proofs.Ytogoklgppepbjaa
open Go.RowKit Go.ChangeShapes Go.WideShapes Go.ChangeAt Go.Joins Go.Deep
set_option maxRecDepth 100000 in
theorem open_Chunk {H : Type} {enc : TypeId × Value → H} {W : World} {base : Nat} {v : Value} {d : DataW H} {p : List MemPlace}
    (hv : Value.okWide Try.prog W .any base 42 v) (h : DataW.Trod enc Try.prog W 0 (fun _ => true) true 42 v d p) :
    ∃ e : ChunkV, v = .agg #[.int .i64 e.f0, .string e.f1] ∧ e.f1.size ≤ maxLen := by
  obtain ⟨cs, rfl, hsz, hf⟩ := open_fields Try.underlying42 (by kernel_rfl) cellsChunkL (by rfl) hv h
  obtain ⟨l⟩ := cs
  match l, hsz, hf with
  | [c0, c1], _, hf =>
    obtain ⟨c0', _, _, e0, t0⟩ := hf 0 _ rfl
    obtain ⟨c1', _, _, e1, t1⟩ := hf 1 _ rfl
    cases e0; cases e1
    obtain ⟨x0, rfl⟩ := int_cell Try.underlying2 t0
    obtain ⟨x1, rfl, s1⟩ := string_cell Try.underlying9 t1
    exact ⟨⟨x0, x1⟩, rfl, s1⟩
end Go.Proofs.Ytogoklgppepbjaa
