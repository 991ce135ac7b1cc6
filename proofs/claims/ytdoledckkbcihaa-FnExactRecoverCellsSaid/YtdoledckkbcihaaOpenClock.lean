/- A clock, or the state of one, among the arguments, opened. -/
import Derived.Test.YtdoledckkbcihaaBoxes
namespace Go.Proofs.Ytdoledckkbcihaa
open Go.RowKit Go.ChangeShapes Go.WideShapes Go.ChangeAt Go.Joins Go.Deep
theorem cellsClock : Try.prog.cellsOf 53 = 5 := by kernel_rfl
set_option maxRecDepth 100000 in
theorem open_clock {H : Type} {enc : TypeId × Value → H} {W : World} {base : Nat} {v : Value} {d : DataW H} {p : List MemPlace}
    (hv : Value.okWide Try.prog W .any base 53 v) (h : DataW.Trod enc Try.prog W 0 (fun _ => true) true 53 v d p) :
    ∃ c l h p s : Int, v = .agg #[.int .i64 c, .int .i64 l, .int .i64 h, .int .i64 p, .int .i64 s] := by
  obtain ⟨cs, rfl, hsz, hf⟩ := open_fields Try.underlying53 (by kernel_rfl) cellsClock (by rfl) hv h
  obtain ⟨l⟩ := cs
  match l, hsz, hf with
  | [c0, c1, c2, c3, c4], _, hf =>
    obtain ⟨c0', _, _, e0, t0⟩ := hf 0 _ rfl
    obtain ⟨c1', _, _, e1, t1⟩ := hf 1 _ rfl
    obtain ⟨c2', _, _, e2, t2⟩ := hf 2 _ rfl
    obtain ⟨c3', _, _, e3, t3⟩ := hf 3 _ rfl
    obtain ⟨c4', _, _, e4, t4⟩ := hf 4 _ rfl
    cases e0; cases e1; cases e2; cases e3; cases e4
    obtain ⟨x0, rfl⟩ := int_field Try.underlying2 t0
    obtain ⟨x1, rfl⟩ := int_field Try.underlying2 t1
    obtain ⟨x2, rfl⟩ := int_field Try.underlying2 t2
    obtain ⟨x3, rfl⟩ := int_field Try.underlying2 t3
    obtain ⟨x4, rfl⟩ := int_field Try.underlying2 t4
    exact ⟨x0, x1, x2, x3, x4, rfl⟩
end Go.Proofs.Ytdoledckkbcihaa
