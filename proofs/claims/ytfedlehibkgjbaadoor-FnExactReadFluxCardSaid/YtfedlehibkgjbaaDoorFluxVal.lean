/- A flux and a code as results; the zero flux. -/
import Derived.Test.YtfedlehibkgjbaaDoorOwnI
import Derived.Test.YtfedlehibkgjbaaDoorSpecOk
namespace Go.Proofs.YtfedlehibkgjbaaDoor
open Go.RowKit
set_option linter.unusedVariables false
theorem OwnI.form {w : World} {B : Nat} {v : Value} {l : List Int} (h : OwnI w B v l) : ∃ a c, v = .slice a l.length c := by
  obtain ⟨a, c, e, _⟩ := h.slO; exact ⟨a, c, e⟩
theorem OwnI.below {w w' : World} {B C : Nat} {v : Value} {l : List Int} (h : OwnI w B v l) (hb : Below C w w') (hC : w.heap.size ≤ C) : OwnI w' B v l := by
  refine ⟨h.1, ?_⟩
  rcases h.2 with h2 | ⟨g, cap, cur, rfl, hg, hh, r⟩
  · exact .inl h2
  · have hl : g < w.heap.size := (Array.getElem?_eq_some_iff.1 hh).1
    exact .inr ⟨g, cap, cur, rfl, hg, by rw [hb.block g (by omega)]; exact hh, r⟩
/-- A flux and a code: what FluxOf and others answer. -/
structure FluxVal where
  cell : Int
  first : Int
  gaps : List Int
  code : Int
def FluxVal.none (code : Int) : FluxVal := ⟨0, 0, [], code⟩
/-- The call has returned this flux, in memory of its own, and this code. -/
def FluxRes (r : FluxVal) (w : World) (e : Ending) (w' : World) : Prop :=
  ∃ a cap, e = .returned (.tuple #[.agg #[.int .i64 r.cell, .int .i64 r.first, .slice a r.gaps.length cap], .int .i64 r.code]) ∧ SlO w' w.heap.size a r.gaps ∧ Below w.heap.size w w'
/-- The zero flux in a cell of its own. -/
def ZeroAt (w : World) (p : Nat) : Prop := w.heap[p]? = some (.cells #[.int .i64 0, .int .i64 0, .slice none 0 0] 24 (0, 0))
theorem ZeroAt.facts {w : World} {p : Nat} (h : ZeroAt w p) : w.cell? ⟨p, 0, none⟩ = some (.int .i64 0) ∧ w.cell? ⟨p, 1, none⟩ = some (.int .i64 0) ∧ w.cell? ⟨p, 2, none⟩ = some (.slice none 0 0) ∧
    w.frozen? ⟨p, 0, none⟩ = false ∧ w.frozen? ⟨p, 1, none⟩ = false ∧ w.frozen? ⟨p, 2, none⟩ = false := by
  unfold ZeroAt at h
  simp [World.cell?, World.frozen?, h]
theorem ZeroAt.below {w w' : World} {B p : Nat} (h : ZeroAt w p) (hb : Below B w w') (hp : p < B) : ZeroAt w' p := by
  unfold ZeroAt; rw [hb.block p hp]; exact h
theorem ZeroAt.new (w : World) (p : Nat) (hp : w.heap.size = p) : ZeroAt (w.alloc (.cells #[.int .i64 0, .int .i64 0, .slice none 0 0] 24)) p := by
  subst hp; exact heap_alloc_new w _
theorem ZeroAt.lt {w : World} {p : Nat} (h : ZeroAt w p) : p < w.heap.size := (Array.getElem?_eq_some_iff.1 h).1
theorem below_set3 {B p : Nat} {a w : World} (h : Below B a w) (hp : B ≤ p) (x y z : Value) : Below B a (((w.setCell ⟨p, 0, none⟩ x).setCell ⟨p, 1, none⟩ y).setCell ⟨p, 2, none⟩ z) :=
  ((h.setCell (p := ⟨p, 0, none⟩) hp x).setCell (p := ⟨p, 1, none⟩) hp y).setCell (p := ⟨p, 2, none⟩) hp z
end Go.Proofs.YtfedlehibkgjbaaDoor
