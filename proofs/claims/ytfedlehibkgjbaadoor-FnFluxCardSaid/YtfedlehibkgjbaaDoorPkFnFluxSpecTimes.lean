/- spec.l02Times -/
import Derived.Test.YtfedlehibkgjbaaDoorPkFnFluxB
import Derived.Deep.RegionLaw
namespace Go.Proofs.YtfedlehibkgjbaaDoor
open Go.RowKit
set_option linter.unusedVariables false
/-- The gaps so far, when the times up to i have been seen. -/
theorem gapsOf_take {ts : List Int} {rev : Int} {i : Nat} {x y : Int} (h1 : ts[i]? = some x) (h2 : ts[i + 1]? = some y) : (gapsOf ts rev).take (i + 1) = (gapsOf ts rev).take i ++ [y - x] := by
  have hi : i < ts.length := (List.getElem?_eq_some_iff.1 h1).1
  rw [List.take_add_one, gapsOf_at ts rev i hi, gapAt_mid h1 h2]; rfl
theorem gapsOf_end {ts : List Int} {rev : Int} {i : Nat} {x y : Int} (h1 : ts[i]? = some x) (h2 : ts[0]? = some y) (hn : i + 1 = ts.length) : gapsOf ts rev = (gapsOf ts rev).take i ++ [y + rev - x] := by
  have hi : i < ts.length := by omega
  have e : (gapsOf ts rev).take (i + 1) = gapsOf ts rev := List.take_of_length_le (by rw [gapsOf_length]; omega)
  rw [List.take_add_one, gapsOf_at ts rev i hi, gapAt_end h1 h2 (by omega)] at e
  exact e.symm
/-- A flux in a cell of its own. -/
def FluxCell (w : World) (p : Nat) (c f : Int) (v : Value) : Prop := w.heap[p]? = some (.cells #[.int .i64 c, .int .i64 f, v] 24 (0, 0))
theorem FluxCell.facts {w : World} {p : Nat} {c f : Int} {v : Value} (h : FluxCell w p c f v) : w.cell? ⟨p, 0, none⟩ = some (.int .i64 c) ∧ w.cell? ⟨p, 1, none⟩ = some (.int .i64 f) ∧ w.cell? ⟨p, 2, none⟩ = some v ∧
    w.frozen? ⟨p, 0, none⟩ = false ∧ w.frozen? ⟨p, 1, none⟩ = false ∧ w.frozen? ⟨p, 2, none⟩ = false := by
  unfold FluxCell at h
  simp [World.cell?, World.frozen?, h]
theorem FluxCell.below {w w' : World} {B p : Nat} {c f : Int} {v : Value} (h : FluxCell w p c f v) (hb : Below B w w') (hp : p < B) : FluxCell w' p c f v := by
  unfold FluxCell; rw [hb.block p hp]; exact h
theorem FluxCell.lt {w : World} {p : Nat} {c f : Int} {v : Value} (h : FluxCell w p c f v) : p < w.heap.size := (Array.getElem?_eq_some_iff.1 h).1
theorem FluxCell.set2 {w : World} {p : Nat} {c f : Int} {v : Value} (h : FluxCell w p c f v) (u : Value) : FluxCell (w.setCell ⟨p, 2, none⟩ u) p c f u := by
  unfold FluxCell
  rw [heap_set_row w p 2 _ _ _ h]; rfl
theorem OwnI.setCell {w : World} {B : Nat} {v : Value} {l : List Int} (h : OwnI w B v l) {q : Addr} (hq : q.block < B) (u : Value) : OwnI (w.setCell q u) B v l := by
  refine ⟨h.1, ?_⟩
  rcases h.2 with h2 | ⟨g, cap, cur, rfl, hg, hh, r⟩
  · exact .inl h2
  · exact .inr ⟨g, cap, cur, rfl, hg, by rw [Below.heap_setCell w q u g (by omega)]; exact hh, r⟩
theorem SlO.setCell {w : World} {B : Nat} {a : Option Addr} {zs : List Int} (h : SlO w B a zs) {q : Addr} (u : Value) (hq : q.block < B) : SlO (w.setCell q u) B a zs := by
  rcases h with rfl | ⟨g, rest, rfl, hg, hh⟩
  · exact .inl rfl
  · exact .inr ⟨g, rest, rfl, hg, by rw [Below.heap_setCell w q u g (by omega)]; exact hh⟩
theorem SlO.set3 {w : World} {B p : Nat} {a : Option Addr} {zs : List Int} (h : SlO w B a zs) (x y z : Value) (hq : p < B) : SlO (((w.setCell ⟨p, 0, none⟩ x).setCell ⟨p, 1, none⟩ y).setCell ⟨p, 2, none⟩ z) B a zs :=
  ((h.setCell x hq).setCell y hq).setCell z hq
end Go.Proofs.YtfedlehibkgjbaaDoor
