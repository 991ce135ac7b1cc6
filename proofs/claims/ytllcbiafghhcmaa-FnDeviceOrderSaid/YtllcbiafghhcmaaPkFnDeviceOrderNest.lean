/- A struct within a struct among the arguments, opened: open_nest gives each field's own cells, inner_fields those of a struct of one-cell fields among them. -/
import Derived.Test.YtllcbiafghhcmaaPkFnDeviceOrderB
namespace Go.Proofs.Ytllcbiafghhcmaa
open Go.RowKit Go.ChangeShapes Go.WideShapes Go.ChangeAt Go.Joins Go.Deep
section
variable {H : Type} {enc : TypeId × Value → H} {P : Program} {w : World} {base : Nat} {spare : Nat → Bool} {held : Bool}
/-- A struct, whatever its fields: its cells, and what each field's cells are read as. -/
theorem open_nest {r : Reach} {b0 : Nat} {t : TypeId} {fs : Array Field} {v : Value} {d : DataW H} {p : List MemPlace} (hs : P.underlying t = some (.struct fs))
    (hv : Value.okWide P w r b0 t v) (h : DataW.Trod enc P w base spare held t v d p) :
    ∃ cs : Array Value, v = .agg cs ∧ cs.size = P.cellsOf t ∧ ∀ (j : Nat) (f : Field), fs[j]? = some f → ∃ (n : Nat) (y : DataW H × List MemPlace), DataW.trod enc P w base spare held n f.type ((cs.toList.drop f.offset).take (P.cellsOf f.type)) = some y := by
  obtain ⟨cs, rfl, hsz⟩ := okWide_struct hs hv
  refine ⟨cs, rfl, hsz, ?_⟩
  intro j f hj
  obtain ⟨fuel, hf⟩ := h
  obtain ⟨ys, n, _, _, _, hlen, hat⟩ := DataW.trod_struct hs hf
  have hlt : j < fs.size := (Array.getElem?_eq_some_iff.1 hj).1
  have h1 := hat j f hj
  have e1 : (Value.cells (.agg cs)).toList = cs.toList := rfl
  rw [e1] at h1
  exact ⟨n, ys[j]'(by omega), by rw [h1]; exact List.getElem?_eq_getElem (by omega)⟩
/-- A struct of one-cell fields read off a list of cells: what each is read as. -/
theorem inner_fields {t : TypeId} {fs : Array Field} {n : Nat} {l : List Value} {y : DataW H × List MemPlace} (hs : P.underlying t = some (.struct fs)) (hone : oneCellFields P fs = true) (hC : P.cellsOf t = fs.size)
    (h : DataW.trod enc P w base spare held n t l = some y) :
    l.length = fs.size ∧ ∀ (j : Nat) (f : Field), fs[j]? = some f → ∃ (c : Value) (n' : Nat) (y' : DataW H × List MemPlace), l[j]? = some c ∧ DataW.trod enc P w base spare held n' f.type [c] = some y' := by
  obtain ⟨ys, m, _, _, hl, hlen, hat⟩ := DataW.trod_struct hs h
  rw [hC] at hl
  refine ⟨hl, ?_⟩
  intro j f hj
  have hlt : j < fs.size := (Array.getElem?_eq_some_iff.1 hj).1
  obtain ⟨ho, hk⟩ := hone_of hone j f hj
  have h1 := hat j f hj
  rw [ho, hk] at h1
  have hd : (l.drop j).take 1 = [l[j]'(by omega)] := by
    rw [List.drop_eq_getElem_cons (by omega)]
    rfl
  rw [hd] at h1
  refine ⟨l[j]'(by omega), m, ys[j]'(by omega), List.getElem?_eq_getElem (by omega), ?_⟩
  rw [h1]
  exact List.getElem?_eq_getElem (by omega)
end
end Go.Proofs.Ytllcbiafghhcmaa
