/- A block that holds a struct's fields, and a struct among the arguments, opened. -/
import Derived.Test.YtpgcmgbflcdjiaaSlices
import Derived.Test.YtpgcmgbflcdjiaaRows
import Derived.ProofKit
import Derived.OpenShut
import Derived.Lib.SmallJoins
namespace Go.Proofs.Ytpgcmgbflcdjiaa
open Go.RowKit Go.ChangeShapes Go.WideShapes Go.ChangeAt Go.Joins Go.Deep
/-- The cells from p on hold these values. -/
def BoxAt (w : World) (p : Nat) (vs : Array Value) : Prop := ∀ i v, vs[i]? = some v → w.cell? ⟨p, i, none⟩ = some v
theorem BoxAt.new (w : World) (vs : Array Value) (T : TypeId) (p : Nat) (hp : w.heap.size = p) : BoxAt (w.alloc (.cells vs T)) p vs := by
  subst hp
  intro i v hv
  have e := heap_alloc_new w (.cells vs T)
  simp only [World.cell?, e, hv]
  rfl
theorem BoxAt.below {w w' : World} {B p : Nat} {vs : Array Value} (h : BoxAt w p vs) (hb : Below B w w') (hp : p < B) : BoxAt w' p vs := by
  intro i v hv
  rw [hb.cell (p := ⟨p, i, none⟩) hp]; exact h i v hv
theorem BoxAt.alloc {w : World} {p : Nat} {vs : Array Value} (h : BoxAt w p vs) (o : Obj) (hp : p < w.heap.size) : BoxAt (w.alloc o) p vs := h.below ((Below.refl w.heap.size w).alloc (Nat.le_refl _) o) hp
theorem BoxAt.drew {w : World} {p : Nat} {vs : Array Value} (h : BoxAt w p vs) : BoxAt w.drew p vs := h
theorem BoxAt.lt {w : World} {p : Nat} {vs : Array Value} (h : BoxAt w p vs) (h0 : 0 < vs.size) : p < w.heap.size := World.block_lt_of_cell? w _ (h 0 vs[0] (by simp [h0]))
section
variable {H : Type} {enc : TypeId × Value → H} {P : Program} {w : World} {base : Nat} {spare : Nat → Bool} {held : Bool}
/-- A struct of one-cell fields, whatever their number: its cells, and what each is read as. -/
theorem open_fields {r : Reach} {b0 : Nat} {t : TypeId} {fs : Array Field} {m : Nat} {v : Value} {d : DataW H} {p : List MemPlace} (hs : P.underlying t = some (.struct fs)) (hone : oneCellFields P fs = true) (hC0 : P.cellsOf t = m) (hm : fs.size = m)
    (hv : Value.okWide P w r b0 t v) (h : DataW.Trod enc P w base spare held t v d p) :
    ∃ cs : Array Value, v = .agg cs ∧ cs.size = m ∧ ∀ (j : Nat) (f : Field), fs[j]? = some f → ∃ (c : Value) (n : Nat) (y : DataW H × List MemPlace), cs[j]? = some c ∧ DataW.trod enc P w base spare held n f.type [c] = some y := by
  obtain ⟨cs, rfl, hsz⟩ := okWide_struct hs hv
  have hC : P.cellsOf t = fs.size := hC0.trans hm.symm
  rw [hC] at hsz
  refine ⟨cs, rfl, hsz.trans hm, ?_⟩
  intro j f hj
  obtain ⟨fuel, hf⟩ := h
  obtain ⟨ys, n, _, _, _, hlen, hat⟩ := DataW.trod_struct hs hf
  have hlt : j < fs.size := (Array.getElem?_eq_some_iff.1 hj).1
  obtain ⟨ho, hk⟩ := hone_of hone j f hj
  have h1 := hat j f hj
  rw [ho, hk] at h1
  have e1 : (Value.cells (.agg cs)).toList = cs.toList := rfl
  have hd : (cs.toList.drop j).take 1 = [cs[j]'(by omega)] := by
    rw [List.drop_eq_getElem_cons (by simp; omega)]
    rfl
  rw [e1, hd] at h1
  refine ⟨cs[j]'(by omega), n, ys[j]'(by omega), by simp [show j < cs.size by omega], ?_⟩
  rw [h1]
  exact List.getElem?_eq_getElem (by omega)
theorem int_field {T : TypeId} {c : Value} {n : Nat} {y : DataW H × List MemPlace} (hT : P.underlying T = some (.int .i64)) (h : DataW.trod enc P w base spare held n T [c] = some y) : ∃ x : Int, c = .int .i64 x := by
  obtain ⟨x, e, _, _⟩ := DataW.trod_int hT h
  simp at e
  exact ⟨x, e⟩
end
end Go.Proofs.Ytpgcmgbflcdjiaa
