/- A block as it was made. -/
import Derived.Test.YtllcbiafghhcmaaPkFnDeviceOrderB
import Derived.Below
namespace Go.Proofs.Ytllcbiafghhcmaa
open Go.RowKit
set_option linter.unusedVariables false
/-- Block p is as it was made. -/
def MadeAt (w : World) (p : Nat) (o : Obj) : Prop := w.heap[p]? = some o
theorem MadeAt.new (w : World) (o : Obj) : MadeAt (w.alloc o) w.heap.size o := heap_alloc_new w o
theorem MadeAt.lt {w : World} {p : Nat} {o : Obj} (h : MadeAt w p o) : p < w.heap.size := (Array.getElem?_eq_some_iff.1 h).1
theorem MadeAt.below {w w' : World} {p : Nat} {o : Obj} (h : MadeAt w p o) (hb : Below w.heap.size w w') : MadeAt w' p o := by
  unfold MadeAt; rw [hb.block p h.lt]; exact h
theorem MadeAt.at {w : World} {p : Nat} {zs : Array Value} {Ty : TypeId} (h : MadeAt w p (.cells zs Ty)) (i : Nat) {v : Value} (hv : zs[i]? = some v) : w.cell? ⟨p, i, none⟩ = some v ∧ w.frozen? ⟨p, i, none⟩ = false := by
  unfold MadeAt at h
  refine ⟨?_, ?_⟩
  · simp only [World.cell?, h, hv]; rfl
  · simp only [World.frozen?, h]; simp
end Go.Proofs.Ytllcbiafghhcmaa
