/- Two structs in boxes that a drawn region makes. -/
import Derived.Test.YtpcfhfnlpcpofaaOneCut
import Derived.Test.YtpcfhfnlpcpofaaBoxF
namespace Go.Proofs.Ytpcfhfnlpcpofaa
open Go.RowKit
set_option linter.unusedVariables false
def TwoIn (vs us : Array Value) (W wx : World) (v u : Value) : Prop :=
  ∃ p q, v = .pointer (some ⟨p, 0, none⟩) ∧ u = .pointer (some ⟨q, 0, none⟩) ∧ W.heap.size ≤ p ∧ W.heap.size ≤ q ∧ p ≠ q ∧ p < wx.heap.size ∧ q < wx.heap.size ∧ BoxF wx p vs ∧ BoxF wx q us
theorem boxF_set {w : World} {p : Nat} {vs : List Value} {Ty : TypeId} (h : w.heap[p]? = some (.cells vs.toArray Ty (0, 0))) : BoxF w p vs.toArray := by
  intro i v hv
  refine ⟨?_, ?_⟩
  · simp only [World.cell?, h, hv]; rfl
  · simp only [World.frozen?, h]; simp
theorem TwoIn.mk {W w : World} {p q : Nat} {zs zs' : Array Value} {Ty Ty' : TypeId} {vs us : List Value} (hpq : p ≠ q) (hp : W.heap.size ≤ p) (hq : W.heap.size ≤ q) (hmp : MadeAt w p (.cells zs Ty)) (hmq : MadeAt w q (.cells zs' Ty')) (hl : zs.size = vs.length) (hl' : zs'.size = us.length) :
    TwoIn vs.toArray us.toArray W ((w.setCells p 0 vs).setCells q 0 us) (.pointer (some ⟨p, 0, none⟩)) (.pointer (some ⟨q, 0, none⟩)) := by
  have h1 : w.heap[p]? = some (.cells zs.toList.toArray Ty (0, 0)) := by simpa [MadeAt] using hmp
  have h2 : w.heap[q]? = some (.cells zs'.toList.toArray Ty' (0, 0)) := by simpa [MadeAt] using hmq
  have h3 := heap_setCells Ty p vs 0 w zs.toList h1
  rw [cells_set (by simpa using hl)] at h3
  have h4 : (w.setCells p 0 vs).heap[q]? = some (.cells zs'.toList.toArray Ty' (0, 0)) := by rw [heap_setCells_other p q (Ne.symm hpq)]; exact h2
  have h5 := heap_setCells Ty' q us 0 (w.setCells p 0 vs) zs'.toList h4
  rw [cells_set (by simpa using hl')] at h5
  have h6 : ((w.setCells p 0 vs).setCells q 0 us).heap[p]? = some (.cells vs.toArray Ty (0, 0)) := by rw [heap_setCells_other q p hpq]; exact h3
  have hs : ((w.setCells p 0 vs).setCells q 0 us).heap.size = w.heap.size := by rw [heap_setCells_size, heap_setCells_size]
  exact ⟨p, q, rfl, rfl, hp, hq, hpq, by rw [hs]; exact hmp.lt, by rw [hs]; exact hmq.lt, boxF_set h6, boxF_set h5⟩
theorem TwoIn.mk5 {W w : World} {p q : Nat} {z0 z1 z2 z3 z4 y0 y1 y2 y3 y4 v0 v1 v2 v3 v4 u0 u1 u2 u3 u4 : Value} {Ty Ty' : TypeId} (hpq : p ≠ q) (hp : W.heap.size ≤ p) (hq : W.heap.size ≤ q) (hmp : MadeAt w p (.cells #[z0, z1, z2, z3, z4] Ty)) (hmq : MadeAt w q (.cells #[y0, y1, y2, y3, y4] Ty')) :
    TwoIn #[v0, v1, v2, v3, v4] #[u0, u1, u2, u3, u4] W ((((((((((w.setCell ⟨p, 0, none⟩ v0).setCell ⟨p, 1, none⟩ v1).setCell ⟨p, 2, none⟩ v2).setCell ⟨p, 3, none⟩ v3).setCell ⟨p, 4, none⟩ v4).setCell ⟨q, 0, none⟩ u0).setCell ⟨q, 1, none⟩ u1).setCell ⟨q, 2, none⟩ u2).setCell ⟨q, 3, none⟩ u3).setCell ⟨q, 4, none⟩ u4) (.pointer (some ⟨p, 0, none⟩)) (.pointer (some ⟨q, 0, none⟩)) := by
  have h := TwoIn.mk (vs := [v0, v1, v2, v3, v4]) (us := [u0, u1, u2, u3, u4]) hpq hp hq hmp hmq rfl rfl
  exact h
end Go.Proofs.Ytpcfhfnlpcpofaa
