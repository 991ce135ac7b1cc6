/- A result struct with one slice, in a box that a drawn region makes: wherever the box was made. -/
import Derived.Test.YtnfcalegnijobaaRecSm
import Derived.Test.YtnfcalegnijobaaOwnR
import Derived.Test.YtnfcalegnijobaaMadeAt
import Derived.Deep.DeepCutAuto
namespace Go.Proofs.Ytnfcalegnijobaa
open Go.RowKit
set_option linter.unusedVariables false
theorem cells_set {cs vs : List Value} (h : cs.length = vs.length) : setAll cs 0 vs = vs := by
  have h2 := setAll_mid vs [] cs [] 0 rfl h
  simpa using h2
theorem heap_setCells_other (g b : Nat) (h : b ≠ g) : ∀ (vs : List Value) (p : Nat) (w : World), (w.setCells g p vs).heap[b]? = w.heap[b]?
  | [], _, _ => rfl
  | v :: vs, p, w => (heap_setCells_other g b h vs (p + 1) _).trans (Below.heap_setCell w ⟨g, p, none⟩ v b h)
theorem heap_setCells_size (g : Nat) : ∀ (vs : List Value) (p : Nat) (w : World), (w.setCells g p vs).heap.size = w.heap.size
  | [], _, _ => rfl
  | v :: vs, p, w => (heap_setCells_size g vs (p + 1) _).trans (by simp [World.setCell])
section
variable {E : Type} {row : E → List Value} {T Ty : TypeId} {vs : Option Addr → Nat → Array Value} {es : List E} {W w5 : World} {B0 p d : Nat} {s : Option Addr} {zs : Array Value}
/-- v points to a struct in a box of the region's own; its slice lies in a block from B on and below C, not the box's. -/
def OneIn (row : E → List Value) (T : TypeId) (vs : Option Addr → Nat → Array Value) (es : List E) (W wx : World) (v : Value) : Prop :=
  ∃ p s d B C, v = .pointer (some ⟨p, 0, none⟩) ∧ W.heap.size ≤ p ∧ p < wx.heap.size ∧ (p < B ∨ C ≤ p) ∧ W.heap.size ≤ B ∧ C ≤ wx.heap.size ∧ BoxAt wx p (vs s d) ∧ SlSI row T wx B C s es
theorem OneIn.late (hso : SlSO row T w5 B0 s es) (hB : W.heap.size ≤ B0) (hsz : W.heap.size ≤ w5.heap.size) : OneIn row T vs es W (w5.alloc (.cells (vs s d) Ty)) (.pointer (some ⟨w5.heap.size, 0, none⟩)) :=
  ⟨w5.heap.size, s, d, B0, w5.heap.size, rfl, hsz, by simp, .inr (Nat.le_refl _), hB, by simp, BoxAt.new w5 (vs s d) Ty _ rfl, hso.within.sm (Sm.alloc w5 (.cells (vs s d) Ty)) (by omega)⟩
theorem OneIn.early (hso : SlSO row T w5 B0 s es) (hp : W.heap.size ≤ p) (hpB : p < B0) (hm : MadeAt w5 p (.cells zs Ty)) (hl : zs.size = (vs s d).size) : OneIn row T vs es W (w5.setCells p 0 (vs s d).toList) (.pointer (some ⟨p, 0, none⟩)) := by
  have hm' : w5.heap[p]? = some (.cells zs.toList.toArray Ty (0, 0)) := by simpa [MadeAt] using hm
  have h1 := heap_setCells Ty p (vs s d).toList 0 w5 zs.toList hm'
  rw [cells_set (by simpa using hl)] at h1
  have hoth : ∀ b, b ≠ p → (w5.setCells p 0 (vs s d).toList).heap[b]? = w5.heap[b]? := fun b hb => heap_setCells_other p b hb (vs s d).toList 0 w5
  have hsz : (w5.setCells p 0 (vs s d).toList).heap.size = w5.heap.size := heap_setCells_size p (vs s d).toList 0 w5
  have hpl := hm.lt
  refine ⟨p, s, d, B0, w5.heap.size, rfl, hp, by omega, .inl hpB, by omega, by omega, ?_, ?_⟩
  · intro i v hv
    simp only [World.cell?, h1]
    simp [hv]
  · have hw : SlSI row T w5 B0 w5.heap.size s es := hso.within
    exact hw.sm (⟨by omega, fun b hb hbp => hoth b (by omega)⟩ : Sm p (p + 1) w5 (w5.setCells p 0 (vs s d).toList)) (by omega)
theorem OneIn.early2 {v0 v1 : Value} (hso : SlSO row T w5 B0 s es) (hp : W.heap.size ≤ p) (hpB : p < B0) (hm : MadeAt w5 p (.cells zs Ty)) (hl : zs.size = 2) (d : Nat) (hv : vs s d = #[v0, v1]) : OneIn row T vs es W ((w5.setCell ⟨p, 0, none⟩ v0).setCell ⟨p, 1, none⟩ v1) (.pointer (some ⟨p, 0, none⟩)) := by
  have h := OneIn.early (vs := vs) (d := d) hso hp hpB hm (by rw [hv]; exact hl)
  rw [hv] at h
  exact h
theorem OneIn.early3 {v0 v1 v2 : Value} (hso : SlSO row T w5 B0 s es) (hp : W.heap.size ≤ p) (hpB : p < B0) (hm : MadeAt w5 p (.cells zs Ty)) (hl : zs.size = 3) (d : Nat) (hv : vs s d = #[v0, v1, v2]) : OneIn row T vs es W (((w5.setCell ⟨p, 0, none⟩ v0).setCell ⟨p, 1, none⟩ v1).setCell ⟨p, 2, none⟩ v2) (.pointer (some ⟨p, 0, none⟩)) := by
  have h := OneIn.early (vs := vs) (d := d) hso hp hpB hm (by rw [hv]; exact hl)
  rw [hv] at h
  exact h
theorem OneIn.early4 {v0 v1 v2 v3 : Value} (hso : SlSO row T w5 B0 s es) (hp : W.heap.size ≤ p) (hpB : p < B0) (hm : MadeAt w5 p (.cells zs Ty)) (hl : zs.size = 4) (d : Nat) (hv : vs s d = #[v0, v1, v2, v3]) : OneIn row T vs es W ((((w5.setCell ⟨p, 0, none⟩ v0).setCell ⟨p, 1, none⟩ v1).setCell ⟨p, 2, none⟩ v2).setCell ⟨p, 3, none⟩ v3) (.pointer (some ⟨p, 0, none⟩)) := by
  have h := OneIn.early (vs := vs) (d := d) hso hp hpB hm (by rw [hv]; exact hl)
  rw [hv] at h
  exact h
theorem OneIn.early5 {v0 v1 v2 v3 v4 : Value} (hso : SlSO row T w5 B0 s es) (hp : W.heap.size ≤ p) (hpB : p < B0) (hm : MadeAt w5 p (.cells zs Ty)) (hl : zs.size = 5) (d : Nat) (hv : vs s d = #[v0, v1, v2, v3, v4]) : OneIn row T vs es W (((((w5.setCell ⟨p, 0, none⟩ v0).setCell ⟨p, 1, none⟩ v1).setCell ⟨p, 2, none⟩ v2).setCell ⟨p, 3, none⟩ v3).setCell ⟨p, 4, none⟩ v4) (.pointer (some ⟨p, 0, none⟩)) := by
  have h := OneIn.early (vs := vs) (d := d) hso hp hpB hm (by rw [hv]; exact hl)
  rw [hv] at h
  exact h
theorem OneIn.early6 {v0 v1 v2 v3 v4 v5 : Value} (hso : SlSO row T w5 B0 s es) (hp : W.heap.size ≤ p) (hpB : p < B0) (hm : MadeAt w5 p (.cells zs Ty)) (hl : zs.size = 6) (d : Nat) (hv : vs s d = #[v0, v1, v2, v3, v4, v5]) : OneIn row T vs es W ((((((w5.setCell ⟨p, 0, none⟩ v0).setCell ⟨p, 1, none⟩ v1).setCell ⟨p, 2, none⟩ v2).setCell ⟨p, 3, none⟩ v3).setCell ⟨p, 4, none⟩ v4).setCell ⟨p, 5, none⟩ v5) (.pointer (some ⟨p, 0, none⟩)) := by
  have h := OneIn.early (vs := vs) (d := d) hso hp hpB hm (by rw [hv]; exact hl)
  rw [hv] at h
  exact h
theorem OneIn.early7 {v0 v1 v2 v3 v4 v5 v6 : Value} (hso : SlSO row T w5 B0 s es) (hp : W.heap.size ≤ p) (hpB : p < B0) (hm : MadeAt w5 p (.cells zs Ty)) (hl : zs.size = 7) (d : Nat) (hv : vs s d = #[v0, v1, v2, v3, v4, v5, v6]) : OneIn row T vs es W (((((((w5.setCell ⟨p, 0, none⟩ v0).setCell ⟨p, 1, none⟩ v1).setCell ⟨p, 2, none⟩ v2).setCell ⟨p, 3, none⟩ v3).setCell ⟨p, 4, none⟩ v4).setCell ⟨p, 5, none⟩ v5).setCell ⟨p, 6, none⟩ v6) (.pointer (some ⟨p, 0, none⟩)) := by
  have h := OneIn.early (vs := vs) (d := d) hso hp hpB hm (by rw [hv]; exact hl)
  rw [hv] at h
  exact h
theorem OneIn.early9 {v0 v1 v2 v3 v4 v5 v6 v7 v8 : Value} (hso : SlSO row T w5 B0 s es) (hp : W.heap.size ≤ p) (hpB : p < B0) (hm : MadeAt w5 p (.cells zs Ty)) (hl : zs.size = 9) (d : Nat) (hv : vs s d = #[v0, v1, v2, v3, v4, v5, v6, v7, v8]) : OneIn row T vs es W (((((((((w5.setCell ⟨p, 0, none⟩ v0).setCell ⟨p, 1, none⟩ v1).setCell ⟨p, 2, none⟩ v2).setCell ⟨p, 3, none⟩ v3).setCell ⟨p, 4, none⟩ v4).setCell ⟨p, 5, none⟩ v5).setCell ⟨p, 6, none⟩ v6).setCell ⟨p, 7, none⟩ v7).setCell ⟨p, 8, none⟩ v8) (.pointer (some ⟨p, 0, none⟩)) := by
  have h := OneIn.early (vs := vs) (d := d) hso hp hpB hm (by rw [hv]; exact hl)
  rw [hv] at h
  exact h
end
end Go.Proofs.Ytnfcalegnijobaa
