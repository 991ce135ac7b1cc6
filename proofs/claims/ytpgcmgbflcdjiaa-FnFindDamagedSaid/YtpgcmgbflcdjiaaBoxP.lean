/- A known box whose cell is stored anew; a box that is kept beside another one's store. -/
import Derived.Test.YtpgcmgbflcdjiaaBoxF
namespace Go.Proofs.Ytpgcmgbflcdjiaa
open Go.RowKit
set_option linter.unusedVariables false
theorem addr_neB {a b o o' : Nat} (h : a ≠ b) : (⟨a, o, none⟩ : Addr) ≠ ⟨b, o', none⟩ := fun e => h (congrArg Addr.block e)
theorem BoxF.kept {w w' : World} {p : Nat} {vs : Array Value} (h : BoxF w p vs) (hk : w'.heap[p]? = w.heap[p]?) : BoxF w' p vs := by
  intro i v hv
  obtain ⟨h1, h2⟩ := h i v hv
  refine ⟨by rw [World.cell?_of_block hk]; exact h1, ?_⟩
  simp only [World.frozen?] at h2 ⊢
  rw [hk]
  exact h2
theorem BoxF.put {w : World} {p : Nat} {vs : Array Value} (h : BoxF w p vs) (i : Nat) (v : Value) (hi : i < vs.size) : BoxF (w.setCell ⟨p, i, none⟩ v) p (vs.setIfInBounds i v) := by
  intro j u hu
  by_cases e : j = i
  · subst e
    rw [Array.getElem?_setIfInBounds_self_of_lt hi] at hu
    cases hu
    exact ⟨World.cell?_setCell_same _ _ v (h j vs[j] (Array.getElem?_eq_getElem hi)).1, by rw [World.frozen?_setCell]; exact (h j vs[j] (Array.getElem?_eq_getElem hi)).2⟩
  · rw [Array.getElem?_setIfInBounds_ne (Ne.symm e)] at hu
    obtain ⟨h1, h2⟩ := h j u hu
    exact ⟨by rw [World.cell?_setCell_other (h := fun e' => e (by cases e'; rfl))]; exact h1, by rw [World.frozen?_setCell]; exact h2⟩
theorem heap_setCell_ne (w : World) (p q i : Nat) (v : Value) (h : q ≠ p) : (w.setCell ⟨p, i, none⟩ v).heap[q]? = w.heap[q]? := by
  simp only [World.setCell, Array.getElem?_modify]
  rw [if_neg (fun e => h e.symm)]
end Go.Proofs.Ytpgcmgbflcdjiaa
