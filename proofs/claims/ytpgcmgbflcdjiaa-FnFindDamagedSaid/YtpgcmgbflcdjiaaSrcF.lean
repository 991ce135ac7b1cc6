/- A frame for draws: the source's block and new blocks alone change. -/
import Derived.Test.YtpgcmgbflcdjiaaDraw2
import Derived.Test.YtpgcmgbflcdjiaaData05
namespace Go.Proofs.Ytpgcmgbflcdjiaa
open Go.RowKit
set_option linter.unusedVariables false
def Sf (p : Nat) (w w' : World) : Prop := p < w.heap.size ∧ Below p w w' ∧ w.heap.size ≤ w'.heap.size ∧ ∀ b, b < w.heap.size → b ≠ p → w'.heap[b]? = w.heap[b]?
theorem Sf.refl {p : Nat} {w : World} (hp : p < w.heap.size) : Sf p w w := ⟨hp, Below.refl _ _, Nat.le_refl _, fun _ _ _ => rfl⟩
theorem Sf.only {p : Nat} {w w' : World} (hp : p < w.heap.size) (h : Only p w w') : Sf p w w' :=
  ⟨hp, h.below (Nat.le_refl _), by rw [h.2.2.2.1]; exact Nat.le_refl _, fun b _ hne => h.2.2.2.2 b hne⟩
theorem Sf.of_below {p : Nat} {w w' : World} (hp : p < w.heap.size) (h : Below w.heap.size w w') : Sf p w w' :=
  ⟨hp, h.mono (by omega), h.size, fun b hb _ => h.block b hb⟩
theorem Sf.trans {p : Nat} {a b c : World} (h : Sf p a b) (h' : Sf p b c) : Sf p a c :=
  ⟨h.1, h.2.1.trans h'.2.1, Nat.le_trans h.2.2.1 h'.2.2.1, fun k hk hne => (h'.2.2.2 k (Nat.lt_of_lt_of_le hk h.2.2.1) hne).trans (h.2.2.2 k hk hne)⟩
theorem Sf.alloc {p : Nat} {a w : World} (h : Sf p a w) (o : Obj) : Sf p a (w.alloc o) :=
  h.trans (Sf.of_below (Nat.lt_of_lt_of_le h.1 h.2.2.1) ((Below.refl _ _).alloc (Nat.le_refl _) o))
theorem Sf.drew {p : Nat} {a w : World} (h : Sf p a w) : Sf p a w.drew := ⟨h.1, h.2.1.drew, h.2.2.1, h.2.2.2⟩
theorem Sf.setCell {p : Nat} {a w : World} (h : Sf p a w) (g i : Nat) (v : Value) (hg : a.heap.size ≤ g) : Sf p a (w.setCell ⟨g, i, none⟩ v) := by
  refine ⟨h.1, h.2.1.setCell (by show p ≤ g; have := h.1; omega) _, by simpa [World.setCell] using h.2.2.1, fun b hb hne => ?_⟩
  have e : (w.setCell ⟨g, i, none⟩ v).heap[b]? = w.heap[b]? := by
    simp only [World.setCell, Array.getElem?_modify]
    rw [if_neg (by omega)]
  rw [e]
  exact h.2.2.2 b hb hne
theorem Sf.grow {p : Nat} {a w w' : World} (h : Sf p a w) (hb : Below a.heap.size w w') : Sf p a w' :=
  ⟨h.1, h.2.1.trans (hb.mono (by have := h.1; omega)), Nat.le_trans h.2.2.1 hb.size, fun b hb' hne => (hb.block b hb').trans (h.2.2.2 b hb' hne)⟩
theorem Sf.cell {p : Nat} {w w' : World} (h : Sf p w w') {b i : Nat} (hb : b < w.heap.size) (hne : b ≠ p) : w'.cell? ⟨b, i, none⟩ = w.cell? ⟨b, i, none⟩ := World.cell?_of_block (h.2.2.2 b hb hne)
theorem Sf.frozen {p : Nat} {w w' : World} (h : Sf p w w') {b i : Nat} (hb : b < w.heap.size) (hne : b ≠ p) : w'.frozen? ⟨b, i, none⟩ = w.frozen? ⟨b, i, none⟩ := by
  have := h.2.2.2 b hb hne
  simp [World.frozen?, this]
/-- The source lies on where a block of the call's own is written. -/
theorem SrcAt.own {w : World} {p C g i : Nat} {v : Value} {a : Option Addr} {n cap k : Nat} (h : SrcAt w p a n cap k) (ha : CodeLt a n C) (hp : p < C) (hg : C ≤ g) : SrcAt (w.setCell ⟨g, i, none⟩ v) p a n cap k :=
  h.below ha ((Below.refl C w).setCell (p := ⟨g, i, none⟩) hg v) hp
/-- What a choice leaves: the source at most d choices on, the frame. -/
def ChoseF (p : Nat) (a : Option Addr) (n cap k d : Nat) (w w' : World) : Prop := ∃ k', k ≤ k' ∧ k' ≤ k + d ∧ SrcAt w' p a n cap k' ∧ Sf p w w'
theorem Chose.f {p : Nat} {a : Option Addr} {n cap k d : Nat} {w w' : World} (hp : p < w.heap.size) (h : Chose p a n cap k d w w') : ChoseF p a n cap k d w w' := by
  obtain ⟨k', h1, h2, h3, h4⟩ := h
  exact ⟨k', h1, h2, h3, Sf.only hp h4⟩
theorem ChoseF.trans {p : Nat} {a : Option Addr} {n cap k k1 d d' : Nat} {w w1 w2 : World} (hk : k ≤ k1) (h : k1 ≤ k + d) (ho : Sf p w w1) (h2 : ChoseF p a n cap k1 d' w1 w2) : ChoseF p a n cap k (d + d') w w2 := by
  obtain ⟨k', q1, q2, q3, q4⟩ := h2
  exact ⟨k', by omega, by omega, q3, ho.trans q4⟩
end Go.Proofs.Ytpgcmgbflcdjiaa
