/- A block whose cells are known and not frozen. -/
import Derived.Test.YtpgcmgbflcdjiaaBoxes
namespace Go.Proofs.Ytpgcmgbflcdjiaa
open Go.RowKit
set_option linter.unusedVariables false
/-- The cells from p on hold these values, and none of them is frozen. -/
def BoxF (w : World) (p : Nat) (vs : Array Value) : Prop := ∀ i v, vs[i]? = some v → w.cell? ⟨p, i, none⟩ = some v ∧ w.frozen? ⟨p, i, none⟩ = false
theorem BoxF.below {w w' : World} {B p : Nat} {vs : Array Value} (h : BoxF w p vs) (hb : Below B w w') (hp : p < B) : BoxF w' p vs := by
  intro i v hv
  rw [hb.cell (p := ⟨p, i, none⟩) hp, hb.frozen (p := ⟨p, i, none⟩) hp]; exact h i v hv
theorem BoxF.box {w : World} {p : Nat} {vs : Array Value} (h : BoxF w p vs) : BoxAt w p vs := fun i v hv => (h i v hv).1
theorem BoxF.new (w : World) (vs : Array Value) (T : TypeId) (p : Nat) (hp : w.heap.size = p) : BoxF (w.alloc (.cells vs T)) p vs := by
  subst hp
  intro i v hv
  have e := heap_alloc_new w (.cells vs T)
  refine ⟨?_, ?_⟩
  · simp only [World.cell?, e, hv]; rfl
  · simp only [World.frozen?, e]; simp
theorem BoxF.drew {w : World} {p : Nat} {vs : Array Value} (h : BoxF w p vs) : BoxF w.drew p vs := h
theorem BoxF.drewN {w : World} {p : Nat} {vs : Array Value} (h : BoxF w p vs) (n : Nat) : BoxF (w.drewN n) p vs := h
theorem boxF1 {w : World} {p : Nat} {a : Value} (h0 : w.cell? ⟨p, 0, none⟩ = some a ∧ w.frozen? ⟨p, 0, none⟩ = false) : BoxF w p #[a] := by
  intro i v hv
  match i, hv with
  | 0, hv => simp at hv; subst hv; exact h0
  | n + 1, hv => simp at hv
theorem boxF2 {w : World} {p : Nat} {a b : Value} (h0 : w.cell? ⟨p, 0, none⟩ = some a ∧ w.frozen? ⟨p, 0, none⟩ = false) (h1 : w.cell? ⟨p, 1, none⟩ = some b ∧ w.frozen? ⟨p, 1, none⟩ = false) : BoxF w p #[a, b] := by
  intro i v hv
  match i, hv with
  | 0, hv => simp at hv; subst hv; exact h0
  | 1, hv => simp at hv; subst hv; exact h1
  | n + 2, hv => simp at hv
theorem boxF3 {w : World} {p : Nat} {a b c : Value} (h0 : w.cell? ⟨p, 0, none⟩ = some a ∧ w.frozen? ⟨p, 0, none⟩ = false) (h1 : w.cell? ⟨p, 1, none⟩ = some b ∧ w.frozen? ⟨p, 1, none⟩ = false) (h2 : w.cell? ⟨p, 2, none⟩ = some c ∧ w.frozen? ⟨p, 2, none⟩ = false) : BoxF w p #[a, b, c] := by
  intro i v hv
  match i, hv with
  | 0, hv => simp at hv; subst hv; exact h0
  | 1, hv => simp at hv; subst hv; exact h1
  | 2, hv => simp at hv; subst hv; exact h2
  | n + 3, hv => simp at hv
theorem boxF4 {w : World} {p : Nat} {a b c d : Value} (h0 : w.cell? ⟨p, 0, none⟩ = some a ∧ w.frozen? ⟨p, 0, none⟩ = false) (h1 : w.cell? ⟨p, 1, none⟩ = some b ∧ w.frozen? ⟨p, 1, none⟩ = false) (h2 : w.cell? ⟨p, 2, none⟩ = some c ∧ w.frozen? ⟨p, 2, none⟩ = false) (h3 : w.cell? ⟨p, 3, none⟩ = some d ∧ w.frozen? ⟨p, 3, none⟩ = false) : BoxF w p #[a, b, c, d] := by
  intro i v hv
  match i, hv with
  | 0, hv => simp at hv; subst hv; exact h0
  | 1, hv => simp at hv; subst hv; exact h1
  | 2, hv => simp at hv; subst hv; exact h2
  | 3, hv => simp at hv; subst hv; exact h3
  | n + 4, hv => simp at hv
theorem boxF5 {w : World} {p : Nat} {a b c d e : Value} (h0 : w.cell? ⟨p, 0, none⟩ = some a ∧ w.frozen? ⟨p, 0, none⟩ = false) (h1 : w.cell? ⟨p, 1, none⟩ = some b ∧ w.frozen? ⟨p, 1, none⟩ = false) (h2 : w.cell? ⟨p, 2, none⟩ = some c ∧ w.frozen? ⟨p, 2, none⟩ = false) (h3 : w.cell? ⟨p, 3, none⟩ = some d ∧ w.frozen? ⟨p, 3, none⟩ = false) (h4 : w.cell? ⟨p, 4, none⟩ = some e ∧ w.frozen? ⟨p, 4, none⟩ = false) : BoxF w p #[a, b, c, d, e] := by
  intro i v hv
  match i, hv with
  | 0, hv => simp at hv; subst hv; exact h0
  | 1, hv => simp at hv; subst hv; exact h1
  | 2, hv => simp at hv; subst hv; exact h2
  | 3, hv => simp at hv; subst hv; exact h3
  | 4, hv => simp at hv; subst hv; exact h4
  | n + 5, hv => simp at hv
end Go.Proofs.Ytpgcmgbflcdjiaa
