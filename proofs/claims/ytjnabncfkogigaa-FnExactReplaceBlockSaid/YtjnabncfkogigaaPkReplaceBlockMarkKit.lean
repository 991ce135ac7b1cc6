/- Marks of a struct with several rows: each row in a block of its own, kept apart by its type. -/
import Derived.Test.YtjnabncfkogigaaPkReplaceBlockMarkText
import Derived.Test.YtjnabncfkogigaaPkReplaceBlockB
namespace Go.Proofs.Ytjnabncfkogigaa
open Go.RowKit
set_option linter.unusedVariables false
section
variable {E : Type} {row : E → List Value} {T : TypeId} {w w' w'' : World} {B C lo hi : Nat} {a : Option Addr} {es : List E} {zs : List Int}
/-- Blocks from lo on and below hi bear the type T (or there are none). -/
def OnlyT (w : World) (T : TypeId) (lo hi : Nat) : Prop := ∀ g cs T' fr, w.heap[g]? = some (.cells cs T' fr) → T' ≠ T → g < lo ∨ hi ≤ g
theorem SlSI.narrow (h : SlSI row T w B C a es) : ∃ lo hi, SlSI row T w lo hi a es ∧ hi ≤ w.heap.size ∧ (lo = w.heap.size ∨ B ≤ lo) ∧ (lo = hi ∨ hi ≤ C) ∧ OnlyT w T lo hi := by
  rcases h with rfl | ⟨g, rest, rfl, hg, hC, hh⟩
  · exact ⟨w.heap.size, w.heap.size, .inl rfl, Nat.le_refl _, .inl rfl, .inl rfl, fun g cs T' fr hc _ => .inl (Array.getElem?_eq_some_iff.1 hc).1⟩
  · have hlt := (Array.getElem?_eq_some_iff.1 hh).1
    refine ⟨g, g + 1, .inr ⟨g, rest, rfl, Nat.le_refl _, by omega, hh⟩, by omega, .inr hg, .inr (by omega), fun g' cs T' fr hc hne => ?_⟩
    by_cases e : g' = g
    · subst e
      rw [hh] at hc
      cases hc
      exact absurd rfl hne
    · omega
theorem SlI.narrow (h : SlI w B C a zs) : ∃ lo hi, SlI w lo hi a zs ∧ hi ≤ w.heap.size ∧ (lo = w.heap.size ∨ B ≤ lo) ∧ (lo = hi ∨ hi ≤ C) ∧ OnlyT w 2 lo hi := by
  rcases h with rfl | ⟨g, rest, rfl, hg, hC, hh⟩
  · exact ⟨w.heap.size, w.heap.size, .inl rfl, Nat.le_refl _, .inl rfl, .inl rfl, fun g cs T' fr hc _ => .inl (Array.getElem?_eq_some_iff.1 hc).1⟩
  · have hlt := (Array.getElem?_eq_some_iff.1 hh).1
    refine ⟨g, g + 1, .inr ⟨g, rest, rfl, Nat.le_refl _, by omega, hh⟩, by omega, .inr hg, .inr (by omega), fun g' cs T' fr hc hne => ?_⟩
    by_cases e : g' = g
    · subst e
      rw [hh] at hc
      cases hc
      exact absurd rfl hne
    · omega
theorem SlSI.past {T2 : TypeId} (h : SlSI row T w B C a es) (hs : Sm lo hi w w') (ho : OnlyT w T2 lo hi) (hne : T ≠ T2) : SlSI row T w' B C a es := by
  rcases h with rfl | ⟨g, rest, rfl, hg, hC, hh⟩
  · exact .inl rfl
  · exact .inr ⟨g, rest, rfl, hg, hC, by rw [hs.block g (Array.getElem?_eq_some_iff.1 hh).1 (ho g _ _ _ hh hne)]; exact hh⟩
theorem SlI.past {T2 : TypeId} (h : SlI w B C a zs) (hs : Sm lo hi w w') (ho : OnlyT w T2 lo hi) (hne : 2 ≠ T2) : SlI w' B C a zs := by
  rcases h with rfl | ⟨g, rest, rfl, hg, hC, hh⟩
  · exact .inl rfl
  · exact .inr ⟨g, rest, rfl, hg, hC, by rw [hs.block g (Array.getElem?_eq_some_iff.1 hh).1 (ho g _ _ _ hh hne)]; exact hh⟩
theorem SlSI.within' (h : SlSI row T w lo hi a es) (hw : ∀ g, lo ≤ g ∧ g < hi → B ≤ g ∧ g < C) : SlSI row T w B C a es := by
  rcases h with rfl | ⟨g, rest, rfl, hg, hC, hh⟩
  · exact .inl rfl
  · exact .inr ⟨g, rest, rfl, (hw g ⟨hg, hC⟩).1, (hw g ⟨hg, hC⟩).2, hh⟩
theorem SlI.within' (h : SlI w lo hi a zs) (hw : ∀ g, lo ≤ g ∧ g < hi → B ≤ g ∧ g < C) : SlI w B C a zs := by
  rcases h with rfl | ⟨g, rest, rfl, hg, hC, hh⟩
  · exact .inl rfl
  · exact .inr ⟨g, rest, rfl, (hw g ⟨hg, hC⟩).1, (hw g ⟨hg, hC⟩).2, hh⟩
theorem Sm.join {lo' hi' : Nat} (h : Sm lo hi w w') (h' : Sm lo' hi' w' w'') (h1 : lo = w.heap.size ∨ B ≤ lo) (h2 : lo = hi ∨ hi ≤ C) (h3 : lo' = w'.heap.size ∨ B ≤ lo') (h4 : lo' = hi' ∨ hi' ≤ C) : Sm B C w w'' := by
  refine ⟨Nat.le_trans h.size h'.size, fun b hb hp => ?_⟩
  have hs := h.size
  rw [h'.block b (by omega) (by omega), h.block b hb (by omega)]
end
end Go.Proofs.Ytjnabncfkogigaa
