/- Which blocks a step leaves alone; slices of structs that are told so. -/
import Derived.Test.YtkeingpdohfmkaaRecKit
import Derived.Test.YtkeingpdohfmkaaBoxes
import Derived.Test.YtkeingpdohfmkaaSm
namespace Go.Proofs.Ytkeingpdohfmkaa
open Go.RowKit
set_option linter.unusedVariables false
theorem SlSI.sm {E : Type} {row : E → List Value} {T : TypeId} {lo hi : Nat} {w w' : World} {B C : Nat} {a : Option Addr} {es : List E} (h : SlSI row T w B C a es) (hs : Sm lo hi w w') (hp : C ≤ lo ∨ hi ≤ B) : SlSI row T w' B C a es := by
  rcases h with rfl | ⟨g, rest, rfl, hg, hC, hh⟩
  · exact .inl rfl
  · exact .inr ⟨g, rest, rfl, hg, hC, by rw [hs.block g (Array.getElem?_eq_some_iff.1 hh).1 (by omega)]; exact hh⟩
end Go.Proofs.Ytkeingpdohfmkaa
