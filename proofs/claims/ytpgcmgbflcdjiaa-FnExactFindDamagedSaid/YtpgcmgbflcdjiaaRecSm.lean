/- Which blocks a step leaves alone; slices of structs that are told so. -/
import Derived.Test.YtpgcmgbflcdjiaaRecKit
import Derived.Test.YtpgcmgbflcdjiaaBoxes
import Derived.Test.YtpgcmgbflcdjiaaSm
namespace Go.Proofs.Ytpgcmgbflcdjiaa
open Go.RowKit
set_option linter.unusedVariables false
theorem SlSI.sm {E : Type} {row : E → List Value} {T : TypeId} {lo hi : Nat} {w w' : World} {B C : Nat} {a : Option Addr} {es : List E} (h : SlSI row T w B C a es) (hs : Sm lo hi w w') (hp : C ≤ lo ∨ hi ≤ B) : SlSI row T w' B C a es := by
  rcases h with rfl | ⟨g, rest, rfl, hg, hC, hh⟩
  · exact .inl rfl
  · exact .inr ⟨g, rest, rfl, hg, hC, by rw [hs.block g (Array.getElem?_eq_some_iff.1 hh).1 (by omega)]; exact hh⟩
theorem BoxAt.sm {lo hi : Nat} {w w' : World} {p : Nat} {vs : Array Value} (h : BoxAt w p vs) (hs : Sm lo hi w w') (hp : p < lo ∨ hi ≤ p) : BoxAt w' p vs := by
  intro i v hv
  have h1 := h i v hv
  rw [World.cell?_of_block (hs.block p (World.block_lt_of_cell? w _ h1) hp)]
  exact h1
end Go.Proofs.Ytpgcmgbflcdjiaa
