/- (impl.geometry).exists, missing, total, fits; (impl.Disc).shaped, (impl.shapedDisc).valid, impl.ValidDisc -/
import Derived.Test.YthcbekfgkbhpeaaDoorPkFormatChainsDiscOkN
import Derived.Test.YthcbekfgkbhpeaaDoorPkFormatChainsEqSector
import Derived.Test.YthcbekfgkbhpeaaDoorShelf
namespace Go.Proofs.YthcbekfgkbhpeaaDoor
open Go.RowKit
set_option maxRecDepth 20000
set_option linter.unusedVariables false
set_option linter.unusedSimpArgs false
set_option maxRecDepth 20000
theorem repeatL_zero : ∀ n, Lib.repeatL [(0 : UInt8)] n = List.replicate n 0
  | 0 => rfl
  | n + 1 => by rw [Lib.repeatL, repeatL_zero n, List.replicate_succ]; rfl
theorem repeatZ_any (n : Nat) (hn : n = 8 ∨ n = 16 ∨ n = 32) (w : World) : Calls Tryd.prog 69 #[.string ⟨#[0]⟩, .int .i64 (n : Int)] w fun e w' => e = .returned (.string (zerosS n)) ∧ Below w.heap.size w w' := by
  have h := Tryd.strings_Repeat_main ⟨#[0]⟩ n w (by omega) (by omega) (by show 1 * n ≤ _; omega) (by decide)
  rw [show (⟨#[0]⟩ : ByteArray).data.toList = [(0 : UInt8)] from rfl, repeatL_zero] at h
  exact h
end Go.Proofs.YthcbekfgkbhpeaaDoor
