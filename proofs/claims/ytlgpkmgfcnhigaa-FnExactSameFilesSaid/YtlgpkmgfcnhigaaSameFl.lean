/- impl.SameFiles, spec.SameFiles: lists of files compared -/
import Derived.Test.YtlgpkmgfcnhigaaEqFile
namespace Go.Proofs.Ytlgpkmgfcnhigaa
open Go.RowKit
set_option linter.unusedVariables false
theorem implSameFiles_any (r : Bool) (a b : Option Addr) (xs ys : List FileV) (c d : Nat) (w : World) (hr : r = true ↔ xs = ys) (hx : xs.length ≤ 4194304) (hy : ys.length ≤ 4194304) (h1 : SlS rowFile w a xs) (h2 : SlS rowFile w b ys) :
    Calls Try.prog 12 #[.slice a xs.length c, .slice b ys.length d] w fun e w' => e = .returned (.bool r) ∧ Below w.heap.size w w' := by
  have HE := Lib.hid (slicesEqualFile_any r a b xs ys c d w hr hx hy h1 h2)
  clear hr h1 h2
  go_enter Try.func12, Try.ntmps12
  go_wp2_with fail
  refine HE.out.mono ?_
  rintro e w1 ⟨rfl, hb1⟩
  go_wp2
  go_ret
  exact ⟨rfl, hb1⟩
noncomputable def sameFileS (xs ys : List FileV) : Bool := @decide (xs = ys) (Classical.propDecidable _)
theorem sameFileS_iff {xs ys : List FileV} : sameFileS xs ys = true ↔ xs = ys := by unfold sameFileS; simp
theorem sameFiles_g (a : Option Addr) (c : Nat) (xs : List FileV) (b : Option Addr) (d : Nat) (ys : List FileV) (hx : xs.length ≤ 1048576) (hv : ∀ e ∈ xs, e.f0.size ≤ 1048576 ∧ e.f1.size ≤ 1048576) (hy : ys.length ≤ 1048576) (hv2 : ∀ e ∈ ys, e.f0.size ≤ 1048576 ∧ e.f1.size ≤ 1048576) (w : World) (h1 : SlS rowFile w a xs) (h2 : SlS rowFile w b ys) :
    Calls Try.prog 12 #[.slice a xs.length c, .slice b ys.length d] w fun e w' => e = .returned (.bool (sameFileS xs ys)) ∧ Below w.heap.size w w' := implSameFiles_any _ a b xs ys c d w sameFileS_iff (by omega) (by omega) h1 h2
theorem specSameFiles_g (a : Option Addr) (c : Nat) (xs : List FileV) (b : Option Addr) (d : Nat) (ys : List FileV) (hx : xs.length ≤ 1048576) (hv : ∀ e ∈ xs, e.f0.size ≤ 1048576 ∧ e.f1.size ≤ 1048576) (hy : ys.length ≤ 1048576) (hv2 : ∀ e ∈ ys, e.f0.size ≤ 1048576 ∧ e.f1.size ≤ 1048576) (w : World) (h1 : SlS rowFile w a xs) (h2 : SlS rowFile w b ys) :
    Calls Try.prog 10 #[.slice a xs.length c, .slice b ys.length d] w fun e w' => e = .returned (.bool (sameFileS xs ys)) ∧ Below w.heap.size w w' := specSameFilesR_any _ a b xs ys c d w sameFileS_iff (by omega) (by omega) h1 h2
end Go.Proofs.Ytlgpkmgfcnhigaa
