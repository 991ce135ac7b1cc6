/- spec.l02Text, spec.FluxText -/
import Derived.Test.YtfedlehibkgjbaaDoorPkFnFluxSpecDec1
import Derived.Test.YtfedlehibkgjbaaDoorPkFnFluxOwnU
import Derived.Test.YtfedlehibkgjbaaDoorPkFnFluxA
import Derived.Test.YtfedlehibkgjbaaDoorPkFnFluxBoxF
namespace Go.Proofs.YtfedlehibkgjbaaDoor
open Go.RowKit
set_option linter.unusedVariables false
set_option linter.unusedSimpArgs false
set_option maxRecDepth 20000
def fluxT (c f : Int) (zs : List Int) : ByteArray := if fluxOk c f zs = true then ⟨(joinK (c :: f :: zs) (zs.length + 2)).toArray⟩ else ⟨#[]⟩
theorem fluxOk_bds {c f : Int} {zs : List Int} (h : fluxOk c f zs = true) : ∀ x ∈ (c :: f :: zs), 0 ≤ x ∧ x < 10000000 := by
  obtain ⟨hc, ⟨hn1, hn2⟩, ha, hs, hf⟩ := fluxOk_iff.1 h
  have hall : ∀ x ∈ zs, 1 ≤ x ∧ x ≤ 2000000 := fun x hx => inB_iff.1 (List.all_eq_true.1 ha x hx)
  intro x hx
  simp only [List.mem_cons] at hx
  rcases hx with rfl | rfl | hx
  · omega
  · have hlast : (zs[zs.length - 1]?.getD 0) ≤ 2000000 := by
      cases hh : zs[zs.length - 1]? with
      | none => show (0 : Int) ≤ _; omega
      | some y => exact (hall y (List.mem_of_getElem? hh)).2
    omega
  · have := hall x hx; omega
end Go.Proofs.YtfedlehibkgjbaaDoor
