/- impl.SectorBytes, spec.SectorBytes, (impl.geometry).index, trackAt, impl.SectorAt, spec.SectorAt -/
import Derived.Test.YthcbekfgkbhpeaaDoorPkFormatChainsDiscValid
import Derived.Test.YthcbekfgkbhpeaaDoorPkFormatChainsDiscSpecOk
import Derived.Test.YthcbekfgkbhpeaaDoorPkFormatChainsE
namespace Go.Proofs.YthcbekfgkbhpeaaDoor
open Go.RowKit
set_option maxRecDepth 20000
set_option linter.unusedVariables false
set_option linter.unusedSimpArgs false
set_option maxRecDepth 20000
def secBytesV (z : Int) : Int := if inB 0 2 z = true then secN z else 0
def atIn (x : DiscV) (cy hd nu : Int) : Bool := inB 0 (x.f0 - 1) cy && (inB 0 (x.f1 - 1) hd && inB 0 (x.f2 - 1) nu)
def atIx (x : DiscV) (cy hd nu : Int) : Int := (cy * x.f1 + hd) * x.f2 + nu
def secAtC (x : DiscV) (cy hd nu : Int) : Int := if discB x = true then (if atIn x cy hd nu = true then 0 else 2) else 1
def secAtV (x : DiscV) (cy hd nu : Int) : SectorV := if discB x = true then (if atIn x cy hd nu = true then (x.f4[(atIx x cy hd nu).toNat]?).getD ⟨⟨#[]⟩, 0⟩ else ⟨⟨#[]⟩, 0⟩) else ⟨⟨#[]⟩, 0⟩
theorem ix_bound {a b c cy hd nu : Int} (ha : 1 ≤ a ∧ a ≤ 8) (hb : 1 ≤ b ∧ b ≤ 2) (hc : 1 ≤ c ∧ c ≤ 8) (h0 : 0 ≤ cy ∧ cy ≤ a - 1) (h1 : 0 ≤ hd ∧ hd ≤ b - 1) (h2 : 0 ≤ nu ∧ nu ≤ c - 1) :
    0 ≤ cy * b ∧ cy * b ≤ 14 ∧ 0 ≤ cy * b + hd ∧ cy * b + hd ≤ 15 ∧ 0 ≤ (cy * b + hd) * c ∧ (cy * b + hd) * c ≤ 120 ∧ 0 ≤ (cy * b + hd) * c + nu ∧ (cy * b + hd) * c + nu < a * b * c ∧ (cy * b + hd) * c + nu < 128 := by
  have h : b = 1 ∨ b = 2 := by omega
  have h2 : c = 1 ∨ c = 2 ∨ c = 3 ∨ c = 4 ∨ c = 5 ∨ c = 6 ∨ c = 7 ∨ c = 8 := by omega
  rcases h with rfl | rfl <;> rcases h2 with rfl | rfl | rfl | rfl | rfl | rfl | rfl | rfl <;> omega
end Go.Proofs.YthcbekfgkbhpeaaDoor
