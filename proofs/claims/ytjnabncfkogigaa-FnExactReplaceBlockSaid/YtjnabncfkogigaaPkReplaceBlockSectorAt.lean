/- impl.SectorBytes, spec.SectorBytes, (impl.geometry).index, trackAt, impl.SectorAt, spec.SectorAt -/
import Derived.Test.YtjnabncfkogigaaPkReplaceBlockDiscValid
import Derived.Test.YtjnabncfkogigaaPkReplaceBlockDiscSpecOk
import Derived.Test.YtjnabncfkogigaaPkReplaceBlockBoxF
namespace Go.Proofs.Ytjnabncfkogigaa
open Go.RowKit
set_option linter.unusedVariables false
set_option linter.unusedSimpArgs false
set_option maxRecDepth 20000
def secBytesV (z : Int) : Int := if inB 0 2 z = true then secN z else 0
set_option maxHeartbeats 1000000 in
theorem index_any (a b c d t nu : Int) (w : World) (h1 : wrap64 (t * c) = t * c) (h2 : wrap64 (t * c + nu) = t * c + nu) :
    Calls Try.prog 133 #[.agg #[.int .i64 a, .int .i64 b, .int .i64 c, .int .i64 d], .int .i64 t, .int .i64 nu] w fun e w' => e = .returned (.int .i64 (t * c + nu)) ∧ Below w.heap.size w w' := by
  go_enter Try.func133, Try.ntmps133
  go_wp2
  go_ret
  exact ⟨ret_int (by first | rfl | exact h2 | (rw [h1]; exact h2)), by go_grown⟩
def atIn (x : DiscV) (cy hd nu : Int) : Bool := inB 0 (x.f0 - 1) cy && (inB 0 (x.f1 - 1) hd && inB 0 (x.f2 - 1) nu)
def atIx (x : DiscV) (cy hd nu : Int) : Int := (cy * x.f1 + hd) * x.f2 + nu
def secAtC (x : DiscV) (cy hd nu : Int) : Int := if discB x = true then (if atIn x cy hd nu = true then 0 else 2) else 1
def secAtV (x : DiscV) (cy hd nu : Int) : SectorV := if discB x = true then (if atIn x cy hd nu = true then (x.f4[(atIx x cy hd nu).toNat]?).getD ⟨⟨#[]⟩, 0⟩ else ⟨⟨#[]⟩, 0⟩) else ⟨⟨#[]⟩, 0⟩
theorem ix_bound {a b c cy hd nu : Int} (ha : 1 ≤ a ∧ a ≤ 8) (hb : 1 ≤ b ∧ b ≤ 2) (hc : 1 ≤ c ∧ c ≤ 8) (h0 : 0 ≤ cy ∧ cy ≤ a - 1) (h1 : 0 ≤ hd ∧ hd ≤ b - 1) (h2 : 0 ≤ nu ∧ nu ≤ c - 1) :
    0 ≤ cy * b ∧ cy * b ≤ 14 ∧ 0 ≤ cy * b + hd ∧ cy * b + hd ≤ 15 ∧ 0 ≤ (cy * b + hd) * c ∧ (cy * b + hd) * c ≤ 120 ∧ 0 ≤ (cy * b + hd) * c + nu ∧ (cy * b + hd) * c + nu < a * b * c ∧ (cy * b + hd) * c + nu < 128 := by
  have h : b = 1 ∨ b = 2 := by omega
  have h2 : c = 1 ∨ c = 2 ∨ c = 3 ∨ c = 4 ∨ c = 5 ∨ c = 6 ∨ c = 7 ∨ c = 8 := by omega
  rcases h with rfl | rfl <;> rcases h2 with rfl | rfl | rfl | rfl | rfl | rfl | rfl | rfl <;> omega
end Go.Proofs.Ytjnabncfkogigaa
