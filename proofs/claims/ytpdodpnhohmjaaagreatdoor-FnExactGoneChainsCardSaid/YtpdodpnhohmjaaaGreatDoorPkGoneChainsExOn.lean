/- impl.blocksFor, impl.byteText, impl.extentLayout, header of a disk with extents, impl.ExtentsOn -/
import Derived.Test.YtpdodpnhohmjaaaGreatDoorPkGoneChainsD
import Derived.Test.YtpdodpnhohmjaaaGreatDoorPkGoneChainsE
import Derived.IntWalk
namespace Go.Proofs.YtpdodpnhohmjaaaGreatDoor
open Go.RowKit
set_option maxRecDepth 20000
set_option linter.unusedVariables false
set_option linter.unusedSimpArgs false
set_option maxRecDepth 20000
theorem blocksFor_any (n z : Nat) (w : World) (hz : 0 < z) (hz2 : z ≤ 1000000) (hn : n ≤ 1000000) :
    Calls Tryz.prog 41 #[.int .i64 (n : Int), .int .i64 (z : Int)] w fun e w' => e = .returned (.int .i64 (((n + z - 1) / z : Nat) : Int)) ∧ w = w' := by
  have e1 : (n : Int) + (z : Int) - 1 = ((n + z - 1 : Nat) : Int) := by omega
  have e2 : ¬ (z : Int) = 0 := by omega
  have e3 : ((z : Int) == 0) = false := by simp; omega
  have e4 : Int.tdiv ((n + z - 1 : Nat) : Int) (z : Int) = (((n + z - 1) / z : Nat) : Int) := by rw [Int.tdiv_eq_ediv_of_nonneg (by omega)]; exact (Int.natCast_ediv _ _).symm
  have e5 : (n + z - 1) / z ≤ n + z - 1 := Nat.div_le_self _ _
  generalize (n + z - 1) / z = q at *
  have e6 : wrap64 (q : Int) = (q : Int) := by unfold wrap64; omega
  have e7 : IntKind.i64.wrap (q : Int) = (q : Int) := IntWalk.i64_in _ (by omega)
  go_enter Tryz.func41, Tryz.ntmps41
  go_wp2
  go_ret
  exact ⟨rfl, rfl⟩
theorem byteT_any (n : Nat) (h : n < 256) (w : World) :
    Calls Tryz.prog 84 #[.int .i64 (n : Int)] w fun e w' => e = .returned (.string ⟨#[n.toUInt8]⟩) ∧ Below w.heap.size w w' := by
  have hcv := conv_new1 w (n : Int) (by omega) (by omega)
  rw [Int.toNat_natCast] at hcv
  have h2 : (n : Int) < 256 := by omega
  go_enter Tryz.func84, Tryz.ntmps84
  go_wp2
  go_ret
  exact ⟨rfl, (Below.refl _ _).alloc (Nat.le_refl _) _⟩
theorem head_lit (a b c : UInt8) : (⟨#[69, 88]⟩ : ByteArray) ++ ⟨#[a]⟩ ++ ⟨#[b]⟩ ++ ⟨#[c]⟩ = ⟨#[69, 88, a, b, c]⟩ := by
  apply ByteArray.ext
  simp
/-- The answer of ExtentsOn. -/
def ExRes (l : ExtentLayoutV) (c : Int) (w : World) (e : Ending) (w' : World) : Prop :=
  e = .returned (.tuple #[.agg #[.int .i64 l.f0, .int .i64 l.f1, .int .i64 l.f2, .int .i64 l.f3], .int .i64 c]) ∧ Below w.heap.size w w'
end Go.Proofs.YtpdodpnhohmjaaaGreatDoor
