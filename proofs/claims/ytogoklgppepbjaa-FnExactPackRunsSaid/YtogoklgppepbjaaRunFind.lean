/- The closure of impl.PackRuns. -/
import Derived.Test.YtogoklgppepbjaaRunIm
import Derived.Test.YtogoklgppepbjaaBoxes
import Derived.Deep.RegionLaw
namespace Go.Proofs.Ytogoklgppepbjaa
open Go.RowKit
set_option linter.unusedVariables false
set_option linter.unusedSimpArgs false
set_option maxRecDepth 20000
set_option maxHeartbeats 4000000 in
theorem findRun_any (s : ByteArray) (i q : Nat) (w : World) (hi : i < s.size) (hs : s.size ≤ 4096) (hq : w.cell? ⟨q, 0, none⟩ = some (.string s)) :
    Calls Try.prog 41 #[.int .i64 (i : Int), .pointer (some ⟨q, 0, none⟩)] w fun e w' => e = .returned (.tuple #[.int .i64 (runV s i 64 : Nat), .int .u8 (s[i].toNat : Int)]) ∧ Below w.heap.size w w' := by
  have hql := World.block_lt_of_cell? _ _ hq
  have KS := Lib.hid (fun w' (hb : Below w.heap.size w w') => (show w'.cell? ⟨q, 0, none⟩ = some (.string s) by rw [hb.cell (p := ⟨q, 0, none⟩) hql]; exact hq))
  have hrb := runV_bd (most := 64) hi (by omega)
  have hsh := run_sh (most := 64) hi (by omega)
  have e1 : (s.extract i s.size).size = s.size - i := by rw [ByteArray.size_extract]; omega
  have e2 : (s.extract (i + 1) s.size).size = s.size - (i + 1) := by rw [ByteArray.size_extract]; omega
  have SH := Lib.hid (show ∀ w', Calls Try.prog 42 #[.string (s.extract i s.size), .string (s.extract (i + 1) s.size), .int .i64 63] w' fun e w'' => e = .returned (.int .i64 (shV (s.extract i s.size) (s.extract (i + 1) s.size) 63 0 : Nat)) ∧ Below w'.heap.size w' w'' from fun w' => sharedBytes_any (s.extract i s.size) (s.extract (i + 1) s.size) 63 w' (by omega) (by omega) (by omega))
  simp only [show 64 - 1 = 63 from rfl] at hsh
  generalize shV (s.extract i s.size) (s.extract (i + 1) s.size) 63 0 = c at *
  generalize runV s i 64 = r at *
  obtain rfl : r = 1 + c := hsh.symm
  have hii : (i : Int) < (s.size : Int) := by omega
  obtain ⟨j, hj⟩ : ∃ j, i + 1 = j := ⟨_, rfl⟩
  have hi1 : (i : Int) + 1 = (j : Int) := by omega
  rw [hj] at SH
  have hwj : IntKind.i64.wrap (j : Int) = (j : Int) := IntWalk.i64_in _ (by omega)
  have hil : i ≤ s.size ∧ s.size ≤ s.size := by omega
  have hil1 : j ≤ s.size ∧ s.size ≤ s.size := by omega
  have hil2 : j ≤ s.size := by omega
  clear hj
  have hbi := s[i].toNat_lt
  have hwc : IntKind.i64.wrap (1 + (c : Int)) = 1 + (c : Int) := IntWalk.i64_in _ (by omega)
  clear e1 e2 hsh hrb
  go_enter Try.func41, Try.ntmps41
  go_wp2
  go_region_law (first
    | (go_simp; go_at_call 42; (with_reducible refine (SH.out _).mono ?_); rintro e w2 ⟨rfl, hb2⟩; go_wp2_with fail; have FB := Lib.hid (show Below w.heap.size w w2 from ⟨hb2.os, hb2.tape, hb2.output, hb2.size, hb2.block⟩); have hq2 := KS.out w2 FB.out)
    | fail)
  all_goals
    go_wp2
    go_ret2
    exact ⟨by rw [show ((1 + c : Nat) : Int) = 1 + (c : Int) by omega]; rfl, FB.out⟩
end Go.Proofs.Ytogoklgppepbjaa
