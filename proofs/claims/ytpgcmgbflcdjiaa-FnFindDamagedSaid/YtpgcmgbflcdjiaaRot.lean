/- Turning cells: plain facts. -/
import Derived.Test.YtpgcmgbflcdjiaaBase
namespace Go.Proofs.Ytpgcmgbflcdjiaa
open Go.RowKit
set_option linter.unusedVariables false
theorem rot_bd (a : Int) (n : Nat) (h : 0 < n) : -(n : Int) < a.tmod n ∧ a.tmod n < n := by
  have h1 := Int.lt_tmod_of_pos a (b := (n : Int)) (by omega)
  have h2 := Int.tmod_lt_of_pos a (b := (n : Int)) (by omega)
  omega
def rotS (s : ByteArray) (k : Nat) : ByteArray := s.extract k s.size ++ s.extract 0 k
def rotK (a : Int) (n : Nat) : Nat := (a % (n : Int)).toNat
theorem rotK_lt (a : Int) (n : Nat) (h : 0 < n) : rotK a n < n := by
  have h1 := Int.emod_nonneg a (b := (n : Int)) (by omega)
  have h2 := Int.emod_lt_of_pos a (b := (n : Int)) (by omega)
  unfold rotK; omega
theorem rotK_eq (a : Int) (n : Nat) (h : 0 < n) : (a.tmod n + n) % n = (rotK a n : Int) := by
  have h1 := Int.emod_nonneg a (b := (n : Int)) (by omega)
  have h3 : (a.tmod n + n) % n = a % n := by
    have h4 := Int.mul_tdiv_add_tmod a n
    have h5 : a.tmod n + n = a + n * (1 - a.tdiv n) := by
      rw [Int.mul_sub, Int.mul_one]; omega
    rw [h5, Int.add_mul_emod_self_left]
  rw [h3]; unfold rotK; omega
end Go.Proofs.Ytpgcmgbflcdjiaa
