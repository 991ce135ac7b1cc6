/- spec.BytesOf -/
import Derived.Test.YtffefhgemmjkoaaReadHex
import Derived.WalkMore
namespace Go.Proofs.Ytffefhgemmjkoaa
open Go.RowKit
set_option linter.unusedVariables false
/-- What t bits from place k on come to. -/
def bitV (d : Nat → Int) (k : Nat) : Nat → Int
  | 0 => 0
  | t + 1 => (bitV d k t * 2 + d (k + t)) % 256
theorem bitV_bd (d : Nat → Int) (k t : Nat) : 0 ≤ bitV d k t ∧ bitV d k t < 256 := by
  cases t with
  | zero => simp [bitV]
  | succ t => unfold bitV; omega
theorem accV_bits (d : Nat → Int) (k t : Nat) : accV 2 d (k + t) % 256 = (bitV d k t + accV 2 d k * 2 ^ t) % 256 := by
  induction t with
  | zero => simp [bitV]
  | succ t ih =>
    show ((accV 2 d (k + t) * 2 + d (k + t)) % 256) % 256 = _
    unfold bitV
    rw [Int.pow_succ, ← Int.mul_assoc]
    generalize accV 2 d (k + t) = x at ih ⊢
    generalize accV 2 d k * 2 ^ t = z at ih ⊢
    generalize bitV d k t = y at ih ⊢
    omega
theorem accV_eight (d : Nat → Int) (k : Nat) : accV 2 d (k + 8) = bitV d k 8 := by
  have h := accV_bits d k 8
  have h1 := accV_bd 2 d (k + 8)
  have h2 := bitV_bd d k 8
  have e : accV 2 d k * 2 ^ 8 = accV 2 d k * 256 := rfl
  rw [e] at h
  omega
theorem accO_eight (d : Nat → Int) (j : Nat) : accO 2 8 d (8 * (j + 1)) = accO 2 8 d (8 * j) ++ [(bitV d (8 * j) 8).toNat.toUInt8] := by
  have step : ∀ t, t < 7 → accO 2 8 d (8 * j + (t + 1)) = accO 2 8 d (8 * j + t) := by
    intro t ht
    show (if (8 * j + t + 1) % 8 = 0 then _ else accO 2 8 d (8 * j + t)) = _
    rw [if_neg (by omega)]
  have e7 : accO 2 8 d (8 * j + 7) = accO 2 8 d (8 * j) := by
    rw [step 6 (by omega), step 5 (by omega), step 4 (by omega), step 3 (by omega), step 2 (by omega), step 1 (by omega), step 0 (by omega)]
    rfl
  have e8 : 8 * (j + 1) = 8 * j + 7 + 1 := by omega
  rw [e8]
  show (if (8 * j + 7 + 1) % 8 = 0 then accO 2 8 d (8 * j + 7) ++ [(accV 2 d (8 * j + 8)).toNat.toUInt8] else _) = _
  rw [if_pos (by omega), e7, accV_eight]
theorem digOk_add (f : Nat → Int) (s : ByteArray) (k t : Nat) : digOk f s (k + (t + 1)) = (digOk f s (k + t) && decide (0 ≤ digAt f s (k + t))) := digOk_succ f s (k + t)
end Go.Proofs.Ytffefhgemmjkoaa
