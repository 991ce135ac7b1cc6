/- What runs are packed to. -/
import Derived.Test.YtogoklgppepbjaaRunVal
namespace Go.Proofs.Ytogoklgppepbjaa
open Go.RowKit
set_option linter.unusedVariables false
set_option linter.unusedSimpArgs false
/-- Where the bytes end that stand for themselves in one part, from place e on, at most fuel more of them. -/
def peV (s : ByteArray) : Nat → Nat → Nat
  | 0, e => e
  | f + 1, e => if e < s.size ∧ runV s e 3 < 3 then peV s f (e + 1) else e
theorem peV_bd (s : ByteArray) : ∀ f e, e ≤ s.size → e ≤ peV s f e ∧ peV s f e ≤ e + f ∧ peV s f e ≤ s.size
  | 0, e, h => ⟨Nat.le_refl _, Nat.le_refl _, h⟩
  | f + 1, e, h => by
    rw [peV]
    split
    · next h1 => have := peV_bd s f (e + 1) (by omega); omega
    · omega
/-- What stands from a place on, packed. -/
def pkV (s : ByteArray) (i : Nat) : List UInt8 :=
  if i < s.size then
    if 3 ≤ runV s i 64 then [(61 + runV s i 64).toUInt8, byteAt s i] ++ pkV s (max (i + 1) (i + runV s i 64))
    else [(max (i + 1) (peV s 64 i) - i - 1).toUInt8] ++ (s.extract i (max (i + 1) (peV s 64 i))).data.toList ++ pkV s (max (i + 1) (peV s 64 i))
  else []
termination_by s.size - i
theorem pkV_end {s : ByteArray} {i : Nat} (h : ¬ i < s.size) : pkV s i = [] := by rw [pkV, if_neg h]
theorem rnV_mono (s : ByteArray) (i : Nat) : ∀ f n, rnV s i f n < n + f → ∀ g, f ≤ g → rnV s i g n = rnV s i f n
  | 0, n, h, g, hg => by rw [rnV] at h; omega
  | f + 1, n, h, 0, hg => by omega
  | f + 1, n, h, g + 1, hg => by
    rw [rnV] at h ⊢
    rw [rnV]
    split
    · next h1 =>
      rw [if_pos h1] at h
      exact rnV_mono s i f (n + 1) (by omega) g (by omega)
    · rfl
/-- A run of less than three bytes is seen with a bound of three. -/
theorem run_small {s : ByteArray} {i : Nat} (hi : i < s.size) : runV s i 3 < 3 ↔ runV s i 64 < 3 := by
  unfold runV
  constructor
  · intro h
    rw [rnV_mono s i 2 1 (by simpa using h) 63 (by omega)]
    simpa using h
  · intro h
    by_cases h3 : rnV s i 2 1 < 3
    · simpa using h3
    · exfalso
      have h4 : rnV s i 2 1 = 3 := by have := rnV_le s i 2 1; omega
      have h5 : 3 ≤ rnV s i 63 1 := by
        rw [rnV] at h4 ⊢
        split at h4
        · next h6 =>
          rw [if_pos h6]
          rw [rnV] at h4 ⊢
          split at h4
          · next h7 =>
            rw [if_pos h7]
            have := rnV_le s i 61 (1 + 1 + 1)
            omega
          · omega
        · omega
      have h6 : rnV s i (64 - 1) 1 = rnV s i 63 1 := rfl
      omega
theorem pe_step {s : ByteArray} {i : Nat} (hi : i < s.size) (h : ¬ 3 ≤ runV s i 64) : i + 1 ≤ peV s 64 i := by
  rw [show (64 : Nat) = 63 + 1 from rfl, peV, if_pos ⟨hi, (run_small hi).2 (by omega)⟩]
  exact (peV_bd s 63 (i + 1) (by omega)).1
theorem pkV_run {s : ByteArray} {i : Nat} (hi : i < s.size) (h : 3 ≤ runV s i 64) : pkV s i = [(61 + runV s i 64).toUInt8, byteAt s i] ++ pkV s (i + runV s i 64) := by
  rw [pkV, if_pos hi, if_pos h, show max (i + 1) (i + runV s i 64) = i + runV s i 64 by omega]
theorem pkV_plain {s : ByteArray} {i : Nat} (hi : i < s.size) (h : ¬ 3 ≤ runV s i 64) : pkV s i = [(peV s 64 i - i - 1).toUInt8] ++ (s.extract i (peV s 64 i)).data.toList ++ pkV s (peV s 64 i) := by
  have := pe_step hi h
  rw [pkV, if_pos hi, if_neg h, show max (i + 1) (peV s 64 i) = peV s 64 i by omega]
end Go.Proofs.Ytogoklgppepbjaa
