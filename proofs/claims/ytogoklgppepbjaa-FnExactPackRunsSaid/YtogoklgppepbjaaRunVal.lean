/- Runs of equal bytes; impl.sharedBytes, spec.l14Run -/
import Derived.Test.YtogoklgppepbjaaDeltaVal
import Derived.Test.YtogoklgppepbjaaSpecOk
namespace Go.Proofs.Ytogoklgppepbjaa
open Go.RowKit
set_option linter.unusedVariables false
set_option linter.unusedSimpArgs false
set_option maxRecDepth 20000
/-- How many bytes from place i on are equal to the first one, at most n + fuel, where n are known. -/
def rnV (s : ByteArray) (i : Nat) : Nat → Nat → Nat
  | 0, n => n
  | f + 1, n => if i + n < s.size ∧ byteAt s (i + n) = byteAt s i then rnV s i f (n + 1) else n
def runV (s : ByteArray) (i most : Nat) : Nat := rnV s i (most - 1) 1
/-- How many bytes are shared, at most c + fuel. -/
def shV (a b : ByteArray) : Nat → Nat → Nat
  | 0, c => c
  | f + 1, c => if (c < a.size ∧ c < b.size) ∧ byteAt a c = byteAt b c then shV a b f (c + 1) else c
theorem rnV_le (s : ByteArray) (i : Nat) : ∀ f n, n ≤ rnV s i f n ∧ rnV s i f n ≤ n + f
  | 0, n => ⟨Nat.le_refl _, Nat.le_refl _⟩
  | f + 1, n => by
    rw [rnV]
    split
    · have := rnV_le s i f (n + 1); omega
    · omega
theorem shV_le (a b : ByteArray) : ∀ f c, c ≤ shV a b f c ∧ shV a b f c ≤ c + f
  | 0, c => ⟨Nat.le_refl _, Nat.le_refl _⟩
  | f + 1, c => by
    rw [shV]
    split
    · have := shV_le a b f (c + 1); omega
    · omega
theorem rnV_end (s : ByteArray) (i : Nat) (hi : i < s.size) : ∀ f n, i + n ≤ s.size → i + rnV s i f n ≤ s.size
  | 0, n, h => h
  | f + 1, n, h => by
    rw [rnV]
    split
    · next h1 => exact rnV_end s i hi f (n + 1) (by omega)
    · exact h
theorem runV_bd {s : ByteArray} {i most : Nat} (hi : i < s.size) (hm : 1 ≤ most) : 1 ≤ runV s i most ∧ runV s i most ≤ most ∧ i + runV s i most ≤ s.size := by
  unfold runV
  have h1 := rnV_le s i (most - 1) 1
  have h2 := rnV_end s i hi (most - 1) 1 (by omega)
  omega
theorem byteAt_extract {s : ByteArray} {i k : Nat} (h : i + k < s.size) : byteAt (s.extract i s.size) k = byteAt s (i + k) := by
  have h1 : k < (s.extract i s.size).size := by rw [ByteArray.size_extract]; omega
  rw [byteAt_eq _ _ h1, byteAt_eq _ _ h, ByteArray.getElem_extract]
/-- A run is equal to itself one byte later. -/
theorem sh_run {s : ByteArray} {i : Nat} (hi : i < s.size) : ∀ f c, i + c < s.size → byteAt s (i + c) = byteAt s i → rnV s i f (c + 1) = 1 + shV (s.extract i s.size) (s.extract (i + 1) s.size) f c
  | 0, c, _, _ => by simp [rnV, shV]; omega
  | f + 1, c, hc, he => by
    rw [rnV, shV]
    have e1 : (s.extract i s.size).size = s.size - i := by rw [ByteArray.size_extract]; omega
    have e2 : (s.extract (i + 1) s.size).size = s.size - (i + 1) := by rw [ByteArray.size_extract]; omega
    rw [e1, e2]
    by_cases h1 : i + (c + 1) < s.size
    · rw [byteAt_extract (by omega), byteAt_extract (by omega), show i + 1 + c = i + (c + 1) by omega, he]
      by_cases h2 : byteAt s (i + (c + 1)) = byteAt s i
      · rw [if_pos ⟨h1, h2⟩, if_pos ⟨⟨by omega, by omega⟩, h2.symm⟩]
        exact sh_run hi f (c + 1) h1 h2
      · rw [if_neg (fun h => h2 h.2), if_neg (fun h => h2 h.2.symm)]; omega
    · rw [if_neg (fun h => h1 h.1), if_neg (fun h => by omega)]; omega
theorem run_sh {s : ByteArray} {i most : Nat} (hi : i < s.size) (hm : 1 ≤ most) : 1 + shV (s.extract i s.size) (s.extract (i + 1) s.size) (most - 1) 0 = runV s i most := (sh_run hi (most - 1) 0 (by omega) rfl).symm
theorem byteEq {a b : UInt8} : a = b ↔ (a.toNat : Int) = (b.toNat : Int) := by
  rw [← UInt8.toNat_inj]; omega
end Go.Proofs.Ytogoklgppepbjaa
