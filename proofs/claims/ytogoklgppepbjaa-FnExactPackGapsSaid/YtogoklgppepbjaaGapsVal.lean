/- The bytes of gaps: groups of seven bits. impl.isGap, numberOf, putNumber, every over gaps, PackGaps -/
import Derived.Test.YtogoklgppepbjaaSlices
import Derived.Test.YtogoklgppepbjaaSliceCells
import Derived.Test.YtogoklgppepbjaaDigitsOf
import Derived.Test.YtogoklgppepbjaaSpecOk
namespace Go.Proofs.Ytogoklgppepbjaa
open Go.RowKit
set_option linter.unusedVariables false
set_option linter.unusedSimpArgs false
set_option maxRecDepth 20000
/-- A number in groups of seven bits, the lowest first. -/
def numU (n : Nat) : List UInt8 := if n < 128 then [n.toUInt8] else (n % 128 + 128).toUInt8 :: numU (n / 128)
termination_by n
decreasing_by omega
theorem numU_small {n : Nat} (h : n < 128) : numU n = [n.toUInt8] := by rw [numU, if_pos h]
theorem numU_great {n : Nat} (h : ¬ n < 128) : numU n = (n % 128 + 128).toUInt8 :: numU (n / 128) := by rw [numU, if_neg h]
theorem numU_len : ∀ (k : Nat) {n : Nat}, n < 128 ^ (k + 1) → (numU n).length ≤ k + 1
  | 0, n, h => by rw [numU_small (by simpa using h)]; simp
  | k + 1, n, h => by
    by_cases h1 : n < 128
    · rw [numU_small h1]; simp
    · rw [numU_great h1, List.length_cons]
      have := numU_len k (n := n / 128) (by rw [Nat.div_lt_iff_lt_mul (by omega), ← Nat.pow_succ]; exact h)
      omega
theorem numU_len5 {n : Nat} (h : n ≤ 8000001) : (numU n).length ≤ 4 :=
  numU_len 3 (Nat.lt_of_le_of_lt h (by decide))
/-- The number that stands for a difference. -/
def numOf (d : Int) : Nat := if d < 0 then (-2 * d - 1).toNat else (2 * d).toNat
def gapWas (zs : List Int) (k : Nat) : Int := if k = 0 then 0 else zs.getD (k - 1) 0
def gapAt (zs : List Int) (k : Nat) : List UInt8 := numU (numOf (zs.getD k 0 - gapWas zs k))
def gapsTo (zs : List Int) (k : Nat) : List UInt8 := (List.range k).flatMap (gapAt zs)
theorem gapsTo_succ (zs : List Int) (k : Nat) : gapsTo zs (k + 1) = gapsTo zs k ++ gapAt zs k := by
  unfold gapsTo; rw [List.range_succ, List.flatMap_append]; simp
theorem gapWas_succ {zs : List Int} {k : Nat} {x : Int} (h : zs[k]? = some x) : gapWas zs (k + 1) = x := by
  unfold gapWas; rw [if_neg (by omega)]; simp [h]
def gapsB (zs : List Int) : Bool := zs.all (inB 1 2000000)
def gapsOk (zs : List Int) : Bool := decide (zs.length ≤ 4000) && gapsB zs
theorem gapWas_bd {zs : List Int} (h : gapsB zs = true) (k : Nat) : 0 ≤ gapWas zs k ∧ gapWas zs k ≤ 2000000 := by
  unfold gapWas
  split
  · omega
  · rw [List.getD_eq_getElem?_getD]
    cases e : zs[k-1]? with
    | none => simp
    | some x => have := inB_iff.1 (List.all_eq_true.1 h x (List.mem_of_getElem? e)); simp; omega
theorem gap_bd {zs : List Int} (h : gapsB zs = true) {k : Nat} {x : Int} (e : zs[k]? = some x) : 1 ≤ x ∧ x ≤ 2000000 := inB_iff.1 (List.all_eq_true.1 h x (List.mem_of_getElem? e))
def gapsStr (zs : List Int) : ByteArray := if gapsOk zs = true then ⟨(gapsTo zs zs.length).toArray⟩ else ByteArray.empty
theorem u8_of_nat {n : Nat} (h : n < 256) : IntKind.u8.wrap (n : Int) = (n : Int) := wraps_u8 n (by omega) (by omega)
end Go.Proofs.Ytogoklgppepbjaa
