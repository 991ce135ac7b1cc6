/- spec.l01Number: the number of a text without leading zeros, or -1. -/
import Derived.Test.YtbckicdjbgfofaaDoorSpecIsName
namespace Go.Proofs.YtbckicdjbgfofaaDoor
open Go.RowKit
set_option linter.unusedVariables false
set_option linter.unusedSimpArgs false
set_option maxRecDepth 20000
/-- The number of the first k bytes, if all are digits. -/
def numD (s : ByteArray) : Nat → Option Nat
  | 0 => some 0
  | k + 1 => match numD s k, s.data.toList[k]? with
    | some n, some c => if 48 ≤ c.toNat ∧ c.toNat ≤ 57 then some (n * 10 + (c.toNat - 48)) else none
    | _, _ => none
def numW (s : ByteArray) : Int :=
  if s.size = 0 ∨ 7 < s.size ∨ (s.data.toList[0]?.map UInt8.toNat = some 48 ∧ 1 < s.size) then -1 else
  match numD s s.size with
  | some n => n
  | none => -1
theorem numD_hit {s : ByteArray} {k n d : Nat} (h : k < s.size) (hn : numD s k = some n) (e : s[k].toNat = 48 + d) (hd : d ≤ 9) : numD s (k + 1) = some (n * 10 + d) := by
  have hl : k < s.data.toList.length := by simpa using h
  have h2 : s.data.toList[k]? = some s[k] := by rw [List.getElem?_eq_getElem hl]; rfl
  rw [numD, hn, h2]
  simp only [e]
  rw [if_pos (by omega), show 48 + d - 48 = d by omega]
theorem numD_miss {s : ByteArray} {k : Nat} (h : k < s.size) (e : ¬ (48 ≤ s[k].toNat ∧ s[k].toNat ≤ 57)) : numD s (k + 1) = none := by
  have hl : k < s.data.toList.length := by simpa using h
  have h2 : s.data.toList[k]? = some s[k] := by rw [List.getElem?_eq_getElem hl]; rfl
  rw [numD, h2]
  cases numD s k with
  | none => rfl
  | some n => exact if_neg e
theorem numD_none (s : ByteArray) (k : Nat) (h : numD s k = none) (j : Nat) : numD s (k + j) = none := by
  induction j with
  | zero => exact h
  | succ j ih => rw [show k + (j + 1) = (k + j) + 1 by omega, numD, ih]
theorem numD_bd (s : ByteArray) (k n : Nat) (h : numD s k = some n) : n < 10 ^ k := by
  induction k generalizing n with
  | zero => rw [numD] at h; cases h; decide
  | succ k ih =>
    rw [numD] at h
    split at h
    · rename_i m c hm hc
      have := ih m hm
      split at h
      · cases h
        rw [Nat.pow_succ]
        omega
      · cases h
    · cases h
end Go.Proofs.YtbckicdjbgfofaaDoor
