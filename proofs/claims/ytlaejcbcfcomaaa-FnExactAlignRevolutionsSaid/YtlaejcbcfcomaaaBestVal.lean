/- How many bytes of two strings differ; the best shift: as functions. -/
import Derived.Test.YtlaejcbcfcomaaaRot
namespace Go.Proofs.Ytlaejcbcfcomaaa
open Go.RowKit
set_option linter.unusedVariables false
/-- How many of the first k bytes differ. -/
def unlikeN (a b : ByteArray) : Nat → Nat
  | 0 => 0
  | k + 1 => unlikeN a b k + (if a.data[k]! = b.data[k]! then 0 else 1)
theorem unlikeN_le (a b : ByteArray) : ∀ k, unlikeN a b k ≤ k
  | 0 => Nat.le_refl _
  | k + 1 => by
    have := unlikeN_le a b k
    unfold unlikeN
    split <;> omega
def shD (base cells : ByteArray) (s : Int) : Nat := unlikeN base (rotS cells (rotK s base.size)) base.size
def bsStep (base cells : ByteArray) (p : Int × Nat) (s : Int) : Int × Nat := if shD base cells s < p.2 then (s, shD base cells s) else p
def bsRun (base cells : ByteArray) : Nat → Int × Nat
  | 0 => (0, shD base cells 0)
  | k + 1 => bsStep base cells (bsStep base cells (bsRun base cells k) (k + 1)) (-(k + 1))
theorem shD_le (base cells : ByteArray) (s : Int) : shD base cells s ≤ base.size := unlikeN_le _ _ _
theorem bsStep_bd {base cells : ByteArray} {p : Int × Nat} {s : Int} {m : Int} (h1 : p.2 ≤ base.size) (h2 : -m ≤ p.1 ∧ p.1 ≤ m) (h3 : -m ≤ s ∧ s ≤ m) : (bsStep base cells p s).2 ≤ base.size ∧ -m ≤ (bsStep base cells p s).1 ∧ (bsStep base cells p s).1 ≤ m := by
  unfold bsStep
  have := shD_le base cells s
  split
  · exact ⟨this, h3⟩
  · exact ⟨h1, h2⟩
theorem bsRun_bd (base cells : ByteArray) : ∀ k : Nat, (bsRun base cells k).2 ≤ base.size ∧ -(k : Int) ≤ (bsRun base cells k).1 ∧ (bsRun base cells k).1 ≤ k
  | 0 => ⟨shD_le _ _ _, by simp [bsRun], by simp [bsRun]⟩
  | k + 1 => by
    obtain ⟨h1, h2, h3⟩ := bsRun_bd base cells k
    have a := bsStep_bd (base := base) (cells := cells) (p := bsRun base cells k) (s := (k : Int) + 1) (m := ((k + 1 : Nat) : Int)) h1 (by omega) (by omega)
    have b := bsStep_bd (base := base) (cells := cells) (p := bsStep base cells (bsRun base cells k) ((k : Int) + 1)) (s := -((k : Int) + 1)) (m := ((k + 1 : Nat) : Int)) a.1 a.2 (by omega)
    exact b
theorem rotS_size (s : ByteArray) (k : Nat) (hk : k ≤ s.size) : (rotS s k).size = s.size := by
  unfold rotS
  simp [ByteArray.size_append, ByteArray.size_extract]
  omega
theorem rotS_at (s : ByteArray) (k i : Nat) (hk : k < s.size) (hi : i < s.size) : (rotS s k).data[i]! = s.data[(i + k) % s.size]! := by
  have hd : (rotS s k).data.toList = s.data.toList.drop k ++ s.data.toList.take k := by
    unfold rotS
    rw [ByteArray.data_append, Array.toList_append, ByteArray.data_extract, ByteArray.data_extract, Array.toList_extract, Array.toList_extract, List.extract_eq_take_drop, List.extract_eq_take_drop]
    have : s.data.toList.length = s.size := by simp
    rw [List.take_of_length_le (by simp)]
    simp
  have hl : s.data.toList.length = s.size := by simp
  have g (a : Array UInt8) (j : Nat) : a[j]! = a.toList[j]?.getD default := by
    rw [Array.getElem!_eq_getD, Array.getD_eq_getD_getElem?, Array.getElem?_toList]
  rw [g, g, hd]
  by_cases h : i + k < s.size
  · rw [Nat.mod_eq_of_lt h, List.getElem?_append_left (by simp; omega), List.getElem?_drop, Nat.add_comm]
  · have e : (i + k) % s.size = i + k - s.size := by
      rw [Nat.mod_eq_sub_mod (by omega), Nat.mod_eq_of_lt (by omega)]
    rw [e, List.getElem?_append_right (by simp; omega), List.getElem?_take_of_lt (by simp; omega)]
    congr 2
    simp; omega
theorem rotS_zero (s : ByteArray) : rotS s 0 = s := by
  unfold rotS
  apply ByteArray.ext
  simp
end Go.Proofs.Ytlaejcbcfcomaaa
