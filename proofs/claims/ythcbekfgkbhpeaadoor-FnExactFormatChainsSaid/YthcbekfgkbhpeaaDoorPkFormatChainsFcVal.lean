/- A disk with chains is formatted: the answer, in pure words. -/
import Derived.Test.YthcbekfgkbhpeaaDoorPkFormatChainsDskSp
import Derived.Test.YthcbekfgkbhpeaaDoorPkFormatChainsD
namespace Go.Proofs.YthcbekfgkbhpeaaDoor
open Go.RowKit
set_option maxRecDepth 20000
set_option linter.unusedVariables false
/-- k bytes from b on are set to v, one after another. -/
def setsL (fl : List UInt8) (b : Nat) (v : UInt8) : Nat → List UInt8
  | 0 => fl
  | k + 1 => (setsL fl b v k).set (b + k) v
theorem setsL_len (fl : List UInt8) (b : Nat) (v : UInt8) : ∀ k, (setsL fl b v k).length = fl.length
  | 0 => rfl
  | k + 1 => by unfold setsL; rw [List.length_set]; exact setsL_len fl b v k
theorem cutL_set_in {fl : List UInt8} {k r z : Nat} {v : UInt8} (hr : r < z) : cutL (fl.set (k + r) v) k z = (cutL fl k z).set r v := by
  apply List.ext_getElem?
  intro j
  unfold cutL
  rw [List.getElem?_take, List.getElem?_drop, List.getElem?_set, List.getElem?_set, List.getElem?_take, List.getElem?_drop, List.length_take, List.length_drop]
  by_cases h1 : j < z
  · rw [if_pos h1, if_pos h1]
    by_cases h2 : r = j
    · subst h2
      rw [if_pos rfl, if_pos rfl]
      by_cases h3 : k + r < fl.length
      · rw [if_pos h3, if_pos (by omega)]
      · rw [if_neg h3, if_neg (by omega)]
    · rw [if_neg (by omega), if_neg h2]
  · rw [if_neg h1, if_neg (by omega), if_neg h1]
theorem cutL_set_out {fl : List UInt8} {k m z : Nat} {v : UInt8} (h : m < k ∨ k + z ≤ m) : cutL (fl.set m v) k z = cutL fl k z := by
  apply List.ext_getElem?
  intro j
  unfold cutL
  rw [List.getElem?_take, List.getElem?_drop, List.getElem?_set, List.getElem?_take, List.getElem?_drop]
  by_cases h1 : j < z
  · rw [if_pos h1, if_pos h1, if_neg (by omega)]
  · rw [if_neg h1, if_neg h1]
theorem unflatL_at {bs : List UInt8} {n z i : Nat} (h : i < n) : (unflatL bs n z)[i]? = some ⟨⟨(cutL bs (i * z) z).toArray⟩⟩ := by
  unfold unflatL
  rw [List.getElem?_map, List.getElem?_range h]
  rfl
theorem unflatL_set {fl : List UInt8} {n z q r : Nat} {v : UInt8} (hq : q < n) (hr : r < z) : unflatL (fl.set (q * z + r) v) n z = (unflatL fl n z).set q ⟨⟨((cutL fl (q * z) z).set r v).toArray⟩⟩ := by
  apply List.ext_getElem?
  intro i
  by_cases hi : i < n
  · rw [unflatL_at hi, List.getElem?_set, unflatL_len, unflatL_at hi]
    by_cases e : q = i
    · subst e
      rw [if_pos rfl, if_pos hq, cutL_set_in hr]
    · rw [if_neg e, cutL_set_out]
      rcases Nat.lt_or_ge q i with h | h
      · left
        have : (q + 1) * z ≤ i * z := Nat.mul_le_mul_right z h
        rw [Nat.add_mul] at this
        omega
      · right
        have : (i + 1) * z ≤ q * z := Nat.mul_le_mul_right z (by omega)
        rw [Nat.add_mul] at this
        omega
  · rw [List.getElem?_eq_none (by rw [unflatL_len]; omega), List.getElem?_eq_none (by rw [List.length_set, unflatL_len]; omega)]
theorem unflat_blank {s : ByteArray} {n z : Nat} (hs : s.size ≤ z) (hn : 1 ≤ n) : unflatL (s.data.toList ++ List.replicate (n * z - s.size) 0) n z = blankL n z (padB s z 0) := by
  apply List.ext_getElem?
  intro i
  have hsl : s.data.toList.length = s.size := by simp
  by_cases hi : i < n
  · rw [unflatL_at hi]
    unfold blankL
    match i, hi with
    | 0, hi =>
      rw [List.getElem?_cons_zero]
      congr 2
      apply ByteArray.ext
      apply Array.ext'
      have hz : z ≤ n * z := Nat.le_mul_of_pos_left z (by omega)
      unfold padB cutL
      rw [Nat.zero_mul, List.drop_zero, List.take_append, hsl, List.take_of_length_le (by omega), List.take_replicate, Nat.min_eq_left (by omega)]
      simp
    | i + 1, hi =>
      rw [List.getElem?_cons_succ, List.getElem?_replicate, if_pos (by omega)]
      congr 2
      apply ByteArray.ext
      apply Array.ext'
      have h1 : (i + 1 + 1) * z ≤ n * z := Nat.mul_le_mul_right z (by omega)
      have h2 : z ≤ (i + 1) * z := Nat.le_mul_of_pos_left z (by omega)
      rw [Nat.add_mul (i + 1) 1 z] at h1
      unfold cutL
      rw [List.drop_append, List.drop_of_length_le (by omega), List.nil_append, List.drop_replicate, List.take_replicate, Nat.min_eq_left (by omega)]
  · rw [List.getElem?_eq_none (by rw [unflatL_len]; omega), List.getElem?_eq_none (by rw [blankL_len hn]; omega)]
/-- The bytes of a blank disk with a header, and of one with its links. -/
def fcFl (n z : Nat) : List UInt8 := (chTop n).data.toList ++ List.replicate (n * z - 6) 0
def fcL9 (n z : Nat) : List StringV := unflatL (setsL (fcFl n z) z 253 (chData n z)) n z
def fcC (n z : Int) : Int := if (inB 8 128 n && sizeI z) = true then 0 else 2
def fcL (n z : Int) : List StringV := if fcC n z = 0 then fcL9 n.toNat z.toNat else []
theorem chData_fit {n z : Nat} (hn : 8 ≤ n) (hz : z = 8 ∨ z = 16 ∨ z = 32) : z + chData n z ≤ n * z ∧ 6 ≤ n * z := by
  unfold chData chDir
  rcases hz with rfl | rfl | rfl <;> omega
theorem fcFl_len {n z : Nat} (h : 6 ≤ n * z) : (fcFl n z).length = n * z := by
  unfold fcFl
  have e : (chTop n).data.toList.length = 6 := by have := chTop_size n; rw [bytes_len]; exact this
  rw [List.length_append, e, List.length_replicate]
  omega
theorem fcFl_blank {n z : Nat} (hn : 1 ≤ n) (hz : z = 8 ∨ z = 16 ∨ z = 32) : unflatL (fcFl n z) n z = blankL n z (chHead n z) := by
  have h := unflat_blank (s := chTop n) (n := n) (z := z) (by rw [chTop_size]; omega) hn
  rw [chTop_size] at h
  exact h
theorem fcL_len (n z : Int) : (fcL n z).length ≤ 1048576 := by
  unfold fcL
  split
  case isTrue h =>
    unfold fcC at h
    split at h
    case isTrue h1 =>
      simp only [Bool.and_eq_true] at h1
      have := inB_iff.1 h1.1
      unfold fcL9
      rw [unflatL_len]
      omega
    case isFalse => omega
  case isFalse => simp
end Go.Proofs.YthcbekfgkbhpeaaDoor
