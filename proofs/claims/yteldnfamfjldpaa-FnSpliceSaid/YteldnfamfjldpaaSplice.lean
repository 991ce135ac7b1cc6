/- Splicing: plain facts. -/
import Derived.Test.YteldnfamfjldpaaRot
namespace Go.Proofs.Yteldnfamfjldpaa
open Go.RowKit
set_option linter.unusedVariables false
/-- Place j of n cells when the first k of a part have been laid from place a on. -/
def spAt (cells part : ByteArray) (a k j : Nat) : UInt8 :=
  if (j + cells.size - a) % cells.size < k then part[(j + cells.size - a) % cells.size]?.getD 0 else cells[j]?.getD 0
def splice (cells part : ByteArray) (a : Nat) : ByteArray := ⟨((List.range cells.size).map (spAt cells part a part.size)).toArray⟩
theorem splice_size (cells part : ByteArray) (a : Nat) : (splice cells part a).size = cells.size := by
  show ((List.range cells.size).map (spAt cells part a part.size)).toArray.size = _
  simp
theorem splice_at (cells part : ByteArray) (a j : Nat) (h : j < (splice cells part a).size) : (splice cells part a)[j] = spAt cells part a part.size j := by
  rw [ByteArray.getElem_eq_getElem_data]
  simp [splice]
theorem back_mod {a j n : Nat} (hj : j < n) (ha : a < n) : (j + n - a) % n = if a ≤ j then j - a else j + n - a := by
  split
  · rw [show j + n - a = (j - a) + n by omega, Nat.add_mod_right, Nat.mod_eq_of_lt (by omega)]
  · exact Nat.mod_eq_of_lt (by omega)
theorem fore_mod {a k n : Nat} (hk : k < n) (ha : a < n) : (a + k) % n = if a + k < n then a + k else a + k - n := by
  split
  · exact Nat.mod_eq_of_lt (by omega)
  · rw [show a + k = (a + k - n) + n by omega, Nat.add_mod_right, Nat.mod_eq_of_lt (by omega)]
    omega
/-- Laying one more. -/
theorem spAt_succ (cells part : ByteArray) {a k j : Nat} (hj : j < cells.size) (ha : a < cells.size) (hk : k < cells.size) :
    spAt cells part a (k + 1) j = if j = (a + k) % cells.size then part[k]?.getD 0 else spAt cells part a k j := by
  unfold spAt
  rw [back_mod hj ha, fore_mod hk ha]
  by_cases e : j = if a + k < cells.size then a + k else a + k - cells.size
  · rw [if_pos e]
    have h1 : (if a ≤ j then j - a else j + cells.size - a) = k := by
      split at e <;> split <;> omega
    rw [h1, if_pos (by omega)]
  · rw [if_neg e]
    have h1 : (if a ≤ j then j - a else j + cells.size - a) ≠ k := by
      split at e <;> split <;> omega
    by_cases h2 : (if a ≤ j then j - a else j + cells.size - a) < k
    · rw [if_pos h2, if_pos (by omega)]
    · rw [if_neg h2, if_neg (by omega)]
theorem rotS_size (s : ByteArray) (k : Nat) (h : k ≤ s.size) : (rotS s k).size = s.size := by
  unfold rotS; rw [ByteArray.size_append, ByteArray.size_extract, ByteArray.size_extract]; omega
theorem rotS_at (s : ByteArray) (k j : Nat) (hk : k ≤ s.size) (h : j < (rotS s k).size) (h' : (j + k) % s.size < s.size) : (rotS s k)[j] = s[(j + k) % s.size] := by
  have hj : j < s.size := by rw [rotS_size s k hk] at h; exact h
  by_cases h1 : j < s.size - k
  · have e : (rotS s k)[j] = (s.extract k s.size)[j]'(by rw [ByteArray.size_extract]; omega) := ByteArray.getElem_append_left (by rw [ByteArray.size_extract]; omega)
    rw [e, ByteArray.getElem_extract]
    congr 1
    rw [Nat.mod_eq_of_lt (by omega)]; omega
  · have hsz : (s.extract k s.size).size = s.size - k := by rw [ByteArray.size_extract]; omega
    have e : (rotS s k)[j] = (s.extract 0 k)[j - (s.extract k s.size).size]'(by simp only [ByteArray.size_extract]; omega) := ByteArray.getElem_append_right (by omega)
    rw [e, ByteArray.getElem_extract]
    congr 1
    rw [hsz, show j + k = (j + k - s.size) + s.size by omega, Nat.add_mod_right, Nat.mod_eq_of_lt (by omega)]
    omega
theorem rotK_nat (a n : Nat) (h : a < n) : rotK (a : Int) n = a := by
  unfold rotK
  rw [Int.emod_eq_of_lt (by omega) (by omega)]; omega
theorem rotK_neg (a n : Nat) (h : a < n) : rotK (-(a : Int)) n = if a = 0 then 0 else n - a := by
  unfold rotK
  by_cases h0 : a = 0
  · subst h0; simp
  · rw [if_neg h0]
    have e : (-(a : Int)) % n = ((n - a : Nat) : Int) := by
      rw [show (-(a : Int)) = ((n - a : Nat) : Int) + (n : Int) * (-1) by omega, Int.add_mul_emod_self_left, Int.emod_eq_of_lt (by omega) (by omega)]
    rw [e]; omega
/-- What the model computes is the splice. -/
theorem splice_spec (cells part : ByteArray) (a : Nat) (ha : a < cells.size) (hm : part.size ≤ cells.size) :
    rotS (part ++ (rotS cells (rotK (a : Int) cells.size)).extract part.size (rotS cells (rotK (a : Int) cells.size)).size) (rotK (-(a : Int)) cells.size) = splice cells part a := by
  rw [rotK_nat a _ ha]
  have hrs : (rotS cells a).size = cells.size := rotS_size _ _ (by omega)
  have hps : (part ++ (rotS cells a).extract part.size (rotS cells a).size).size = cells.size := by
    rw [ByteArray.size_append, ByteArray.size_extract, hrs]; omega
  have hkn : rotK (-(a : Int)) cells.size ≤ cells.size := Nat.le_of_lt (rotK_lt _ _ (by omega))
  have hsz : (rotS (part ++ (rotS cells a).extract part.size (rotS cells a).size) (rotK (-(a : Int)) cells.size)).size = cells.size := by
    rw [rotS_size _ _ (by omega), hps]
  apply ByteArray.ext_getElem
  · rw [hsz, splice_size]
  · intro j hi hi'
    have hj : j < cells.size := by omega
    rw [splice_at, rotS_at _ _ _ (by omega) _ (by rw [hps]; exact Nat.mod_lt _ (by omega))]
    have e : (j + rotK (-(a : Int)) cells.size) % cells.size = (j + cells.size - a) % cells.size := by
      rw [rotK_neg a _ ha]
      by_cases h0 : a = 0
      · subst h0; simp
      · rw [if_neg h0]; congr 1; omega
    have hml : (j + cells.size - a) % cells.size < cells.size := Nat.mod_lt _ (by omega)
    simp only [hps, e]
    unfold spAt
    by_cases h2 : (j + cells.size - a) % cells.size < part.size
    · rw [if_pos h2, ByteArray.getElem_append_left h2]
      simp [h2]
    · rw [if_neg h2, ByteArray.getElem_append_right (by omega), ByteArray.getElem_extract]
      rw [rotS_at _ _ _ (by omega) _ (Nat.mod_lt _ (by omega))]
      have e2 : (part.size + ((j + cells.size - a) % cells.size - part.size) + a) % cells.size = j := by
        rw [show part.size + ((j + cells.size - a) % cells.size - part.size) = (j + cells.size - a) % cells.size by omega, back_mod hj ha]
        split
        · rw [show j - a + a = j by omega, Nat.mod_eq_of_lt hj]
        · rw [show j + cells.size - a + a = j + cells.size by omega, Nat.add_mod_right, Nat.mod_eq_of_lt hj]
      simp only [e2]
      simp [hj]
end Go.Proofs.Yteldnfamfjldpaa
