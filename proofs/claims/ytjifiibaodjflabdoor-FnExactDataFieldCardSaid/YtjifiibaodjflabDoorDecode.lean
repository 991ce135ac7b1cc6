/- impl.decodeClocked, impl.DecodeFm, impl.DecodeMfm, spec.l05Decode, spec.DecodeFm, spec.DecodeMfm -/
import Derived.Test.YtjifiibaodjflabDoorCellStr
import Derived.Test.YtjifiibaodjflabDoorSpecBytesOf
import Derived.Test.YtjifiibaodjflabDoorDigitsOf
namespace Go.Proofs.YtjifiibaodjflabDoor
open Go.RowKit
set_option maxRecDepth 20000
set_option linter.unusedVariables false
/-- The data cells of the first n pairs. -/
def oddL (s : ByteArray) (n : Nat) : List UInt8 := (List.range n).map fun i => s[2 * i + 1]?.getD 0
theorem oddL_len (s : ByteArray) (n : Nat) : (oddL s n).length = n := by simp [oddL]
theorem oddL_succ (s : ByteArray) (n : Nat) (h : 2 * n + 1 < s.size) : oddL s (n + 1) = oddL s n ++ [s[2 * n + 1]] := by
  simp [oddL, List.range_succ, h]
def oddS (s : ByteArray) : ByteArray := ⟨(oddL s (s.size / 2)).toArray⟩
theorem oddS_size (s : ByteArray) : (oddS s).size = s.size / 2 := by
  show (oddL s (s.size / 2)).toArray.size = _
  rw [List.size_toArray, oddL_len]
/-- The data bit of pair i. -/
def dd (s : ByteArray) (i : Nat) : Int := dig1 (s[2 * i + 1]?.getD 0).toNat
theorem dd_at (s : ByteArray) (i : Nat) (h : 2 * i + 1 < s.size) : dd s i = dig1 s[2 * i + 1].toNat := by
  show dig1 (s[2 * i + 1]?.getD 0).toNat = _
  rw [getElem?_pos s (2 * i + 1) h]; rfl
theorem digAt_odd (s : ByteArray) (i : Nat) : digAt dig1 (oddS s) i = dd s i := by
  have e : (oddS s)[i]?.getD 0 = s[2 * i + 1]?.getD 0 := by
    have hsz := oddS_size s
    by_cases h : i < s.size / 2
    · have h2 : i < (oddS s).size := by omega
      rw [getElem?_pos _ i h2]
      show (oddL s (s.size / 2)).toArray[i] = _
      simp only [oddL, List.getElem_toArray, List.getElem_map, List.getElem_range]
    · have h2 : ¬ i < (oddS s).size := by omega
      rw [getElem?_neg _ i h2, getElem?_neg s (2 * i + 1) (by omega)]
  unfold digAt dd
  rw [e]
theorem accV_ext {p : Int} {d d' : Nat → Int} (h : ∀ i, d i = d' i) (k : Nat) : accV p d k = accV p d' k := by
  have : d = d' := funext h
  rw [this]
theorem odd_dig {s : ByteArray} (hc : cellStr s = true) (h16 : s.size % 16 = 0) : ofDig 2 8 dig1 (oddS s) = some (accO 2 8 (dd s) (s.size / 2)) := by
  have hsz := oddS_size s
  have h8 := cellStr_size hc
  unfold ofDig
  rw [if_pos (by omega)]
  have hok : digOk dig1 (oddS s) (oddS s).size = true := by
    unfold digOk
    rw [List.all_eq_true]
    intro j hj
    rw [List.mem_range, hsz] at hj
    rw [digAt_odd, dd_at s j (by omega)]
    have := cellStr_cell hc (2 * j + 1) (by omega)
    rcases this with h | h <;> rw [h] <;> rfl
  rw [if_pos hok, hsz]
  have : digAt dig1 (oddS s) = dd s := funext (digAt_odd s)
  rw [this]
/-- What a decoder answers. -/
def decV (s : ByteArray) : Option (List UInt8) := if cellStr s = true ∧ s.size % 16 = 0 then some (accO 2 8 (dd s) (s.size / 2)) else none
end Go.Proofs.YtjifiibaodjflabDoor
