/- Slices of a circle of cells: plain facts. -/
import Derived.Test.YtpgcmgbflcdjiaaRotateCells
namespace Go.Proofs.Ytpgcmgbflcdjiaa
open Go.RowKit
set_option linter.unusedVariables false
/-- The cell at place k of a circle. -/
def cycB (s : ByteArray) (k : Nat) : UInt8 := s[k % s.size]?.getD 0
/-- The first k cells from place a on. -/
def arcL (s : ByteArray) (a k : Nat) : List UInt8 := ((s.data.toList ++ s.data.toList).drop a).take k
theorem cyc_at (s : ByteArray) (k q : Nat) (hq : k % s.size = q) (h : q < s.size) : cycB s k = s[q] := by
  subst hq
  unfold cycB
  simp [h]
theorem cyc_toList (s : ByteArray) (k : Nat) (h : 0 < s.size) : s.data.toList[k % s.size]? = some (cycB s k) := by
  have hlt : k % s.size < s.size := Nat.mod_lt _ h
  rw [cyc_at s k _ rfl hlt]
  rw [List.getElem?_eq_getElem (by simpa using hlt)]
  rfl
theorem arcL_nil (s : ByteArray) (a : Nat) : arcL s a 0 = [] := by simp [arcL]
theorem arcL_succ (s : ByteArray) (a k : Nat) (ha : a < s.size) (hk : k < s.size) : arcL s a (k + 1) = arcL s a k ++ [cycB s (a + k)] := by
  have hl : s.data.toList.length = s.size := by simp
  have h1 : (s.data.toList ++ s.data.toList)[a + k]? = some (cycB s (a + k)) := by
    rw [← cyc_toList s (a + k) (by omega)]
    by_cases h : a + k < s.size
    · rw [List.getElem?_append_left (by omega), Nat.mod_eq_of_lt h]
    · rw [List.getElem?_append_right (by omega), hl]
      congr 1
      rw [Nat.mod_eq_sub_mod (by omega), Nat.mod_eq_of_lt (by omega)]
  unfold arcL
  rw [List.take_add_one, List.getElem?_drop, h1]
  rfl
theorem arcL_length (s : ByteArray) (a k : Nat) (ha : a < s.size) (hk : k ≤ s.size) : (arcL s a k).length = k := by
  have hl : s.data.toList.length = s.size := by simp
  simp [arcL]; omega
def arcS (s : ByteArray) (a n : Nat) : ByteArray := (s ++ s).extract a (a + n)
theorem arc_eq (s : ByteArray) (a n : Nat) : arcS s a n = ⟨(arcL s a n).toArray⟩ := by
  unfold arcS arcL
  rw [show ∀ x y : ByteArray, x = y ↔ x.data = y.data from fun x y => ⟨fun h => by rw [h], fun h => by cases x; cases y; simp at h; rw [h]⟩]
  apply Array.ext'
  rw [ByteArray.data_extract, Array.toList_extract]
  show List.take (a + n - a) (List.drop a (s ++ s).data.toList) = _
  rw [show (s ++ s).data.toList = s.data.toList ++ s.data.toList by simp, show a + n - a = n by omega]
def sliceOk (s : ByteArray) (a n : Int) : Bool := validCells s && inB 0 ((s.size : Int) - 1) a && inB 0 s.size n
def sliceV (s : ByteArray) (a n : Int) : ByteArray := if sliceOk s a n = true then arcS s a.toNat n.toNat else ⟨#[]⟩
end Go.Proofs.Ytpgcmgbflcdjiaa
