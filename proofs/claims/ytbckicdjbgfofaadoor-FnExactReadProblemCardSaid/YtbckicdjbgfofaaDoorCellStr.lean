/- impl.isCellString, spec.l05Cells: a string of cells, which may be empty. -/
import Derived.Test.YtbckicdjbgfofaaDoorValidCells
namespace Go.Proofs.YtbckicdjbgfofaaDoor
open Go.RowKit
set_option linter.unusedVariables false
/-- At most 8000 characters 0 and 1. -/
def cellStr (s : ByteArray) : Bool := cellsL s.data.toList && decide (s.size ≤ 8000)
theorem cellStr_valid {s : ByteArray} (h : ¬ s.size < 1) : validCells s = cellStr s := by
  unfold validCells cellStr inB
  have : decide ((1 : Int) ≤ (s.size : Int)) = true := by simp; omega
  rw [this, Bool.true_and]
  congr 1
  exact decide_eq_decide.mpr (by omega)
theorem bytes_empty {s : ByteArray} (h : s.size = 0) : s = ⟨#[]⟩ := by
  cases s with | mk d => simp only [ByteArray.mk.injEq]; exact Array.eq_empty_of_size_eq_zero h
theorem bytes_ne {s : ByteArray} (h : ¬ s.size = 0) : s.toList.isEmpty = false ∧ ¬ s.toList = [] := by
  have hls : s.toList.length = s.size := by rw [ByteArray.toList_eq]; simp
  constructor
  · cases h : s.toList with
    | nil => rw [h] at hls; simp at hls; omega
    | cons => rfl
  · intro h; rw [h] at hls; simp at hls; omega
theorem toList_ne {m s : ByteArray} (h : ¬ m = s) : (m.toList == s.toList) = false := by
  rw [beq_eq_false_iff_ne]
  intro h2
  rw [ByteArray.toList_eq, ByteArray.toList_eq] at h2
  apply h
  cases m; cases s
  congr 1
  exact Array.toList_inj.1 h2
theorem cellStr_size {s : ByteArray} (h : cellStr s = true) : s.size ≤ 8000 := by unfold cellStr at h; simp at h; exact h.2
theorem cellStr_cell {s : ByteArray} (h : cellStr s = true) (k : Nat) (hk : k < s.size) : s[k].toNat = 48 ∨ s[k].toNat = 49 := by
  unfold cellStr at h
  simp only [Bool.and_eq_true] at h
  have h1 := h.1
  unfold cellsL at h1
  rw [List.all_eq_true] at h1
  exact (isCell_iff _).1 (h1 s[k] (by show s.data[k] ∈ _; simp))
end Go.Proofs.YtbckicdjbgfofaaDoor
