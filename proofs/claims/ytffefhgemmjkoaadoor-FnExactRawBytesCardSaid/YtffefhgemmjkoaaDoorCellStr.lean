/- impl.isCellString, spec.l05Cells: a string of cells, which may be empty. -/
import Derived.Test.YtffefhgemmjkoaaDoorValidCells
namespace Go.Proofs.YtffefhgemmjkoaaDoor
open Go.RowKit
set_option maxRecDepth 20000
set_option linter.unusedVariables false
/-- At most 8000 characters 0 and 1. -/
def cellStr (s : ByteArray) : Bool := cellsL s.data.toList && decide (s.size ≤ 8000)
theorem cellStr_valid {s : ByteArray} (h : ¬ s.size < 1) : validCells s = cellStr s := by
  unfold validCells cellStr inB
  have : decide ((1 : Int) ≤ (s.size : Int)) = true := by simp; omega
  rw [this, Bool.true_and]
  congr 1
  exact decide_eq_decide.mpr (by omega)
theorem bytes_empty {s : ByteArray} (h : s.size = 0) : s = ⟨#[]⟩ := by
  cases s with | mk d => simp only [ByteArray.mk.injEq]; exact Array.eq_empty_of_size_eq_zero h
theorem bytes_ne {s : ByteArray} (h : ¬ s.size = 0) : s.toList.isEmpty = false ∧ ¬ s.toList = [] := by
  have hls : s.toList.length = s.size := by rw [ByteArray.toList_eq]; simp
  constructor
  · cases h : s.toList with
    | nil => rw [h] at hls; simp at hls; omega
    | cons => rfl
  · intro h; rw [h] at hls; simp at hls; omega
theorem toList_ne {m s : ByteArray} (h : ¬ m = s) : (m.toList == s.toList) = false := by
  rw [beq_eq_false_iff_ne]
  intro h2
  rw [ByteArray.toList_eq, ByteArray.toList_eq] at h2
  apply h
  cases m; cases s
  congr 1
  exact Array.toList_inj.1 h2
theorem cellStr_size {s : ByteArray} (h : cellStr s = true) : s.size ≤ 8000 := by unfold cellStr at h; simp at h; exact h.2
theorem cellStr_cell {s : ByteArray} (h : cellStr s = true) (k : Nat) (hk : k < s.size) : s[k].toNat = 48 ∨ s[k].toNat = 49 := by
  unfold cellStr at h
  simp only [Bool.and_eq_true] at h
  have h1 := h.1
  unfold cellsL at h1
  rw [List.all_eq_true] at h1
  exact (isCell_iff _).1 (h1 s[k] (by show s.data[k] ∈ _; simp))
set_option maxHeartbeats 400000 in
theorem isCellString_any (s : ByteArray) (w : World) (hs : s.size ≤ maxLen) :
    Calls Tryd.prog 59 #[.string s] w fun e w' => e = .returned (.bool (cellStr s)) ∧ Below w.heap.size w w' := by
  unfold maxLen at hs
  by_cases h0 : s.size = 0
  · obtain rfl := bytes_empty h0
    clear h0 hs
    go_enter Tryd.func59, Tryd.ntmps59
    go_wp2
    go_ret
    exact ⟨rfl, Below.refl _ _⟩
  · have hv := fun w => validCells_any s w (by unfold maxLen; omega)
    rw [cellStr_valid (by omega)] at hv
    obtain ⟨b, hb⟩ : ∃ b, cellStr s = b := ⟨_, rfl⟩
    rw [hb] at hv ⊢
    clear hb
    have HV := Lib.hid hv; clear hv
    obtain ⟨h1, h2⟩ := bytes_ne h0
    clear h0
    go_enter Tryd.func59, Tryd.ntmps59
    go_wp2_with (go_at_call 104; refine (HV.out _).mono ?_; rintro e w1 ⟨rfl, hb1⟩)
    go_ret
    exact ⟨rfl, hb1⟩
set_option maxHeartbeats 400000 in
theorem l05Cells_any (s : ByteArray) (w : World) (hs : s.size ≤ maxLen) :
    Calls Tryd.prog 46 #[.string s] w fun e w' => e = .returned (.bool (cellStr s)) ∧ w = w' := by
  unfold maxLen at hs
  go_enter Tryd.func46, Tryd.ntmps46
  go_wp2
  go_loop [3] (fun i => ∃ k : Nat, k ≤ s.size ∧ i = .int .i64 k ∧ Hid (cellsL (s.data.toList.take k) = true)) (fun i => s.size - (intOf i).toNat)
  case atStart => exact ⟨0, Nat.zero_le _, rfl, by unfold Hid; rfl⟩
  case round =>
    obtain ⟨k, hk, rfl, ha⟩ := hrel
    by_cases hlt : k < s.size
    · have HS := Lib.hid (cellsL_snoc s k hlt)
      by_cases hc : isCell s[k] = true
      · have hc2 := (isCell_iff _).1 hc
        have HC := Lib.hid hc; clear hc
        rcases hc2 with h48 | h49
        · go_wp2
          go_round
          case rel => exact ⟨k + 1, by omega, by go_num, by unfold Hid; rw [HS.out, ha.out, HC.out]; rfl⟩
          case measure => simp [intOf]; omega
        · go_wp2
          go_round
          case rel => exact ⟨k + 1, by omega, by go_num, by unfold Hid; rw [HS.out, ha.out, HC.out]; rfl⟩
          case measure => simp [intOf]; omega
      · have hc0 : isCell s[k] = false := by simpa using hc
        have hr : ¬ (s[k].toNat = 48 ∨ s[k].toNat = 49) := by rw [← isCell_iff]; simp [hc0]
        have HN := Lib.hid (cellsL_no s k hlt hc0)
        clear hc hc0
        have b48 : ((s[k].toNat : Int) != 48) = true := by simp; omega
        have b49 : ((s[k].toNat : Int) != 49) = true := by simp; omega
        clear hr
        go_wp2
        go_ret
        refine ⟨ret_bool ?_, rfl⟩
        unfold cellStr; rw [HN.out]; rfl
    · have e := Lib.hid (take_ge' s k (by omega))
      go_wp2
      go_ret
      refine ⟨ret_bool ?_, rfl⟩
      unfold cellStr; rw [← e.out, ha.out]; simp; omega
end Go.Proofs.YtffefhgemmjkoaaDoor
