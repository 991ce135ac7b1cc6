/- impl.isGroupString, spec.l06At, spec.GcrFaults -/
import Derived.Test.YtffefhgemmjkoaaDoorGcrValue
import Derived.Test.YtffefhgemmjkoaaDoorSlRes
namespace Go.Proofs.YtffefhgemmjkoaaDoor
open Go.RowKit
set_option maxRecDepth 20000
set_option linter.unusedVariables false
/-- Group k of cells. -/
def subS (s : ByteArray) (k : Nat) : ByteArray := s.extract (5 * k) (5 * k + 5)
theorem subS_size (s : ByteArray) (k : Nat) (h : 5 * k + 5 ≤ s.size) : (subS s k).size = 5 := by unfold subS; rw [ByteArray.size_extract]; omega
theorem subS_at (s : ByteArray) (k j : Nat) (hj : j < 5) (h : 5 * k + 5 ≤ s.size) : (subS s k)[j]'(by rw [subS_size s k h]; exact hj) = s[5 * k + j] := by
  unfold subS
  simp [ByteArray.getElem_extract]
theorem subS_ok {s : ByteArray} (hc : cellStr s = true) (k : Nat) (h : 5 * k + 5 ≤ s.size) : grpOk (subS s k) = true := by
  have hz := subS_size s k h
  unfold grpOk
  have : decide ((subS s k).size = 5) = true := by simp [hz]
  rw [this, Bool.true_and]
  unfold cellsL
  rw [List.all_eq_true]
  intro c hcm
  obtain ⟨j, hj, rfl⟩ := List.getElem_of_mem hcm
  have hj2 : j < (subS s k).size := by rw [Array.length_toList] at hj; exact hj
  have e : (subS s k).data.toList[j] = (subS s k)[j] := rfl
  rw [e, subS_at s k j (by omega) h]
  exact (isCell_iff _).2 (cellStr_cell hc _ _)
def gfR (s : ByteArray) : Nat → List Int
  | 0 => []
  | k + 1 => if gcrVV (subS s k) < 0 then gfR s k ++ [(k : Int)] else gfR s k
theorem gfR_len (s : ByteArray) (k : Nat) : (gfR s k).length ≤ k := by
  induction k with
  | zero => simp [gfR]
  | succ k ih =>
    unfold gfR
    split
    · simp; omega
    · omega
def gfV (s : ByteArray) : List Int := if cellStr s = true ∧ s.size % 5 = 0 then gfR s (s.size / 5) else []
theorem gfV_len (s : ByteArray) (h : s.size ≤ 1048576) : (gfV s).length ≤ 1048576 := by
  unfold gfV
  split
  · exact Nat.le_trans (gfR_len s _) (by omega)
  · simp
set_option maxHeartbeats 1000000 in
theorem isGroupString_any (s : ByteArray) (h : s.size ≤ 1048576) (w : World) :
    Calls Tryd.prog 49 #[.string s] w fun e w' => e = .returned (.bool (cellStr s && decide (s.size % 5 = 0))) ∧ Below w.heap.size w w' := by
  have hv := fun w => isCellString_any s w (by unfold maxLen; omega)
  by_cases hc : cellStr s = true
  · rw [hc] at hv ⊢
    have HV := Lib.hid hv; clear hv hc
    by_cases h5 : s.size % 5 = 0
    · have h5' : (s.size : Int) % 5 = 0 := by omega
      have e : decide (s.size % 5 = 0) = true := by simp [h5]
      rw [e]
      clear h5 e
      go_enter Tryd.func49, Tryd.ntmps49
      go_wp2_with (go_at_call 59; refine (HV.out _).mono ?_; rintro e w1 ⟨rfl, hb1⟩)
      go_ret
      exact ⟨rfl, hb1⟩
    · have h5' : ((s.size : Int) % 5 == 0) = false := by rw [beq_eq_false_iff_ne]; omega
      have e : decide (s.size % 5 = 0) = false := by simp [h5]
      rw [e]
      clear h5 e
      go_enter Tryd.func49, Tryd.ntmps49
      go_wp2_with (go_at_call 59; refine (HV.out _).mono ?_; rintro e w1 ⟨rfl, hb1⟩)
      go_ret
      exact ⟨rfl, hb1⟩
  · have hc0 : cellStr s = false := by simpa using hc
    rw [hc0] at hv ⊢
    have HV := Lib.hid hv; clear hv hc hc0
    go_enter Tryd.func49, Tryd.ntmps49
    go_wp2_with (go_at_call 59; refine (HV.out _).mono ?_; rintro e w1 ⟨rfl, hb1⟩)
    go_ret
    exact ⟨rfl, hb1⟩
theorem l06At_any (s : ByteArray) (k : Nat) (h : s.size ≤ 1048576) (hk : 5 * k + 5 ≤ s.size) (w : World) :
    Calls Tryd.prog 48 #[.string s, .int .i64 (k : Int)] w fun e w' => e = .returned (.string (subS s k)) ∧ w = w' := by
  have e1 : (0 : Int) ≤ 5 * (k : Int) := by omega
  have e2 : 5 * ((k : Int) + 1) ≤ s.size := by omega
  have e3 : (5 * (k : Int)).toNat = 5 * k := by omega
  have e4 : (5 * ((k : Int) + 1)).toNat = 5 * k + 5 := by omega
  have e5 : 5 * (k : Int) ≤ 5 * ((k : Int) + 1) := by omega
  go_enter Tryd.func48, Tryd.ntmps48
  go_wp2
  go_ret
  exact ⟨rfl, rfl⟩
theorem gfV_yes {s : ByteArray} (hc : cellStr s = true) (h5 : s.size % 5 = 0) : gfV s = gfR s (s.size / 5) := by unfold gfV; rw [if_pos ⟨hc, h5⟩]
theorem gfV_no {s : ByteArray} (h : (cellStr s && decide (s.size % 5 = 0)) = false) : gfV s = [] := by
  unfold gfV
  rw [if_neg]
  rintro ⟨h1, h2⟩
  rw [h1] at h
  simp [h2] at h
end Go.Proofs.YtffefhgemmjkoaaDoor
