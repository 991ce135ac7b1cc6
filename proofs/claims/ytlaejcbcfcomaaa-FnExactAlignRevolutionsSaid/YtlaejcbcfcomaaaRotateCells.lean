/- impl.RotateCells -/
import Derived.Test.YtlaejcbcfcomaaaValidCells
import Derived.Test.YtlaejcbcfcomaaaRot
namespace Go.Proofs.Ytlaejcbcfcomaaa
open Go.RowKit
set_option linter.unusedVariables false
theorem validCells_bd {s : ByteArray} (h : validCells s = true) : 0 < s.size ∧ s.size ≤ 8000 := by
  unfold validCells at h
  simp only [Bool.and_eq_true, inB_iff] at h
  omega
set_option maxHeartbeats 400000 in
theorem rotateCells_yes (s : ByteArray) (a : Int) (w : World) (hs : s.size ≤ maxLen) (hv : validCells s = true) :
    Calls Try.prog 70 #[.string s, .int .i64 a] w fun e w' => e = .returned (.tuple #[.string (rotS s (rotK a s.size)), .bool true]) ∧ Below w.heap.size w w' := by
  obtain ⟨h0, h1⟩ := validCells_bd hv
  have hs' := hs
  unfold maxLen at hs'
  obtain ⟨b1, b2⟩ := rot_bd a s.size h0
  have hr := rotK_eq a s.size h0
  have hk := rotK_lt a s.size h0
  obtain ⟨k, hkk⟩ : ∃ k, rotK a s.size = k := ⟨_, rfl⟩
  rw [hkk] at hr hk ⊢
  clear hkk
  have e0 : (0 : Int) ≤ k := by omega
  have e1 : (k : Int) ≤ s.size := by omega
  go_enter Try.func70, Try.ntmps70
  go_wp2_with (go_at_call 111; refine (validCells_any _ _ hs).mono ?_; rintro e w1 ⟨rfl, hb⟩)
  go_quiet (fail)
  go_wp2
  go_ret2
  exact ⟨rfl, below_drewN hb _⟩
set_option maxHeartbeats 400000 in
theorem rotateCells_no (s : ByteArray) (a : Int) (w : World) (hs : s.size ≤ maxLen) (hv : validCells s = false) :
    Calls Try.prog 70 #[.string s, .int .i64 a] w fun e w' => e = .returned (.tuple #[.string ⟨#[]⟩, .bool false]) ∧ Below w.heap.size w w' := by
  go_enter Try.func70, Try.ntmps70
  go_wp2_with (go_at_call 111; refine (validCells_any _ _ hs).mono ?_; rintro e w1 ⟨rfl, hb⟩)
  go_ret2
  exact ⟨rfl, hb⟩
end Go.Proofs.Ytlaejcbcfcomaaa
