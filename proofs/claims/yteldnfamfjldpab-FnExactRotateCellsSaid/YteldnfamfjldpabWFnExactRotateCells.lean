import Derived.Test.YteldnfamfjldpabSpecValidCells
import Derived.Test.YteldnfamfjldpabRotateCells
import Derived.Test.YteldnfamfjldpabSpecRotate
namespace Go.Proofs.Yteldnfamfjldpab.fnExactRotateCells
open Go.RowKit
set_option linter.unusedVariables false
set_option maxHeartbeats 400000 in
theorem spec_yes (s : ByteArray) (a : Int) (w : World) (hs : s.size ≤ maxLen) (hv : validCells s = true) :
    Calls Try.prog 43 #[.string s, .int .i64 a] w fun e w' => e = .returned (.tuple #[.string (rotS s (rotK a s.size)), .bool true]) ∧ Below w.heap.size w w' := by
  obtain ⟨h0, h1⟩ := validCells_bd hv
  go_enter Try.func43, Try.ntmps43
  go_wp2_with (first | (go_at_call 52; refine (l02Cells_any _ _ hs).mono ?_; rintro e w1 ⟨rfl, rfl⟩) | (go_at_call 65; refine (l02Rotate_any _ _ _ h0 h1).mono ?_; rintro e w1 ⟨rfl, hb⟩))
  go_ret2
  exact ⟨rfl, hb⟩
set_option maxHeartbeats 400000 in
theorem spec_no (s : ByteArray) (a : Int) (w : World) (hs : s.size ≤ maxLen) (hv : validCells s = false) :
    Calls Try.prog 43 #[.string s, .int .i64 a] w fun e w' => e = .returned (.tuple #[.string ⟨#[]⟩, .bool false]) ∧ Below w.heap.size w w' := by
  go_enter Try.func43, Try.ntmps43
  go_wp2_with (go_at_call 52; refine (l02Cells_any _ _ hs).mono ?_; rintro e w1 ⟨rfl, rfl⟩)
  go_ret2
  exact ⟨rfl, Below.refl _ _⟩
set_option maxHeartbeats 400000 in
theorem walk (a0 : ByteArray) (a1 : Int) (w : World) (w0 : a0.size ≤ maxLen) (w1 : (Lit.int .i64 a1).wf = true) :
    Calls Try.prog 13 #[.string a0, .int .i64 a1] w fun e w' => e = .returned (.bool true) ∧ Below w.heap.size w w' := by
  have hs := w0
  unfold maxLen at hs
  by_cases hl : 1048576 < a0.size
  · go_enter Try.func13, Try.ntmps13
    go_wp2
    go_ret
    exact ⟨rfl, Below.refl _ _⟩
  · by_cases hv : validCells a0 = true
    · have HV := Lib.hid hv; clear hv
      go_enter Try.func13, Try.ntmps13
      go_wp2_with (first | (go_at_call 43; refine (spec_yes _ _ _ w0 HV.out).mono ?_; rintro e w1 ⟨rfl, hb1⟩) | (go_at_call 44; refine (rotateCells_yes _ _ _ w0 HV.out).mono ?_; rintro e w2 ⟨rfl, hb2⟩))
      go_ret
      exact ⟨rfl, hb1.trans (hb2.mono hb1.size)⟩
    · have hv2 : validCells a0 = false := by simpa using hv
      have HV := Lib.hid hv2; clear hv hv2
      go_enter Try.func13, Try.ntmps13
      go_wp2_with (first | (go_at_call 43; refine (spec_no _ _ _ w0 HV.out).mono ?_; rintro e w1 ⟨rfl, hb1⟩) | (go_at_call 44; refine (rotateCells_no _ _ _ w0 HV.out).mono ?_; rintro e w2 ⟨rfl, hb2⟩))
      go_ret
      exact ⟨rfl, hb1.trans (hb2.mono hb1.size)⟩
end Go.Proofs.Yteldnfamfjldpab.fnExactRotateCells
