import Derived.Test.YteldnfamfjldpaaSpecBytesOf
namespace Go.Proofs.Yteldnfamfjldpaa.fnExactBytesOf
open Go.RowKit
set_option linter.unusedVariables false
set_option maxHeartbeats 400000 in
theorem walk (a0 : ByteArray) (w : World) (w0 : a0.size ≤ maxLen) :
    Calls Try.prog 9 #[.string a0] w fun e w' => e = .returned (.bool true) ∧ Below w.heap.size w w' := by
  have hs := w0
  unfold maxLen at hs
  have hi := fun w => bytesOf_any a0 w
  have hp := fun w => specBytesOf_any a0 w
  obtain ⟨t, b, ht⟩ := ofDigText_parts (ofDig 2 8 dig1 a0)
  rw [ht] at hi hp
  have hbb : (b != b) = false := by simp
  have HI := Lib.hid hi; have HP := Lib.hid hp; clear hi hp ht
  by_cases hl : 1048576 < a0.size
  · go_enter Try.func9, Try.ntmps9
    go_wp2
    go_ret
    exact ⟨rfl, Below.refl _ _⟩
  · have h20 : a0.size ≤ 1048576 := by omega
    go_enter Try.func9, Try.ntmps9
    go_wp2_with (first | (go_at_call 26; refine (HP.out _).mono ?_; rintro e w1 ⟨rfl, hb1⟩) | (go_at_call 12; refine (HI.out _).mono ?_; rintro e w2 ⟨rfl, hb2⟩))
    go_ret
    exact ⟨rfl, hb1.trans (hb2.mono hb1.size)⟩
end Go.Proofs.Yteldnfamfjldpaa.fnExactBytesOf
