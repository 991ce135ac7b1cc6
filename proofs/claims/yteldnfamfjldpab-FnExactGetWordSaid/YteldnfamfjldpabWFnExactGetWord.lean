import Derived.Test.YteldnfamfjldpabWord
namespace Go.Proofs.Yteldnfamfjldpab.fnExactGetWord
open Go.RowKit
set_option maxHeartbeats 400000 in
theorem walk (a0 : ByteArray) (a1 : Int) (w : World) (w0 : a0.size ≤ maxLen) (w1 : (Lit.int .i64 a1).wf = true) :
    Calls Try.prog 6 #[.string a0, .int .i64 a1] w fun e w' => e = .returned (.bool true) ∧ Below w.heap.size w w' := by
  have hs := w0
  unfold maxLen at hs
  by_cases hl : 1048576 < a0.size
  · go_enter Try.func6, Try.ntmps6
    go_wp2
    go_ret
    exact ⟨rfl, Below.refl _ _⟩
  · by_cases hk : inB 0 ((a0.size : Int) - 2) a1 = true
    · rw [inB_iff] at hk
      obtain ⟨k, rfl⟩ : ∃ k : Nat, a1 = k := ⟨a1.toNat, by omega⟩
      have hk2 : k + 2 ≤ a0.size := by omega
      go_enter Try.func6, Try.ntmps6
      go_wp2_with (first | (go_at_call 21; refine (specGetWord_yes _ _ _ w0 hk2).mono ?_; rintro e w1 ⟨rfl, hb1⟩) | (go_at_call 22; refine (getWord_yes _ _ _ w0 hk2).mono ?_; rintro e w2 ⟨rfl, hb2⟩))
      go_ret
      exact ⟨rfl, hb1.trans (hb2.mono hb1.size)⟩
    · have hk2 : inB 0 ((a0.size : Int) - 2) a1 = false := by simpa using hk
      clear hk
      have HK := Lib.hid hk2; clear hk2
      go_enter Try.func6, Try.ntmps6
      go_wp2_with (first | (go_at_call 21; refine (specGetWord_no _ _ _ w0 HK.out).mono ?_; rintro e w1 ⟨rfl, hb1⟩) | (go_at_call 22; refine (getWord_no _ _ _ w0 HK.out).mono ?_; rintro e w2 ⟨rfl, hb2⟩))
      go_ret
      exact ⟨rfl, hb1.trans (hb2.mono hb1.size)⟩
end Go.Proofs.Yteldnfamfjldpab.fnExactGetWord
