import Derived.Test.YteldnfamfjldpabSpecPutWord
namespace Go.Proofs.Yteldnfamfjldpab.fnExactPutWord
open Go.RowKit
set_option maxHeartbeats 400000 in
theorem walk (a0 : Int) (w : World) (_w0 : (Lit.int .i64 a0).wf = true) :
    Calls Try.prog 5 #[.int .i64 a0] w fun e w' => e = .returned (.bool true) ∧ Below w.heap.size w w' := by
  by_cases hk : inB 0 65535 a0 = true
  · rw [inB_iff] at hk
    obtain ⟨h0, h1⟩ := hk
    go_enter Try.func5, Try.ntmps5
    go_wp2_with (first | (go_at_call 19; refine (specPutWord_yes _ _ h0 h1).mono ?_; rintro e w1 ⟨rfl, hb1⟩) | (go_at_call 20; refine (putWord_yes _ _ h0 h1).mono ?_; rintro e w2 ⟨rfl, hb2⟩))
    go_ret
    exact ⟨rfl, hb1.trans (hb2.mono hb1.size)⟩
  · have hk2 : inB 0 65535 a0 = false := by simpa using hk
    clear hk
    have HK := Lib.hid hk2; clear hk2
    go_enter Try.func5, Try.ntmps5
    go_wp2_with (first | (go_at_call 19; refine (specPutWord_no _ _ HK.out).mono ?_; rintro e w1 ⟨rfl, hb1⟩) | (go_at_call 20; refine (putWord_no _ _ HK.out).mono ?_; rintro e w2 ⟨rfl, hb2⟩))
    go_ret
    exact ⟨rfl, hb1.trans (hb2.mono hb1.size)⟩
end Go.Proofs.Yteldnfamfjldpab.fnExactPutWord
