/- impl.HashOf, spec.HashOf: -1 for what is no name, else the sum of the bytes modulo 8. -/
import Derived.Test.YteifmkimhjnjcaaSpecIsName
import Derived.Test.YteifmkimhjnjcaaSpecSum
namespace Go.Proofs.Yteifmkimhjnjcaa
open Go.RowKit
set_option linter.unusedVariables false
def hashV (s : ByteArray) : Int := if nameB s then ((sumL s.data.toList % 65536 % 8 : Nat) : Int) else -1
theorem hashOf_any (s : ByteArray) (w : World) (hs : s.size ≤ 1048576) :
    Calls Try.prog 7 #[.string s] w fun e w' => e = .returned (.int .i64 (hashV s)) ∧ Below w.heap.size w w' := by
  have h0 : s.size ≤ maxLen := by unfold maxLen; omega
  have hm : sumL s.data.toList % 65536 < 65536 := Nat.mod_lt _ (by omega)
  unfold hashV
  cases hq : nameB s with
  | false =>
    have HQ := Lib.hid hq; clear hq
    go_enter Try.func7, Try.ntmps7
    go_wp2_with (go_at_call 17; refine (isName_any _ _ h0).mono ?_; rintro e w1 ⟨rfl, hb⟩; rw [HQ.out])
    go_ret
    exact ⟨rfl, hb⟩
  | true =>
    have HQ := Lib.hid hq; clear hq
    go_enter Try.func7, Try.ntmps7
    go_wp2_with (first | (go_at_call 17; refine (isName_any _ _ h0).mono ?_; rintro e w1 ⟨rfl, hb⟩; rw [HQ.out]) | (go_at_call 18; refine (sum16 _ _ hs).mono ?_; rintro e w2 ⟨rfl, rfl⟩))
    go_ret
    exact ⟨ret_int (by omega), hb⟩
theorem specHashOf_any (s : ByteArray) (w : World) (hs : s.size ≤ 1048576) :
    Calls Try.prog 6 #[.string s] w fun e w' => e = .returned (.int .i64 (hashV s)) ∧ w = w' := by
  have h0 : s.size ≤ maxLen := by unfold maxLen; omega
  have hm : sumL s.data.toList % 65536 < 65536 := Nat.mod_lt _ (by omega)
  unfold hashV
  cases hq : nameB s with
  | false =>
    have HQ := Lib.hid hq; clear hq
    go_enter Try.func6, Try.ntmps6
    go_wp2_with (go_at_call 15; refine (specIsName_any _ _ h0).mono ?_; rintro e w1 ⟨rfl, rfl⟩; rw [HQ.out])
    go_ret
    exact ⟨rfl, rfl⟩
  | true =>
    have HQ := Lib.hid hq; clear hq
    go_enter Try.func6, Try.ntmps6
    go_wp2_with (first | (go_at_call 15; refine (specIsName_any _ _ h0).mono ?_; rintro e w1 ⟨rfl, rfl⟩; rw [HQ.out]) | (go_at_call 16; refine (specSum16 _ _ hs).mono ?_; rintro e w2 ⟨rfl, rfl⟩))
    go_ret
    exact ⟨ret_int (by omega), rfl⟩
end Go.Proofs.Yteifmkimhjnjcaa
