/- spec.l01Hex, spec.l01Bits and the functions over them, by wip/tools/gen_specdigits.py -/
import Derived.Test.YtffefhgemmjkoaaDoorDigitsOf
namespace Go.Proofs.YtffefhgemmjkoaaDoor
open Go.RowKit
set_option maxRecDepth 20000
set_option linter.unusedVariables false
theorem hexd_bit {n : Nat} (h : n < 2) : ((48 : Int) + n).toNat.toUInt8 = hexd n := by
  have : n = 0 ∨ n = 1 := by omega
  rcases this with rfl | rfl <;> rfl
def hexTextS (s : ByteArray) : ByteArray := if 4096 < s.size then ⟨#[]⟩ else ⟨(digits4 s.data.toList).toArray⟩
theorem hexTextS_big {s : ByteArray} (h : 4096 < s.size) : hexTextS s = ⟨#[]⟩ := by unfold hexTextS; rw [if_pos h]
theorem hexTextS_ok {s : ByteArray} (h : ¬ 4096 < s.size) : hexTextS s = ⟨(digits4 s.data.toList).toArray⟩ := by unfold hexTextS; rw [if_neg h]
def bitsOfS (s : ByteArray) : ByteArray := if 4096 < s.size then ⟨#[]⟩ else ⟨(digits1 s.data.toList).toArray⟩
theorem bitsOfS_big {s : ByteArray} (h : 4096 < s.size) : bitsOfS s = ⟨#[]⟩ := by unfold bitsOfS; rw [if_pos h]
theorem bitsOfS_ok {s : ByteArray} (h : ¬ 4096 < s.size) : bitsOfS s = ⟨(digits1 s.data.toList).toArray⟩ := by unfold bitsOfS; rw [if_neg h]
set_option maxHeartbeats 400000 in
theorem bitsOf_any (s : ByteArray) (w : World) (h : s.size ≤ 1048576) :
    Calls Tryd.prog 101 #[.string s] w fun e w' => e = .returned (.string (bitsOfS s)) ∧ Below w.heap.size w w' := by
  have hc : ∀ w, Calls Tryd.prog 129 #[.string s, .int .i64 1] w fun e w' => e = .returned (.string (bitsOfS s)) ∧ Below w.heap.size w w' := by
    intro w
    by_cases hb : 4096 < s.size
    · rw [bitsOfS_big hb]; exact digitsOf_big s 1 w hb
    · rw [bitsOfS_ok hb]; exact digitsOf1 s w (by omega)
  have HC := Lib.hid hc; clear hc
  go_enter Tryd.func101, Tryd.ntmps101
  go_wp2_with (go_at_call 129; refine (HC.out _).mono ?_; rintro e w1 ⟨rfl, hb⟩)
  go_ret
  exact ⟨rfl, hb⟩
end Go.Proofs.YtffefhgemmjkoaaDoor
