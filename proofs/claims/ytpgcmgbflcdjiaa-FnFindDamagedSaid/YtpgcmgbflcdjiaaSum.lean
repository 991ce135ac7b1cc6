/- impl.Sum16, spec.Sum16. -/
import Derived.Test.YtpgcmgbflcdjiaaBase
namespace Go.Proofs.Ytpgcmgbflcdjiaa
open Go.RowKit
set_option linter.unusedVariables false

def sumL (l : List UInt8) : Nat := (l.map UInt8.toNat).sum
theorem sumL_snoc (l : List UInt8) (x : UInt8) : sumL (l ++ [x]) = sumL l + x.toNat := by simp [sumL]
theorem sumL_le (l : List UInt8) : sumL l ≤ 255 * l.length := by
  induction l with
  | nil => simp [sumL]
  | cons x l ih => have := x.toNat_lt; simp [sumL] at ih ⊢; omega
theorem take_snoc (s : ByteArray) (k : Nat) (h : k < s.size) : s.data.toList.take (k + 1) = s.data.toList.take k ++ [s[k]] := by
  rw [List.take_succ_eq_append_getElem (by simpa using h)]; rfl
theorem take_ge (s : ByteArray) (k : Nat) (h : s.size ≤ k) : s.data.toList.take k = s.data.toList := by
  refine List.take_of_length_le ?_
  have : s.data.toList.length = s.size := by simp
  omega
theorem mask16 (x : Int) (h0 : 0 ≤ x) (h1 : x < 1000000000000) : bits .and .i64 x 65535 = x % 65536 :=
  bits_mask .i64 62 (by decide) (fun n h0 h1 => IntWalk.i64_in _ (by omega)) 16 (by decide) x h0 (by omega)
theorem wrap64_small (n : Nat) (h : n < 4294967296) : wrap64 (n : Int) = n := by unfold wrap64; omega

end Go.Proofs.Ytpgcmgbflcdjiaa
