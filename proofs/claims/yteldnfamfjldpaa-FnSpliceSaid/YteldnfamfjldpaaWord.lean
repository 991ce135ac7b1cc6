/- impl.GetWord, spec.GetWord, impl.PutWord, spec.PutWord. -/
import Derived.Test.YteldnfamfjldpaaWithin
namespace Go.Proofs.Yteldnfamfjldpaa
open Go.RowKit
set_option linter.unusedVariables false

theorem wrap64_small (n : Nat) (h : n < 4294967296) : wrap64 (n : Int) = n := by unfold wrap64; omega
theorem or_byte (a b : Nat) (ha : a < 256) (hb : b < 256) : bits .or .i64 ((a : Int) * 256) b = (a : Int) * 256 + b :=
  bits_join .i64 16 (by decide) (fun n h0 h1 => IntWalk.i64_in _ (by omega)) 8 _ _ (by omega) (by omega) (by omega) (by omega) (by omega) (by omega)
theorem word_or (x y : UInt8) : bits .or .i64 (wrap64 (wrap64 (x.toNat : Int) * 256)) (wrap64 (y.toNat : Int)) = (x.toNat : Int) * 256 + y.toNat := by
  have hx := x.toNat_lt; have hy := y.toNat_lt
  rw [wrap64_small _ (by omega), wrap64_small _ (by omega)]
  have e : ((x.toNat : Int) * 256) = ((x.toNat * 256 : Nat) : Int) := by omega
  rw [e, wrap64_small _ (by omega), ← e]
  exact or_byte _ _ (by omega) (by omega)
theorem word_add (x y : UInt8) : wrap64 (wrap64 (wrap64 (x.toNat : Int) * 256) + wrap64 (y.toNat : Int)) = (x.toNat : Int) * 256 + y.toNat := by
  have hx := x.toNat_lt; have hy := y.toNat_lt
  unfold wrap64; omega
def word (s : ByteArray) (k : Nat) : Int := ((s[k]?.getD 0).toNat : Int) * 256 + ((s[k+1]?.getD 0).toNat : Int)

set_option maxHeartbeats 400000 in
theorem getWord_yes (s : ByteArray) (k : Nat) (w : World) (hs : s.size ≤ maxLen) (hk : k + 2 ≤ s.size) :
    Calls Try.prog 16 #[.string s, .int .i64 k] w fun e w' => e = .returned (.tuple #[.int .i64 (word s k), .bool true]) ∧ Below w.heap.size w w' := by
  unfold maxLen at hs
  have hin : inB 0 ((s.size : Int) - 2) k = true := by rw [inB_iff]; omega
  have e1 : IntKind.i64.wrap ((k : Int) + 1) = (k : Int) + 1 := IntWalk.i64_in _ (by omega)
  have e2 : ((k : Int) + 1).toNat = k + 1 := by omega
  have e3 : (0 : Int) ≤ (k : Int) + 1 := by omega
  have e4 : (k : Int) + 1 < s.size := by omega
  have e5 : (k : Int) < s.size := by omega
  have hw := Lib.hid (word_or (s[k]'(by omega)) (s[k+1]'(by omega)))
  go_enter Try.func16, Try.ntmps16
  go_wp2_with (go_at_call 31; refine (within_new _ _ _ _ _).mono ?_; rintro e w' ⟨rfl, rfl⟩)
  go_quiet (fail)
  go_wp2
  go_ret2
  refine ⟨?_, below_drewN ((Below.refl _ _).alloc (Nat.le_refl _) _) _⟩
  show Ending.returned (.tuple #[.int .i64 _, .bool true]) = _
  rw [hw.out]
  have h1 : s[k]?.getD 0 = s[k]'(by omega) := by simp [show k < s.size by omega]
  have h2 : s[k+1]?.getD 0 = s[k+1]'(by omega) := by simp [show k + 1 < s.size by omega]
  unfold word; rw [h1, h2]

set_option maxHeartbeats 400000 in
theorem getWord_no (s : ByteArray) (k : Int) (w : World) (hs : s.size ≤ maxLen) (hk : inB 0 ((s.size : Int) - 2) k = false) :
    Calls Try.prog 16 #[.string s, .int .i64 k] w fun e w' => e = .returned (.tuple #[.int .i64 0, .bool false]) ∧ Below w.heap.size w w' := by
  unfold maxLen at hs
  go_enter Try.func16, Try.ntmps16
  go_wp2_with (go_at_call 31; refine (within_new _ _ _ _ _).mono ?_; rintro e w' ⟨rfl, rfl⟩)
  go_ret2
  exact ⟨rfl, (Below.refl _ _).alloc (Nat.le_refl _) _⟩

end Go.Proofs.Yteldnfamfjldpaa
