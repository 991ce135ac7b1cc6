/- impl.Sum16, spec.Sum16. -/
import Derived.Test.YteifmkimhjnjcaaBase
namespace Go.Proofs.Yteifmkimhjnjcaa
open Go.RowKit
set_option linter.unusedVariables false

def sumL (l : List UInt8) : Nat := (l.map UInt8.toNat).sum
theorem sumL_snoc (l : List UInt8) (x : UInt8) : sumL (l ++ [x]) = sumL l + x.toNat := by simp [sumL]
theorem sumL_le (l : List UInt8) : sumL l ≤ 255 * l.length := by
  induction l with
  | nil => simp [sumL]
  | cons x l ih => have := x.toNat_lt; simp [sumL] at ih ⊢; omega
theorem take_snoc (s : ByteArray) (k : Nat) (h : k < s.size) : s.data.toList.take (k + 1) = s.data.toList.take k ++ [s[k]] := by
  rw [List.take_succ_eq_append_getElem (by simpa using h)]; rfl
theorem take_ge (s : ByteArray) (k : Nat) (h : s.size ≤ k) : s.data.toList.take k = s.data.toList := by
  refine List.take_of_length_le ?_
  have : s.data.toList.length = s.size := by simp
  omega
theorem mask16 (x : Int) (h0 : 0 ≤ x) (h1 : x < 1000000000000) : bits .and .i64 x 65535 = x % 65536 :=
  bits_mask .i64 62 (by decide) (fun n h0 h1 => IntWalk.i64_in _ (by omega)) 16 (by decide) x h0 (by omega)
theorem wrap64_small (n : Nat) (h : n < 4294967296) : wrap64 (n : Int) = n := by unfold wrap64; omega

set_option maxHeartbeats 400000 in
theorem sum16 (s : ByteArray) (w : World) (hs : s.size ≤ 1048576) :
    Calls Try.prog 18 #[.string s] w fun e w' => e = .returned (.int .i64 ((sumL s.data.toList % 65536 : Nat) : Int)) ∧ w = w' := by
  go_enter Try.func18, Try.ntmps18
  go_wp2
  go_loop [3, 7] (fun n i => ∃ k : Nat, k ≤ s.size ∧ i = .int .i64 k ∧ ∃ m : Nat, n = .int .i64 m ∧ m < 65536 ∧ Hid (m = sumL (s.data.toList.take k) % 65536)) (fun _ i => s.size - (intOf i).toNat)
  case atStart => exact ⟨0, Nat.zero_le _, rfl, 0, rfl, by omega, by unfold Hid; rfl⟩
  case round =>
    obtain ⟨k, hk, rfl, m, rfl, hm, hd⟩ := hrel
    by_cases hlt : k < s.size
    · have hx := (s[k]).toNat_lt
      have h2 := Lib.hid (mask16 ((m : Int) + (s[k]).toNat) (by omega) (by omega))
      have hts := Lib.hid (take_snoc s k hlt)
      go_wp2
      go_round
      case rel =>
        refine ⟨k + 1, by omega, by go_num, (m + (s[k]).toNat) % 65536, ?_, by omega, ?_⟩
        · rw [h2.out]
          congr 1
        · unfold Hid; rw [hts.out, sumL_snoc, hd.out]; omega
      case measure => simp [intOf]; omega
    · go_wp2
      go_ret
      have e := take_ge s k (by omega)
      refine ⟨ret_int ?_, rfl⟩
      rw [hd.out, e]; omega

end Go.Proofs.Yteifmkimhjnjcaa
