/- spec.l07At, spec.l07Slice, spec.SliceCells -/
import Derived.Test.YtlaejcbcfcomaaaArcOf
import Derived.Test.YtlaejcbcfcomaaaSpecValidCells
import Derived.Test.YtlaejcbcfcomaaaConv
import Derived.Test.YtlaejcbcfcomaaaDigitsOf
namespace Go.Proofs.Ytlaejcbcfcomaaa
open Go.RowKit
set_option linter.unusedVariables false
set_option maxHeartbeats 400000 in
theorem l07At_any (s : ByteArray) (k : Nat) (w : World) (h0 : 0 < s.size) (hs : s.size ≤ 1048576) (hk : k ≤ 1000000000) :
    Calls Try.prog 114 #[.string s, .int .i64 (k : Int)] w fun e w' => e = .returned (.int .u8 ((cycB s k).toNat : Int)) ∧ w = w' := by
  have hq1 : k % s.size < s.size := Nat.mod_lt _ h0
  have hm : (k : Int) % (s.size : Int) = ((k % s.size : Nat) : Int) := by simp
  obtain ⟨q, hq⟩ : ∃ q, k % s.size = q := ⟨_, rfl⟩
  rw [hq] at hm hq1
  rw [cyc_at s k q hq hq1]
  have hmt : (k : Int).tmod (s.size : Int) = (q : Int) := by rw [← hm]; exact Int.tmod_eq_emod_of_nonneg (by omega)
  have hq2 : (q : Int) < s.size := by omega
  have hz : ¬ (s.size : Int) = 0 := by omega
  clear hq
  go_enter Try.func114, Try.ntmps114
  go_wp2
  go_ret
  exact ⟨rfl, rfl⟩
set_option maxHeartbeats 2000000 in
theorem l07Slice_any (s : ByteArray) (a n : Nat) (w : World) (h0 : a < s.size) (h1 : n ≤ s.size) (hs : s.size ≤ 8000) :
    Calls Try.prog 67 #[.string s, .int .i64 (a : Int), .int .i64 (n : Int)] w fun e w' => e = .returned (.string (arcS s a n)) ∧ Below w.heap.size w w' := by
  rw [arc_eq]
  have hat := fun k w hk => l07At_any s k w (by omega) (by omega) hk
  have HAT := Lib.hid hat; clear hat
  go_enter Try.func67, Try.ntmps67
  go_wp2
  go_loopw [7, 8] (fun v i wr => ∃ k : Nat, k ≤ n ∧ i = .int .i64 k ∧ OwnB wr w.heap.size v (arcL s a k) ∧ Below w.heap.size w wr) (fun _ i _ => n - (intOf i).toNat)
  case atStart => exact ⟨0, Nat.zero_le _, rfl, by rw [arcL_nil]; exact OwnB.nil w _ (Nat.le_refl _), (Below.refl _ _).alloc (Nat.le_refl _) _⟩
  case round =>
    obtain ⟨k, hk, rfl, hown, hb⟩ := hrel
    by_cases hlt : k < n
    · have HX := Lib.hid (arcL_succ s a k h0 (by omega))
      have hll := arcL_length s a k h0 (by omega)
      have hl4 : (arcL s a k).length < 100000 := by omega
      have hat := HAT.out (a + k)
      rw [Int.natCast_add] at hat
      obtain ⟨x, hx⟩ : ∃ x, cycB s (a + k) = x := ⟨_, rfl⟩
      rw [hx] at hat
      have HA := Lib.hid hat; have HXX := Lib.hid hx; clear hat hx
      have hxb := x.toNat_lt
      have HLL := Lib.hid hll; clear hll
      generalize arcL s a k = l at *
      have hsz := hb.size
      go_wp2_with (first
        | (go_at_call 114; refine (HA.out _ (by omega)).mono ?_; rintro e w2 ⟨rfl, rfl⟩)
        | (at_builtin; refine wpList_appendB rfl _ _ rfl rfl (hown.alloc _) (x.toNat : Int) (by omega) (by omega) ⟨wr.heap.size, 0, none⟩ 1 rfl (World.news_of_block (cs := #[.int .u8 (x.toNat : Int)]) (t := 5) (fr := (0, 0)) (heap_alloc_new wr _)) (by first | omega | (simp; omega)) (by simp; omega) ?_; intro g3 cap3 w3 hown3 _ hb3 _))
      go_roundw
      case rel =>
        refine ⟨k + 1, by omega, by go_num, ?_, (hb.alloc hsz _).trans hb3⟩
        rw [HX.out, HXX.out]
        simpa using hown3
      case measure => simp [intOf]; omega
    · obtain rfl : k = n := by omega
      have hcv := conv_own hown
      go_wp2
      go_ret
      exact ⟨rfl, hb⟩
end Go.Proofs.Ytlaejcbcfcomaaa
