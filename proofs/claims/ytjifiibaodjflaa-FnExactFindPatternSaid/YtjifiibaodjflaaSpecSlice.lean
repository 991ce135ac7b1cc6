/- spec.l07At, spec.l07Slice, spec.SliceCells -/
import Derived.Test.YtjifiibaodjflaaArcOf
import Derived.Test.YtjifiibaodjflaaSpecValidCells
import Derived.Test.YtjifiibaodjflaaConv
import Derived.Test.YtjifiibaodjflaaDigitsOf
namespace Go.Proofs.Ytjifiibaodjflaa
open Go.RowKit
set_option linter.unusedVariables false
set_option maxHeartbeats 400000 in
theorem l07At_any (s : ByteArray) (k : Nat) (w : World) (h0 : 0 < s.size) (hs : s.size ≤ 1048576) (hk : k ≤ 1000000000) :
    Calls Try.prog 87 #[.string s, .int .i64 (k : Int)] w fun e w' => e = .returned (.int .u8 ((cycB s k).toNat : Int)) ∧ w = w' := by
  have hq1 : k % s.size < s.size := Nat.mod_lt _ h0
  have hm : (k : Int) % (s.size : Int) = ((k % s.size : Nat) : Int) := by simp
  obtain ⟨q, hq⟩ : ∃ q, k % s.size = q := ⟨_, rfl⟩
  rw [hq] at hm hq1
  rw [cyc_at s k q hq hq1]
  have hmt : (k : Int).tmod (s.size : Int) = (q : Int) := by rw [← hm]; exact Int.tmod_eq_emod_of_nonneg (by omega)
  have hq2 : (q : Int) < s.size := by omega
  have hz : ¬ (s.size : Int) = 0 := by omega
  clear hq
  go_enter Try.func87, Try.ntmps87
  go_wp2
  go_ret
  exact ⟨rfl, rfl⟩
set_option maxHeartbeats 2000000 in
theorem l07Slice_any (s : ByteArray) (a n : Nat) (w : World) (h0 : a < s.size) (h1 : n ≤ s.size) (hs : s.size ≤ 8000) :
    Calls Try.prog 53 #[.string s, .int .i64 (a : Int), .int .i64 (n : Int)] w fun e w' => e = .returned (.string (arcS s a n)) ∧ Below w.heap.size w w' := by
  rw [arc_eq]
  have hat := fun k w hk => l07At_any s k w (by omega) (by omega) hk
  have HAT := Lib.hid hat; clear hat
  go_enter Try.func53, Try.ntmps53
  go_wp2
  go_loopw [7, 8] (fun v i wr => ∃ k : Nat, k ≤ n ∧ i = .int .i64 k ∧ OwnB wr w.heap.size v (arcL s a k) ∧ Below w.heap.size w wr) (fun _ i _ => n - (intOf i).toNat)
  case atStart => exact ⟨0, Nat.zero_le _, rfl, by rw [arcL_nil]; exact OwnB.nil w _ (Nat.le_refl _), (Below.refl _ _).alloc (Nat.le_refl _) _⟩
  case round =>
    obtain ⟨k, hk, rfl, hown, hb⟩ := hrel
    by_cases hlt : k < n
    · have HX := Lib.hid (arcL_succ s a k h0 (by omega))
      have hll := arcL_length s a k h0 (by omega)
      have hl4 : (arcL s a k).length < 100000 := by omega
      have hat := HAT.out (a + k)
      rw [Int.natCast_add] at hat
      obtain ⟨x, hx⟩ : ∃ x, cycB s (a + k) = x := ⟨_, rfl⟩
      rw [hx] at hat
      have HA := Lib.hid hat; have HXX := Lib.hid hx; clear hat hx
      have hxb := x.toNat_lt
      have HLL := Lib.hid hll; clear hll
      generalize arcL s a k = l at *
      have hsz := hb.size
      go_wp2_with (first
        | (go_at_call 87; refine (HA.out _ (by omega)).mono ?_; rintro e w2 ⟨rfl, rfl⟩)
        | (at_builtin; refine wpList_appendB rfl _ _ rfl rfl (hown.alloc _) (x.toNat : Int) (by omega) (by omega) ⟨wr.heap.size, 0, none⟩ 1 rfl (World.news_of_block (cs := #[.int .u8 (x.toNat : Int)]) (t := 5) (fr := (0, 0)) (heap_alloc_new wr _)) (by first | omega | (simp; omega)) (by simp; omega) ?_; intro g3 cap3 w3 hown3 _ hb3 _))
      go_roundw
      case rel =>
        refine ⟨k + 1, by omega, by go_num, ?_, (hb.alloc hsz _).trans hb3⟩
        rw [HX.out, HXX.out]
        simpa using hown3
      case measure => simp [intOf]; omega
    · obtain rfl : k = n := by omega
      have hcv := conv_own hown
      go_wp2
      go_ret
      exact ⟨rfl, hb⟩
set_option maxHeartbeats 1000000 in
theorem specSliceCells_any (s : ByteArray) (a n : Int) (w : World) (hs : s.size ≤ maxLen) :
    Calls Try.prog 14 #[.string s, .int .i64 a, .int .i64 n] w fun e w' => e = .returned (.tuple #[.string (sliceV s a n), .bool (sliceOk s a n)]) ∧ Below w.heap.size w w' := by
  have hs' := hs
  unfold maxLen at hs'
  have hv : ∀ w, Calls Try.prog 51 #[.string s] w fun e w' => e = .returned (.bool (validCells s)) ∧ w = w' := fun w => by
    go_enter Try.func51, Try.ntmps51
    go_wp2_with (go_at_call 71; refine (l02Cells_any _ _ hs).mono ?_; rintro e w1 ⟨rfl, rfl⟩)
    go_ret
    exact ⟨rfl, rfl⟩
  have hp := fun w => l00In_any a 0 ((s.size : Int) - 1) w
  have hwi := fun w => l00In_any n 0 (s.size : Int) w
  by_cases hc : sliceOk s a n = true
  · have hV : sliceV s a n = arcS s a.toNat n.toNat := by unfold sliceV; rw [if_pos hc]
    rw [hV, hc]
    have hc' := hc
    unfold sliceOk at hc'
    simp only [Bool.and_eq_true] at hc'
    obtain ⟨⟨h1, h2⟩, h3⟩ := hc'
    obtain ⟨b0, b1⟩ := validCells_bd h1
    rw [h1] at hv
    rw [h2] at hp
    rw [h3] at hwi
    obtain ⟨a0, a1⟩ := inB_iff.1 h2
    obtain ⟨n0, n1⟩ := inB_iff.1 h3
    obtain ⟨k, rfl⟩ : ∃ k : Nat, a = k := ⟨a.toNat, by omega⟩
    obtain ⟨m, rfl⟩ : ∃ k : Nat, n = k := ⟨n.toNat, by omega⟩
    have HV := Lib.hid hv; have HP := Lib.hid hp; have HW := Lib.hid hwi
    have e1 : ((k : Int)).toNat = k := by omega
    have e2 : ((m : Int)).toNat = m := by omega
    rw [e1, e2]
    have HS := Lib.hid (fun w => l07Slice_any s k m w (by omega) (by omega) (by omega))
    clear hv hp hwi h1 h2 h3 hc hV e1 e2
    go_enter Try.func14, Try.ntmps14
    go_wp2_with (first | (go_at_call 51; refine (HV.out _).mono ?_; rintro e w1 ⟨rfl, rfl⟩) | (go_at_call 52; first | ((with_reducible refine (HP.out _).mono ?_); rintro e w2 ⟨rfl, rfl⟩) | ((with_reducible refine (HW.out _).mono ?_); rintro e w2 ⟨rfl, rfl⟩)) | (go_at_call 53; refine (HS.out _).mono ?_; rintro e w3 ⟨rfl, hb3⟩))
    go_ret2
    exact ⟨rfl, hb3⟩
  · have hf : sliceOk s a n = false := by simpa using hc
    have hV : sliceV s a n = ⟨#[]⟩ := by unfold sliceV; rw [if_neg hc]
    rw [hV, hf]
    unfold sliceOk at hf
    obtain ⟨x, hx⟩ : ∃ x, validCells s = x := ⟨_, rfl⟩
    obtain ⟨y, hy⟩ : ∃ y, inB 0 ((s.size : Int) - 1) a = y := ⟨_, rfl⟩
    obtain ⟨z, hz⟩ : ∃ z, inB 0 (s.size : Int) n = z := ⟨_, rfl⟩
    rw [hx] at hv hf
    rw [hy] at hp hf
    rw [hz] at hwi hf
    have HV := Lib.hid hv; have HP := Lib.hid hp; have HW := Lib.hid hwi
    clear hv hp hwi hx hy hz hc hV
    cases x with
    | false =>
      clear hf
      go_enter Try.func14, Try.ntmps14
      go_wp2_with (first | (go_at_call 51; refine (HV.out _).mono ?_; rintro e w1 ⟨rfl, rfl⟩))
      go_ret2
      exact ⟨rfl, Below.refl _ _⟩
    | true =>
      cases y with
      | false =>
        clear hf
        go_enter Try.func14, Try.ntmps14
        go_wp2_with (first | (go_at_call 51; refine (HV.out _).mono ?_; rintro e w1 ⟨rfl, rfl⟩) | (go_at_call 52; refine (HP.out _).mono ?_; rintro e w2 ⟨rfl, rfl⟩))
        go_ret2
        exact ⟨rfl, Below.refl _ _⟩
      | true =>
        obtain rfl : z = false := by simpa using hf
        clear hf
        go_enter Try.func14, Try.ntmps14
        go_wp2_with (first | (go_at_call 51; refine (HV.out _).mono ?_; rintro e w1 ⟨rfl, rfl⟩) | (go_at_call 52; first | ((with_reducible refine (HP.out _).mono ?_); rintro e w2 ⟨rfl, rfl⟩) | ((with_reducible refine (HW.out _).mono ?_); rintro e w2 ⟨rfl, rfl⟩)))
        go_ret2
        exact ⟨rfl, Below.refl _ _⟩
end Go.Proofs.Ytjifiibaodjflaa
