/- impl.isPlace, impl.around, impl.SliceCells, impl.CellsBetween -/
import Derived.Test.YtjifiibaodjflaaArcOf
namespace Go.Proofs.Ytjifiibaodjflaa
open Go.RowKit
set_option linter.unusedVariables false
set_option maxHeartbeats 400000 in
theorem isPlace_any (n total : Int) (w : World) (h0 : -9223372036854775808 < total) (h1 : total ≤ 9223372036854775807) :
    Calls Try.prog 55 #[.int .i64 n, .int .i64 total] w fun e w' => e = .returned (.bool (inB 0 (total - 1) n)) ∧ Below w.heap.size w w' := by
  go_enter Try.func55, Try.ntmps55
  go_wp2_with (go_at_call 56; refine (within_at _ _ _ _ _ _ (by simp)).mono ?_; rintro e w' ⟨rfl, rfl⟩)
  go_ret
  exact ⟨rfl, (Below.refl _ _).alloc (Nat.le_refl _) _⟩
theorem within_b (lo hi n : Int) (w : World) (T : TypeId) (b : Nat) (hb : w.heap.size = b) :
    Calls Try.prog 56 #[.int .i64 lo, .int .i64 hi, .slice (some ⟨b, 0, none⟩) 1 1] (w.alloc (.cells #[.int .i64 n] T)) fun e w' => e = .returned (.bool (inB lo hi n)) ∧ Below w.heap.size w w' :=
  (within_at lo hi n w T b hb).mono fun e w' ⟨he, hw⟩ => ⟨he, by rw [← hw]; exact (Below.refl _ _).alloc (Nat.le_refl _) _⟩
set_option maxHeartbeats 1000000 in
theorem sliceCells_any (s : ByteArray) (a n : Int) (w : World) (hs : s.size ≤ maxLen) :
    Calls Try.prog 15 #[.string s, .int .i64 a, .int .i64 n] w fun e w' => e = .returned (.tuple #[.string (sliceV s a n), .bool (sliceOk s a n)]) ∧ Below w.heap.size w w' := by
  have hs' := hs
  unfold maxLen at hs'
  have hv := fun w => validCells_any s w hs
  have hp := fun w => isPlace_any a (s.size : Int) w (by omega) (by omega)
  have hwi := fun w b hb => within_b 0 (s.size : Int) n w 2 b hb
  by_cases hc : sliceOk s a n = true
  · have hV : sliceV s a n = arcS s a.toNat n.toNat := by unfold sliceV; rw [if_pos hc]
    rw [hV, hc]
    have hc' := hc
    unfold sliceOk at hc'
    simp only [Bool.and_eq_true] at hc'
    obtain ⟨⟨h1, h2⟩, h3⟩ := hc'
    obtain ⟨b0, b1⟩ := validCells_bd h1
    rw [h1] at hv
    rw [h2] at hp
    rw [h3] at hwi
    obtain ⟨a0, a1⟩ := inB_iff.1 h2
    obtain ⟨n0, n1⟩ := inB_iff.1 h3
    obtain ⟨k, rfl⟩ : ∃ k : Nat, a = k := ⟨a.toNat, by omega⟩
    obtain ⟨m, rfl⟩ : ∃ k : Nat, n = k := ⟨n.toNat, by omega⟩
    have HV := Lib.hid hv; have HP := Lib.hid hp; have HW := Lib.hid hwi
    clear hv hp hwi h1 h2 h3 hc hV
    have hk : k < s.size := by omega
    have hm : m ≤ s.size := by omega
    have e1 : ((k : Int)).toNat = k := by omega
    have e2 : ((m : Int)).toNat = m := by omega
    rw [e1, e2]
    have e3 : (k : Int) + (m : Int) ≤ (s.size : Int) + s.size := by omega
    have e4 : k + m ≤ s.size + s.size := by omega
    have e5 : (s ++ s).size = s.size + s.size := by simp
    clear e1 e2
    go_enter Try.func15, Try.ntmps15
    go_wp2_with (first | (go_at_call 54; refine (HV.out _).mono ?_; rintro e w1 ⟨rfl, hb1⟩) | (go_at_call 55; refine (HP.out _).mono ?_; rintro e w2 ⟨rfl, hb2⟩) | (go_at_call 56; refine (HW.out _ _ (by simp)).mono ?_; rintro e w3 ⟨rfl, hb3⟩) | go_in)
    go_ret2
    exact ⟨rfl, (hb1.trans (hb2.mono hb1.size)).trans (hb3.mono (Nat.le_trans hb1.size hb2.size))⟩
  · have hf : sliceOk s a n = false := by simpa using hc
    have hV : sliceV s a n = ⟨#[]⟩ := by unfold sliceV; rw [if_neg hc]
    rw [hV, hf]
    unfold sliceOk at hf
    obtain ⟨x, hx⟩ : ∃ x, validCells s = x := ⟨_, rfl⟩
    obtain ⟨y, hy⟩ : ∃ y, inB 0 ((s.size : Int) - 1) a = y := ⟨_, rfl⟩
    obtain ⟨z, hz⟩ : ∃ z, inB 0 (s.size : Int) n = z := ⟨_, rfl⟩
    rw [hx] at hv hf
    rw [hy] at hp hf
    rw [hz] at hwi hf
    have HV := Lib.hid hv; have HP := Lib.hid hp; have HW := Lib.hid hwi
    clear hv hp hwi hx hy hz hc hV
    cases x with
    | false =>
      clear hf
      go_enter Try.func15, Try.ntmps15
      go_wp2_with (first | (go_at_call 54; refine (HV.out _).mono ?_; rintro e w1 ⟨rfl, hb1⟩))
      go_ret2
      exact ⟨rfl, hb1⟩
    | true =>
      cases y with
      | false =>
        clear hf
        go_enter Try.func15, Try.ntmps15
        go_wp2_with (first | (go_at_call 54; refine (HV.out _).mono ?_; rintro e w1 ⟨rfl, hb1⟩) | (go_at_call 55; refine (HP.out _).mono ?_; rintro e w2 ⟨rfl, hb2⟩))
        go_ret2
        exact ⟨rfl, hb1.trans (hb2.mono hb1.size)⟩
      | true =>
        obtain rfl : z = false := by simpa using hf
        clear hf
        go_enter Try.func15, Try.ntmps15
        go_wp2_with (first | (go_at_call 54; refine (HV.out _).mono ?_; rintro e w1 ⟨rfl, hb1⟩) | (go_at_call 55; refine (HP.out _).mono ?_; rintro e w2 ⟨rfl, hb2⟩) | (go_at_call 56; refine (HW.out _ _ (by simp)).mono ?_; rintro e w3 ⟨rfl, hb3⟩))
        go_ret2
        exact ⟨rfl, (hb1.trans (hb2.mono hb1.size)).trans (hb3.mono (Nat.le_trans hb1.size hb2.size))⟩
end Go.Proofs.Ytjifiibaodjflaa
