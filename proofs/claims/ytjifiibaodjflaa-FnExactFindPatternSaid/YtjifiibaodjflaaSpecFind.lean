/- spec.l07Fits, spec.l07Find, spec.FindPattern -/
import Derived.Test.YtjifiibaodjflaaFindV
import Derived.Test.YtjifiibaodjflaaSpecSlice
import Derived.Test.YtjifiibaodjflaaSlRes
namespace Go.Proofs.Ytjifiibaodjflaa
open Go.RowKit
set_option linter.unusedVariables false
set_option maxHeartbeats 1000000 in
theorem l07Fits_any (s p : ByteArray) (a : Nat) (w : World) (ha : a < s.size) (h1 : 1 ≤ p.size) (hp : p.size ≤ s.size) (hs : s.size ≤ 8000) :
    Calls Try.prog 88 #[.string s, .string p, .int .i64 (a : Int)] w fun e w' => e = .returned (.bool (fitB s p a)) ∧ Below w.heap.size w w' := by
  have HAT := Lib.hid (fun k w hk => l07At_any s k w (by omega) (by omega) hk)
  have HNO := Lib.hid (fun j hj hne => fit_no s p a j hp ha hj hne)
  have HY := Lib.hid (fit_iff s p a hp h1 ha)
  go_enter Try.func88, Try.ntmps88
  go_wp2
  go_loopw [7] (fun i wr => ∃ k : Nat, k ≤ p.size ∧ i = .int .i64 k ∧ Hid (∀ j (hj : j < p.size), j < k → cycB s (a + j) = p[j]) ∧ Below w.heap.size w wr) (fun i _ => p.size - (intOf i).toNat)
  case atStart => exact ⟨0, Nat.zero_le _, rfl, (by unfold Hid; intro j hj h; omega), Below.refl _ _⟩
  case round =>
    obtain ⟨k, hk, rfl, ha2, hbw⟩ := hrel
    by_cases hlt : k < p.size
    · have hat := HAT.out (a + k)
      rw [Int.natCast_add] at hat
      have e1 : (k : Int) < p.size := by omega
      by_cases he : cycB s (a + k) = p[k]
      · have HE := Lib.hid he
        rw [he] at hat
        have HA := Lib.hid hat; clear hat he
        have hx := p[k].toNat_lt
        have hxx : ((p[k].toNat : Int) != (p[k].toNat : Int)) = false := by simp
        go_wp2
        go_quiet ((go_at_call 87; exact Calls.quiet_of_same ((HA.out _ (by omega)).mono fun _ _ ⟨he, hw⟩ => ⟨he, hw.symm⟩)))
        go_wp2
        go_roundw
        case rel =>
          refine ⟨k + 1, by omega, by go_num, ?_, below_drewN hbw _⟩
          unfold Hid
          intro j hj hjk
          by_cases hjk2 : j = k
          · subst hjk2; exact HE.out
          · exact ha2.out j hj (by omega)
        case measure => simp [intOf]; omega
      · have HF := Lib.hid (HNO.out k hlt he)
        have hne : ¬ (cycB s (a + k)).toNat = p[k].toNat := fun h => he (UInt8.toNat_inj.1 h)
        generalize cycB s (a + k) = x at *
        have HA := Lib.hid hat; clear hat he
        have hx := p[k].toNat_lt
        have hx2 := x.toNat_lt
        have hxx : ((x.toNat : Int) != (p[k].toNat : Int)) = true := by simp; omega
        go_wp2
        go_quiet ((go_at_call 87; exact Calls.quiet_of_same ((HA.out _ (by omega)).mono fun _ _ ⟨he, hw⟩ => ⟨he, hw.symm⟩)))
        go_wp2
        go_ret
        exact ⟨ret_bool HF.out.symm, below_drewN hbw _⟩
    · have e1 : ¬ (k : Int) < p.size := by omega
      go_wp2
      go_ret
      exact ⟨ret_bool (HY.out.2 fun j hj => ha2.out j hj (by omega)).symm, hbw⟩
set_option maxHeartbeats 2000000 in
theorem l07Find_any (s p : ByteArray) (w : World) (h1 : 1 ≤ p.size) (hp : p.size ≤ s.size) (hs : s.size ≤ 8000) :
    Calls Try.prog 61 #[.string s, .string p] w (SlRes (findR s p s.size) w) := by
  have HF := Lib.hid (fun a w ha => l07Fits_any s p a w ha h1 hp hs)
  go_enter Try.func61, Try.ntmps61
  go_wp2
  go_loopw [5, 6] (fun v i wr => ∃ k : Nat, k ≤ s.size ∧ i = .int .i64 k ∧ OwnI wr w.heap.size v (findR s p k) ∧ Below w.heap.size w wr) (fun _ i _ => s.size - (intOf i).toNat)
  case atStart => exact ⟨0, Nat.zero_le _, rfl, OwnI.empty w _ (Nat.le_refl _), (Below.refl _ _).alloc (Nat.le_refl _) _⟩
  case round =>
    obtain ⟨k, hk, rfl, hown, hb⟩ := hrel
    have hsz := hb.size
    by_cases hlt : k < s.size
    · have e1 : (k : Int) < s.size := by omega
      have hf := fun w => HF.out k w hlt
      have hln := findR_len s p k
      cases hfit : fitB s p k with
      | true =>
        rw [hfit] at hf
        have HR := Lib.hid (findR_yes s p k hfit)
        have HFF := Lib.hid hf; clear hf hfit
        generalize findR s p k = l at *
        have hl4 : l.length < 1073741824 := by omega
        go_wp2_with (first
          | (go_at_call 88; refine (HFF.out _).mono ?_; rintro e w2 ⟨rfl, hb2⟩; have hown2 := hown.below' hb2; have hb2' := hb.trans (hb2.mono hsz); have hsz2 := hb2'.size)
          | (at_builtin; refine wpList_appendI 27 Try.underlying27 rfl _ _ rfl rfl (hown2.alloc _) (k : Int) ⟨w2.heap.size, 0, none⟩ 1 rfl (World.news_of_block (cs := #[.int .i64 (k : Int)]) (t := 2) (fr := (0, 0)) (heap_alloc_new w2 _)) hl4 (by simp; omega) ?_; intro g cap w3 hown3 hb3 _))
        go_roundw
        case rel => exact ⟨k + 1, by omega, by go_num, by rw [HR.out]; simpa using hown3, (hb2'.alloc hsz2 _).trans hb3⟩
        case measure => simp [intOf]; omega
      | false =>
        rw [hfit] at hf
        have HR := Lib.hid (findR_no s p k hfit)
        have HFF := Lib.hid hf; clear hf hfit
        generalize findR s p k = l at *
        go_wp2_with (go_at_call 88; refine (HFF.out _).mono ?_; rintro e w2 ⟨rfl, hb2⟩)
        go_roundw
        case rel => exact ⟨k + 1, by omega, by go_num, by rw [HR.out]; exact hown.below' hb2, hb.trans (hb2.mono hsz)⟩
        case measure => simp [intOf]; omega
    · obtain rfl : k = s.size := by omega
      have HOWN := Lib.hid hown; clear hown
      obtain ⟨a, c, rfl, hs⟩ := HOWN.out.slO
      have HS := Lib.hid hs; clear hs
      go_wp2
      go_ret
      exact ⟨_, _, rfl, HS.out, hb⟩
theorem specValid_eq (s : ByteArray) (w : World) (hs : s.size ≤ maxLen) : Calls Try.prog 51 #[.string s] w fun e w' => e = .returned (.bool (validCells s)) ∧ w = w' := by
  go_enter Try.func51, Try.ntmps51
  go_wp2_with (go_at_call 71; refine (l02Cells_any _ _ hs).mono ?_; rintro e w1 ⟨rfl, rfl⟩)
  go_ret
  exact ⟨rfl, rfl⟩
set_option maxHeartbeats 2000000 in
theorem specFindPattern_any (s p : ByteArray) (hs : s.size ≤ 1048576) (hp : p.size ≤ 1048576) (w : World) :
    Calls Try.prog 27 #[.string s, .string p] w (SlRes (findV s p) w) := by
  have hv1 := fun w => specValid_eq s w (by unfold maxLen; omega)
  have hv2 := fun w => specValid_eq p w (by unfold maxLen; omega)
  by_cases hc : findOk s p = true
  · have hV : findV s p = findR s p s.size := by unfold findV; rw [if_pos hc]
    rw [hV]
    unfold findOk at hc
    simp only [Bool.and_eq_true, decide_eq_true_eq] at hc
    obtain ⟨⟨c1, c2⟩, c3⟩ := hc
    obtain ⟨b1, b2⟩ := validCells_bd c1
    obtain ⟨b3, b4⟩ := validCells_bd c2
    rw [c1] at hv1
    rw [c2] at hv2
    have HV1 := Lib.hid hv1; have HV2 := Lib.hid hv2
    have HF := Lib.hid (fun w => l07Find_any s p w (by omega) c3 b2)
    clear hv1 hv2 c1 c2 hV
    have e1 : ¬ (s.size : Int) < p.size := by omega
    go_enter Try.func27, Try.ntmps27
    go_wp2_with (first | (go_at_call 51; first | ((with_reducible refine (HV1.out _).mono ?_); rintro e w2 ⟨rfl, rfl⟩) | ((with_reducible refine (HV2.out _).mono ?_); rintro e w2 ⟨rfl, rfl⟩)) | (go_at_call 61; refine (HF.out _).mono ?_; rintro e w3 ⟨a3, d3, rfl, hso3, hb3⟩))
    go_ret
    exact ⟨_, _, rfl, hso3, hb3⟩
  · have hV : findV s p = [] := by unfold findV; rw [if_neg hc]
    rw [hV]
    unfold findOk at hc
    obtain ⟨x, hx⟩ : ∃ x, validCells s = x := ⟨_, rfl⟩
    obtain ⟨y, hy⟩ : ∃ x, validCells p = x := ⟨_, rfl⟩
    rw [hx] at hv1 hc
    rw [hy] at hv2 hc
    have HV1 := Lib.hid hv1; have HV2 := Lib.hid hv2
    clear hv1 hv2 hx hy hV
    cases x with
    | false =>
      clear hc
      go_enter Try.func27, Try.ntmps27
      go_wp2_with (go_at_call 51; refine (HV1.out _).mono ?_; rintro e w2 ⟨rfl, rfl⟩)
      go_ret
      exact ⟨_, _, rfl, .inl rfl, Below.refl _ _⟩
    | true =>
      cases y with
      | false =>
        clear hc
        go_enter Try.func27, Try.ntmps27
        go_wp2_with (go_at_call 51; first | ((with_reducible refine (HV1.out _).mono ?_); rintro e w2 ⟨rfl, rfl⟩) | ((with_reducible refine (HV2.out _).mono ?_); rintro e w2 ⟨rfl, rfl⟩))
        go_ret
        exact ⟨_, _, rfl, .inl rfl, Below.refl _ _⟩
      | true =>
        have e1 : (s.size : Int) < p.size := by simp at hc; omega
        clear hc
        go_enter Try.func27, Try.ntmps27
        go_wp2_with (go_at_call 51; first | ((with_reducible refine (HV1.out _).mono ?_); rintro e w2 ⟨rfl, rfl⟩) | ((with_reducible refine (HV2.out _).mono ?_); rintro e w2 ⟨rfl, rfl⟩))
        go_ret
        exact ⟨_, _, rfl, .inl rfl, Below.refl _ _⟩
end Go.Proofs.Ytjifiibaodjflaa
