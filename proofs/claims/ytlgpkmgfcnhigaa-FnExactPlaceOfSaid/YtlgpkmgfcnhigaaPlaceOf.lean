/- impl.PlaceOf, spec.PlaceOf -/
import Derived.Test.YtlgpkmgfcnhigaaPlaceVal
import Derived.Test.YtlgpkmgfcnhigaaWithin
import Derived.Test.YtlgpkmgfcnhigaaShelf
namespace Go.Proofs.Ytlgpkmgfcnhigaa
open Go.RowKit
set_option linter.unusedVariables false
/-- The library's variable MaxLen holds some number. -/
def MaxP (w : World) : Prop := ∃ m, w.cell? ⟨0, 0, none⟩ = some (.int .i64 m)
theorem MaxP.lt {w : World} (h : MaxP w) : 0 < w.heap.size := by
  obtain ⟨m, hm⟩ := h
  exact World.block_lt_of_cell? w ⟨0, 0, none⟩ hm
theorem MaxP.below {w w' : World} (h : MaxP w) (hb : Below w.heap.size w w') : MaxP w' := by
  have hl := h.lt
  obtain ⟨m, hm⟩ := h
  exact ⟨m, by rw [hb.cell (p := ⟨0, 0, none⟩) hl]; exact hm⟩
theorem strIndexP_any (s p : ByteArray) (w : World) (h : MaxP w) (hs : s.size ≤ 1048576) :
    Calls Try.prog 40 #[.string s, .string p] w fun e w' => e = .returned (.int .i64 (Lib.index s.data.toList p.data.toList)) ∧ w' = w := by
  obtain ⟨m, hm⟩ := h
  exact Try.strings_Index s p m w (by omega) hm
set_option maxHeartbeats 1000000 in
theorem placeOf_any (s p : ByteArray) (f : Int) (hs : s.size ≤ 1048576) (w : World) (hm : MaxP w) :
    Calls Try.prog 17 #[.string s, .string p, .int .i64 f] w fun e w' => e = .returned (.int .i64 (placeV s p f)) ∧ Below w.heap.size w w' := by
  have WI := Lib.hid (fun T => within_new 0 (s.size : Int) f w T)
  by_cases hf : f < 0 ∨ (s.size : Int) < f
  · rw [placeV_out hf]
    have hi : inB 0 (s.size : Int) f = false := by
      rcases hf with h | h
      · exact inB_lo h
      · exact inB_hi h
    rw [hi] at WI
    clear hi hf hm
    go_enter Try.func17, Try.ntmps17
    go_wp2_with (go_at_call 39; refine (WI.out _).mono ?_; rintro e w1 ⟨rfl, rfl⟩)
    go_ret
    exact ⟨rfl, by go_grown⟩
  · obtain ⟨k, rfl⟩ : ∃ k : Nat, f = k := ⟨f.toNat, by omega⟩
    have hk : k ≤ s.size := by omega
    rw [inB_true (by omega) (by omega)] at WI
    have HMX := Lib.hid (fun T => hm.below (show Below w.heap.size w (w.alloc (.cells #[.int .i64 (k : Int)] T)) by go_grown))
    have IX := Lib.hid (fun W hW => strIndexP_any (s.extract k s.size) p W hW (Nat.le_trans (plc_cutSize s k) hs))
    rw [plc_cut] at IX
    have ek : (k : Int) ≤ (s.size : Int) := by omega
    clear hf hm
    rcases plc_cases (s.data.toList.drop k) p.data.toList with ⟨h1, _⟩ | ⟨d, h0, h1, _⟩
    · rw [placeV_no h1]
      rw [h1] at IX
      clear h1
      go_enter Try.func17, Try.ntmps17
      go_wp2_with (first | (go_at_call 39; refine (WI.out _).mono ?_; rintro e w1 ⟨rfl, rfl⟩) | (go_at_call 40; refine (IX.out _ (HMX.out _)).mono ?_; rintro e w2 ⟨rfl, rfl⟩))
      go_ret
      exact ⟨rfl, by go_grown⟩
    · rw [placeV_yes hk h1]
      rw [h1] at IX
      rw [List.length_drop] at h0
      have hd : k + d ≤ s.size := by
        have hl : s.data.toList.length = s.size := by simp
        omega
      clear h0 h1
      go_enter Try.func17, Try.ntmps17
      go_wp2_with (first | (go_at_call 39; refine (WI.out _).mono ?_; rintro e w1 ⟨rfl, rfl⟩) | (go_at_call 40; refine (IX.out _ (HMX.out _)).mono ?_; rintro e w2 ⟨rfl, rfl⟩))
      go_ret
      exact ⟨ret_int (by omega), by go_grown⟩
set_option maxHeartbeats 1000000 in
theorem specPlaceOf_any (s p : ByteArray) (f : Int) (hs : s.size ≤ 1048576) (hp : p.size ≤ 1048576) (w : World) :
    Calls Try.prog 16 #[.string s, .string p, .int .i64 f] w fun e w' => e = .returned (.int .i64 (placeV s p f)) ∧ Below w.heap.size w w' := by
  by_cases hf : f < 0
  · rw [placeV_out (.inl hf)]
    go_enter Try.func16, Try.ntmps16
    go_wp2
    go_ret
    exact ⟨rfl, by go_grown⟩
  obtain ⟨k, rfl⟩ : ∃ k : Nat, f = k := ⟨f.toNat, by omega⟩
  have HF := Lib.hid (fun i (h1 : k ≤ i) (h2 : i ≤ s.size) => placeV_found (s := s) (p := p) h1 h2)
  have HN := Lib.hid (placeV_none (s := s) (p := p) (k := k))
  have HO := Lib.hid (fun i h => occB_iff (s := s) (p := p) (i := i) h)
  have HR := Lib.hid (fun i h => occB_room (s := s) (p := p) (i := i) h)
  generalize placeV s p k = r at *
  go_enter Try.func16, Try.ntmps16
  go_wp2
  go_loopw [7] (fun i wr => ∃ m : Nat, k ≤ m ∧ i = .int .i64 (m : Int) ∧ Hid (∀ j, k ≤ j → j < m → occB s p j = false) ∧ Below w.heap.size w wr) (fun i _ => s.size + 1 - (intOf i).toNat)
  case atStart => exact ⟨k, Nat.le_refl _, rfl, (by unfold Hid; intro j h1 h2; omega), Below.refl _ _⟩
  case round =>
    obtain ⟨m, hk, rfl, hT, hb⟩ := hrel
    by_cases hlt : (m : Int) ≤ (s.size : Int) - (p.size : Int)
    · have h1 : m + p.size ≤ s.size := by omega
      have h2 : (m : Int) + (p.size : Int) ≤ (s.size : Int) := by omega
      by_cases he : s.extract m (m + p.size) = p
      · have HE := Lib.hid ((HO.out m h1).2 he)
        go_wp2
        go_ret
        exact ⟨by rw [HF.out m hk (by omega) HE.out hT.out]; rfl, hb⟩
      · have HE := Lib.hid (show occB s p m = false by
          cases h : occB s p m with
          | false => rfl
          | true => exact absurd ((HO.out m h1).1 h) he)
        have hne := plc_ne he
        clear he
        go_wp2
        go_roundw
        case rel =>
          refine ⟨m + 1, by omega, by go_num, ?_, hb⟩
          unfold Hid
          intro j h3 h4
          by_cases e : j = m
          · rw [e]; exact HE.out
          · exact hT.out j h3 (by omega)
        case measure => simp [intOf]; omega
    · go_wp2
      go_ret
      have h5 := HN.out (fun j h1 h2 => by
        by_cases h3 : j < m
        · exact hT.out j h1 h3
        · cases h : occB s p j with
          | false => rfl
          | true =>
            exfalso
            rcases HR.out j h with h4 | h4 <;> omega)
      exact ⟨by rw [h5]; rfl, hb⟩
theorem placeOf_g (s p : ByteArray) (f : Int) (hs : s.size ≤ 1048576) (hp : p.size ≤ 1048576) (w : World) (hm : MaxP w) :
    Calls Try.prog 17 #[.string s, .string p, .int .i64 f] w fun e w' => e = .returned (.int .i64 (placeV s p f)) ∧ Below w.heap.size w w' := placeOf_any s p f hs w hm
theorem specPlaceOf_g (s p : ByteArray) (f : Int) (hs : s.size ≤ 1048576) (hp : p.size ≤ 1048576) (w : World) :
    Calls Try.prog 16 #[.string s, .string p, .int .i64 f] w fun e w' => e = .returned (.int .i64 (placeV s p f)) ∧ Below w.heap.size w w' := specPlaceOf_any s p f hs hp w
end Go.Proofs.Ytlgpkmgfcnhigaa
