/- impl.FmMark, spec.FmMark, impl.FmMarkOf, spec.FmMarkOf -/
import Derived.Test.YtkdhhkoablmbbabCellWords
import Derived.Test.YtkdhhkoablmbbabSpecEncode
import Derived.Test.YtkdhhkoablmbbabDecodeLaw
import Derived.Test.YtkdhhkoablmbbabRowB
namespace Go.Proofs.Ytkdhhkoablmbbab
open Go.RowKit
set_option linter.unusedVariables false
def markN (c : Nat) : Int := bits .or .u16 41002 (dataN c)
def markS (c : Nat) : ByteArray := ⟨(cellsT (markN c)).toArray⟩
def fmMarkV (b : Int) : ByteArray := if 0 ≤ b ∧ b ≤ 255 then markS b.toNat else ⟨#[]⟩
theorem markN_bd : ∀ c, c < 256 → 0 ≤ markN c ∧ markN c ≤ 65535 := by decide +kernel
theorem mark_cells : ∀ c, c < 256 → (((encBits false false (bitsL c)).set 4 48).set 6 48).set 8 48 = cellsT (markN c) := by decide +kernel
theorem enc_one (c : UInt8) : encV ⟨#[c]⟩ false false = ⟨(encBits false false (bitsL c.toNat)).toArray⟩ := by
  have h := (encS_byte ⟨#[c]⟩ false false 0 (by show 0 < 1; omega)).1
  unfold encV
  rw [if_pos (by show 1 ≤ 500; omega)]
  show (⟨(encS ⟨#[c]⟩ false false (8 * (0 + 1))).toArray⟩ : ByteArray) = _
  rw [h]
  rfl
theorem fmMark_in {b : Int} (h : inB 0 255 b = true) : fmMarkV b = markS b.toNat := by rw [inB_iff] at h; unfold fmMarkV; rw [if_pos h]
theorem fmMark_out {b : Int} (h : inB 0 255 b = false) : fmMarkV b = ⟨#[]⟩ := by
  unfold fmMarkV; rw [if_neg]; intro h2; rw [← inB_iff, h] at h2; cases h2
set_option maxHeartbeats 1000000 in
theorem fmMark_any (b : Int) (w : World) :
    Calls Try.prog 12 #[.int .i64 b] w fun e w' => e = .returned (.string (fmMarkV b)) ∧ Below w.heap.size w w' := by
  by_cases hin : inB 0 255 b = true
  · have hE := fmMark_in hin
    have hb := inB_iff.1 hin
    obtain ⟨c, hc⟩ : ∃ c : Nat, b.toNat = c := ⟨_, rfl⟩
    rw [hE, hc]
    have h256 : c < 256 := by omega
    obtain rfl : b = (c : Int) := by omega
    have hm := markN_bd c h256
    have h1 : ∀ w, Calls Try.prog 29 #[.int .u8 199] w fun e w' => e = .returned (.int .u16 20501) ∧ w = w' := fun w => dataCells_any 199 (by omega) w
    have H1 := Lib.hid h1; clear h1 hE hc hb
    have ht := fun w => cellText_any (markN c) hm.1 hm.2 w
    unfold markN at ht
    have HT := Lib.hid ht; clear ht hm
    go_enter Try.func12, Try.ntmps12
    go_wp2_with (first
      | (go_at_call 27; refine (within_new _ _ _ _ _).mono ?_; rintro e w' ⟨rfl, rfl⟩)
      | (go_at_call 29; first | ((with_reducible refine (H1.out _).mono ?_); rintro e w2 ⟨rfl, rfl⟩) | ((with_reducible refine (dataCells_any c h256 _).mono ?_); rintro e w2 ⟨rfl, rfl⟩))
      | (go_at_call 28; refine (HT.out _).mono ?_; rintro e w3 ⟨rfl, hb3⟩))
    go_ret
    exact ⟨rfl, Below.trans (show Below w.heap.size w _ from (Below.refl _ _).alloc (Nat.le_refl _) _) (hb3.mono (by simp))⟩
  · have hin0 : inB 0 255 b = false := by simpa using hin
    rw [fmMark_out hin0]
    clear hin
    go_enter Try.func12, Try.ntmps12
    go_wp2_with (go_at_call 27; refine (within_new _ _ _ _ _).mono ?_; rintro e w' ⟨rfl, rfl⟩)
    go_ret
    exact ⟨rfl, (Below.refl _ _).alloc (Nat.le_refl _) _⟩
/-- The mark byte of cells. -/
def markOfV (s : ByteArray) : Int × Bool := match decV s with
  | some [c] => if markS c.toNat = s then ((c.toNat : Int), true) else (0, false)
  | _ => (0, false)
theorem decV_parts (s : ByteArray) : (∃ c, decT s = ⟨#[c]⟩ ∧ decB s = true ∧ markOfV s = if markS c.toNat = s then ((c.toNat : Int), true) else (0, false)) ∨ (decB s = true ∧ (decT s).size ≠ 1 ∧ markOfV s = (0, false)) ∨ (decB s = false ∧ markOfV s = (0, false)) := by
  unfold decT decB markOfV
  match decV s with
  | none => exact .inr (.inr ⟨rfl, rfl⟩)
  | some [] => exact .inr (.inl ⟨rfl, by simp; decide, rfl⟩)
  | some [c] => exact .inl ⟨c, rfl, rfl, rfl⟩
  | some (a :: b :: r) => exact .inr (.inl ⟨rfl, by show (a :: b :: r).toArray.size ≠ 1; simp, rfl⟩)
set_option maxHeartbeats 2000000 in
theorem fmMarkOf_any (s : ByteArray) (h : s.size ≤ 1048576) (w : World) :
    Calls Try.prog 13 #[.string s] w fun e w' => e = .returned (.tuple #[.int .i64 (markOfV s).1, .bool (markOfV s).2]) ∧ Below w.heap.size w w' := by
  have hd := fun w => decodeClocked_any s h w
  have hd2 : ∀ w, Calls Try.prog 25 #[.string s] w fun e w' => e = .returned (.tuple #[.string (decT s), .bool (decB s)]) ∧ Below w.heap.size w w' := hd
  clear hd
  rcases decV_parts s with ⟨c, h1, h2, h3⟩ | ⟨h1, h2, h3⟩ | ⟨h1, h3⟩
  · rw [h1, h2] at hd2
    rw [h3]
    have hc := c.toNat_lt
    have hm : ∀ w, Calls Try.prog 12 #[.int .i64 (c.toNat : Int)] w fun e w' => e = .returned (.string (markS c.toNat)) ∧ Below w.heap.size w w' := fun w => by
      have := fmMark_any (c.toNat : Int) w
      rw [fmMark_in (by rw [inB_iff]; omega)] at this
      exact this
    have HD := Lib.hid hd2; have HM := Lib.hid hm; clear hd2 hm h1 h2 h3
    have hs1 : (⟨#[c]⟩ : ByteArray).size = 1 := rfl
    have hg : (⟨#[c]⟩ : ByteArray)[0]'(by rw [hs1]; omega) = c := rfl
    by_cases he : markS c.toNat = s
    · rw [if_pos he]
      obtain ⟨m, hmm⟩ : ∃ m, markS c.toNat = m := ⟨_, rfl⟩
      rw [hmm] at HM he
      subst he
      clear hmm
      go_enter Try.func13, Try.ntmps13
      go_wp2_with (first
        | (go_at_call 25; refine (HD.out _).mono ?_; rintro e w1 ⟨rfl, hb1⟩)
        | (go_at_call 12; refine (HM.out _).mono ?_; rintro e w2 ⟨rfl, hb2⟩))
      go_ret2
      exact ⟨rfl, hb1.trans (hb2.mono hb1.size)⟩
    · rw [if_neg he]
      obtain ⟨m, hmm⟩ : ∃ m, markS c.toNat = m := ⟨_, rfl⟩
      rw [hmm] at HM he
      clear hmm
      have hne := toList_ne he
      clear he
      go_enter Try.func13, Try.ntmps13
      go_wp2_with (first
        | (go_at_call 25; refine (HD.out _).mono ?_; rintro e w1 ⟨rfl, hb1⟩)
        | (go_at_call 12; refine (HM.out _).mono ?_; rintro e w2 ⟨rfl, hb2⟩))
      go_ret2
      exact ⟨rfl, hb1.trans (hb2.mono hb1.size)⟩
  · rw [h1] at hd2
    rw [h3]
    generalize decT s = d at *
    have hn : ((d.size : Int) != 1) = true := by rw [bne_iff_ne]; omega
    have HD := Lib.hid hd2; clear hd2 h1 h2 h3
    go_enter Try.func13, Try.ntmps13
    go_wp2_with (go_at_call 25; refine (HD.out _).mono ?_; rintro e w1 ⟨rfl, hb1⟩)
    go_ret2
    exact ⟨rfl, hb1⟩
  · rw [h1] at hd2
    rw [h3]
    have HD := Lib.hid hd2; clear hd2 h1 h3
    go_enter Try.func13, Try.ntmps13
    go_wp2_with (go_at_call 25; refine (HD.out _).mono ?_; rintro e w1 ⟨rfl, hb1⟩)
    go_ret2
    exact ⟨rfl, hb1⟩
end Go.Proofs.Ytkdhhkoablmbbab
