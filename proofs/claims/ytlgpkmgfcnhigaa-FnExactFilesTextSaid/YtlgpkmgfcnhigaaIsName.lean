/- impl.IsName -/
import Derived.Test.YtlgpkmgfcnhigaaWithin
import Derived.Laws.RangeAny
import Derived.Laws.RangeString
namespace Go.Proofs.Ytlgpkmgfcnhigaa
open Go.RowKit
set_option linter.unusedVariables false
/-- May the byte c stand at place i of a name? -/
def okAt (i c : Nat) : Bool := (decide (65 ≤ c) && decide (c ≤ 90)) || (decide (0 < i) && (decide (c = 95) || (decide (48 ≤ c) && decide (c ≤ 57))))
def okTo (s : ByteArray) (k : Nat) : Bool := (List.range k).all fun j => okAt j (s[j]?.getD 0).toNat
def nameB (s : ByteArray) : Bool := okTo s s.size && inB 1 8 s.size
theorem okTo_succ (s : ByteArray) (k : Nat) (h : k < s.size) : okTo s (k + 1) = (okTo s k && okAt k s[k].toNat) := by
  have e : s[k]?.getD 0 = s[k] := by simp [h]
  simp [okTo, List.range_succ, e]
theorem okTo_no (s : ByteArray) (k : Nat) (h : k < s.size) (hc : okAt k s[k].toNat = false) : okTo s s.size = false := by
  have e : s[k]?.getD 0 = s[k] := by simp [h]
  unfold okTo
  rw [List.all_eq_false]
  exact ⟨k, by simp [h], by simp [h, hc]⟩
theorem okAt_high (i c : Nat) (h : 128 ≤ c) : okAt i c = false := by unfold okAt; simp; omega
set_option maxHeartbeats 1000000 in
theorem isName_any (s : ByteArray) (w : World) (hs : s.size ≤ maxLen) :
    Calls Try.prog 69 #[.string s] w fun e w' => e = .returned (.bool (nameB s)) ∧ Below w.heap.size w w' := by
  unfold maxLen at hs
  go_enter Try.func69, Try.ntmps69
  go_wp2
  go_loopw [3, 4, 11, 18] (fun _ _ _ _ wr => ∃ pos, pos ≤ s.size ∧ wr = w.iter s pos ∧ Hid (okTo s pos = true)) (fun _ _ _ _ wr => s.size - wr.iterPos w.heap.size)
  case atStart => exact ⟨0, Nat.zero_le _, rfl, by unfold Hid; rfl⟩
  case round =>
    obtain ⟨pos, hk, rfl, ha⟩ := hrel
    by_cases hp : pos < s.size
    · have HS := Lib.hid (okTo_succ s pos hp)
      have HN := Lib.hid (okTo_no s pos hp)
      have hnx : ∀ ty, (Instr.next (.pointer (some ⟨w.heap.size, 0, none⟩)) true ty).run Try.prog (w.iter s pos) = _ := fun ty => run_next_any w s pos ty hp
      have hno : okAt pos s[pos].toNat = false → nameB s = false := by intro h; unfold nameB; rw [HN.out h]; rfl
      by_cases hasc : s[pos].toNat < 128
      · rw [decode_ascii s pos hp hasc] at hnx
        obtain ⟨c, hc⟩ : ∃ c, s[pos].toNat = c := ⟨_, rfl⟩
        rw [hc] at hnx hasc hno
        have HC := Lib.hid hc; clear hc
        have HNO := Lib.hid hno; clear hno
        by_cases hA : 65 ≤ c ∧ c ≤ 90
        · obtain ⟨hA1, hA2⟩ := hA
          have ok := Lib.hid (show okAt pos c = true by unfold okAt; simp; omega)
          go_wp2
          go_roundw
          case rel => exact ⟨pos + 1, by omega, rfl, by unfold Hid; rw [HS.out, ha.out, HC.out, ok.out]; rfl⟩
          case measure => simp; omega
        · by_cases hz : pos = 0
          · have ok := Lib.hid (show okAt pos c = false by unfold okAt; simp; omega)
            have hz1 : ¬ 0 < pos := by omega
            have HZ := Lib.hid hz; clear hz
            by_cases hA1 : 65 ≤ c
            · have hA2 : ¬ c ≤ 90 := by omega
              clear hA
              go_wp2
              go_ret
              exact ⟨ret_bool (HNO.out ok.out).symm, (Below.refl _ _).alloc (Nat.le_refl _) _⟩
            · clear hA
              go_wp2
              go_ret
              exact ⟨ret_bool (HNO.out ok.out).symm, (Below.refl _ _).alloc (Nat.le_refl _) _⟩
          · have hz1 : 0 < pos := by omega
            by_cases hok : okAt pos c = true
            · have hc4 : c = 95 ∨ (48 ≤ c ∧ c ≤ 57) := by unfold okAt at hok; simp at hok; omega
              have OK := Lib.hid hok; clear hok hz hA
              rcases hc4 with h95 | ⟨h48, h57⟩
              · subst h95
                go_wp2
                go_roundw
                case rel => exact ⟨pos + 1, by omega, rfl, by unfold Hid; rw [HS.out, ha.out, HC.out, OK.out]; rfl⟩
                case measure => simp; omega
              · go_wp2
                go_roundw
                case rel => exact ⟨pos + 1, by omega, rfl, by unfold Hid; rw [HS.out, ha.out, HC.out, OK.out]; rfl⟩
                case measure => simp; omega
            · have hc4 : c < 48 ∨ (57 < c ∧ c < 65) ∨ (90 < c ∧ c < 95) ∨ 95 < c := by unfold okAt at hok; simp at hok; omega
              have OK := Lib.hid (show okAt pos c = false by simpa using hok); clear hok hz hA
              rcases hc4 with h | ⟨h, h'⟩ | ⟨h, h'⟩ | h
              all_goals
                have b95 : ((c : Int) == 95) = false := by simp; omega
                go_wp2
                go_ret
                exact ⟨ret_bool (HNO.out OK.out).symm, (Below.refl _ _).alloc (Nat.le_refl _) _⟩
      · have hh := (decode_high s pos hp (by omega)).1
        have OK := Lib.hid (hno (okAt_high _ _ (by omega))); clear hno
        have b95 : (((Utf8.decode s pos).1 : Int) == 95) = false := by simp; omega
        by_cases hz1 : 0 < pos
        all_goals
          go_wp2
          go_ret
          exact ⟨ret_bool OK.out.symm, (Below.refl _ _).alloc (Nat.le_refl _) _⟩
    · have hnx : ∀ ty, (Instr.next (.pointer (some ⟨w.heap.size, 0, none⟩)) true ty).run Try.prog (w.iter s pos) = _ := fun ty => run_next_end w s pos ty hp
      go_wp2_with (go_at_call 39; refine (within_at _ _ _ _ _ _ (by simp)).mono ?_; rintro e w' ⟨rfl, rfl⟩)
      go_ret
      refine ⟨ret_bool ?_, ((Below.refl _ _).alloc (Nat.le_refl _) _).alloc (by simp) _⟩
      obtain rfl : pos = s.size := by omega
      unfold nameB; rw [ha.out]; rfl
end Go.Proofs.Ytlgpkmgfcnhigaa
