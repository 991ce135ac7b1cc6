/- impl.ValidCells -/
import Derived.Test.YtfedlehibkgjbaaDoorWithin
import Derived.Laws.RangeAny
import Derived.Laws.RangeString
namespace Go.Proofs.YtfedlehibkgjbaaDoor
open Go.RowKit
set_option linter.unusedVariables false
def isCell (c : UInt8) : Bool := c == 48 || c == 49
def cellsL (l : List UInt8) : Bool := l.all isCell
/-- 1 to 8000 characters 0 and 1. -/
def validCells (s : ByteArray) : Bool := cellsL s.data.toList && inB 1 8000 s.size
theorem cellsL_snoc (s : ByteArray) (k : Nat) (h : k < s.size) : cellsL (s.data.toList.take (k + 1)) = (cellsL (s.data.toList.take k) && isCell s[k]) := by
  have e : s.data.toList.take (k + 1) = s.data.toList.take k ++ [s[k]] := by rw [List.take_succ_eq_append_getElem (by simpa using h)]; rfl
  rw [e]; simp [cellsL]
theorem cellsL_no (s : ByteArray) (k : Nat) (h : k < s.size) (hc : isCell s[k] = false) : cellsL s.data.toList = false := by
  unfold cellsL
  rw [List.all_eq_false]
  exact ⟨s[k], by show s.data[k] ∈ _; simp, by simp [hc]⟩
theorem take_ge' (s : ByteArray) (k : Nat) (h : s.size ≤ k) : s.data.toList.take k = s.data.toList := by
  refine List.take_of_length_le ?_
  have : s.data.toList.length = s.size := by simp
  omega
theorem isCell_iff (c : UInt8) : isCell c = true ↔ c.toNat = 48 ∨ c.toNat = 49 := by
  unfold isCell
  simp only [Bool.or_eq_true, beq_iff_eq, ← UInt8.toNat_inj]
  rfl
/-- The rune at a byte that is no cell is no cell. -/
theorem rune_no (s : ByteArray) (pos : Nat) (h : pos < s.size) (hc : isCell s[pos] = false) : (Utf8.decode s pos).1 ≠ 48 ∧ (Utf8.decode s pos).1 ≠ 49 := by
  have h1 : ¬ (s[pos].toNat = 48 ∨ s[pos].toNat = 49) := by rw [← isCell_iff]; simp [hc]
  by_cases ha : s[pos].toNat < 128
  · rw [decode_ascii s pos h ha]
    exact ⟨fun e => h1 (.inl e), fun e => h1 (.inr e)⟩
  · have := (decode_high s pos h (by omega)).1
    omega
set_option maxHeartbeats 400000 in
theorem validCells_any (s : ByteArray) (w : World) (hs : s.size ≤ maxLen) :
    Calls Tryd.prog 34 #[.string s] w fun e w' => e = .returned (.bool (validCells s)) ∧ Below w.heap.size w w' := by
  unfold maxLen at hs
  go_enter Tryd.func34, Tryd.ntmps34
  go_wp2
  go_loopw [4] (fun _ wr => ∃ pos, pos ≤ s.size ∧ wr = w.iter s pos ∧ Hid (cellsL (s.data.toList.take pos) = true)) (fun _ wr => s.size - wr.iterPos w.heap.size)
  case atStart => exact ⟨0, Nat.zero_le _, rfl, by unfold Hid; rfl⟩
  case round =>
    obtain ⟨pos, hk, rfl, ha⟩ := hrel
    by_cases hp : pos < s.size
    · have HS := Lib.hid (cellsL_snoc s pos hp)
      have hnx : ∀ ty, (Instr.next (.pointer (some ⟨w.heap.size, 0, none⟩)) true ty).run Tryd.prog (w.iter s pos) = _ := fun ty => run_next_any w s pos ty hp
      by_cases hc : isCell s[pos] = true
      · have hc2 := (isCell_iff _).1 hc
        have HC := Lib.hid hc; clear hc
        rw [decode_ascii s pos hp (by omega)] at hnx
        rcases hc2 with h48 | h49
        · rw [h48] at hnx
          go_wp2
          go_roundw
          case rel => exact ⟨pos + 1, by omega, rfl, by unfold Hid; rw [HS.out, ha.out, HC.out]; rfl⟩
          case measure => simp; omega
        · rw [h49] at hnx
          go_wp2
          go_roundw
          case rel => exact ⟨pos + 1, by omega, rfl, by unfold Hid; rw [HS.out, ha.out, HC.out]; rfl⟩
          case measure => simp; omega
      · have hc0 : isCell s[pos] = false := by simpa using hc
        have hr := rune_no s pos hp hc0
        have HN := Lib.hid (cellsL_no s pos hp hc0)
        clear hc hc0
        obtain ⟨h48, h49⟩ := hr
        have b48 : (((Utf8.decode s pos).1 : Int) != 48) = true := by simp; omega
        have b49 : (((Utf8.decode s pos).1 : Int) != 49) = true := by simp; omega
        clear h48 h49
        go_wp2
        go_ret
        refine ⟨ret_bool ?_, (Below.refl _ _).alloc (Nat.le_refl _) _⟩
        unfold validCells; rw [HN.out]; rfl
    · have hnx : ∀ ty, (Instr.next (.pointer (some ⟨w.heap.size, 0, none⟩)) true ty).run Tryd.prog (w.iter s pos) = _ := fun ty => run_next_end w s pos ty hp
      go_wp2_with (go_at_call 35; refine (within_at _ _ _ _ _ _ (by simp)).mono ?_; rintro e w' ⟨rfl, rfl⟩)
      go_ret
      refine ⟨ret_bool ?_, ((Below.refl _ _).alloc (Nat.le_refl _) _).alloc (by simp) _⟩
      have e := take_ge' s pos (by omega)
      unfold validCells; rw [← e, ha.out]; rfl
end Go.Proofs.YtfedlehibkgjbaaDoor
