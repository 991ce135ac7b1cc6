/- impl.isNote -/
import Derived.Test.YtipepnphdiflcaaWithin
import Derived.Laws.RangeAny
import Derived.Laws.RangeString
namespace Go.Proofs.Ytipepnphdiflcaa
open Go.RowKit
set_option linter.unusedVariables false
def isPr (c : UInt8) : Bool := decide (32 ≤ c.toNat) && decide (c.toNat ≤ 126)
def prL (l : List UInt8) : Bool := l.all isPr
/-- 1 to 40 characters from 32 to 126. -/
def noteB (s : ByteArray) : Bool := prL s.data.toList && inB 1 40 s.size
theorem prL_snoc (s : ByteArray) (k : Nat) (h : k < s.size) : prL (s.data.toList.take (k + 1)) = (prL (s.data.toList.take k) && isPr s[k]) := by
  have e : s.data.toList.take (k + 1) = s.data.toList.take k ++ [s[k]] := by rw [List.take_succ_eq_append_getElem (by simpa using h)]; rfl
  rw [e]; simp [prL]
theorem prL_no (s : ByteArray) (k : Nat) (h : k < s.size) (hc : isPr s[k] = false) : prL s.data.toList = false := by
  unfold prL
  rw [List.all_eq_false]
  exact ⟨s[k], by show s.data[k] ∈ _; simp, by simp [hc]⟩
theorem take_all (s : ByteArray) (k : Nat) (h : s.size ≤ k) : s.data.toList.take k = s.data.toList := by
  refine List.take_of_length_le ?_
  have : s.data.toList.length = s.size := by simp
  omega
theorem isPr_iff (c : UInt8) : isPr c = true ↔ 32 ≤ c.toNat ∧ c.toNat ≤ 126 := by
  unfold isPr
  simp only [Bool.and_eq_true, decide_eq_true_eq]
/-- The rune at a byte that is none of them is none of them. -/
theorem rune_noPr (s : ByteArray) (pos : Nat) (h : pos < s.size) (hc : isPr s[pos] = false) : (Utf8.decode s pos).1 < 32 ∨ 126 < (Utf8.decode s pos).1 := by
  have h1 : ¬ (32 ≤ s[pos].toNat ∧ s[pos].toNat ≤ 126) := by rw [← isPr_iff]; simp [hc]
  by_cases ha : s[pos].toNat < 128
  · rw [decode_ascii s pos h ha]
    show s[pos].toNat < 32 ∨ 126 < s[pos].toNat
    omega
  · have := (decode_high s pos h (by omega)).1
    omega
set_option maxHeartbeats 400000 in
theorem isNote_any (s : ByteArray) (w : World) (hs : s.size ≤ maxLen) :
    Calls Try.prog 108 #[.string s] w fun e w' => e = .returned (.bool (noteB s)) ∧ Below w.heap.size w w' := by
  unfold maxLen at hs
  go_enter Try.func108, Try.ntmps108
  go_wp2
  go_loopw [2] (fun _ wr => ∃ pos, pos ≤ s.size ∧ wr = w.iter s pos ∧ Hid (prL (s.data.toList.take pos) = true)) (fun _ wr => s.size - wr.iterPos w.heap.size)
  case atStart => exact ⟨0, Nat.zero_le _, rfl, by unfold Hid; rfl⟩
  case round =>
    obtain ⟨pos, hk, rfl, ha⟩ := hrel
    by_cases hp : pos < s.size
    · have HS := Lib.hid (prL_snoc s pos hp)
      have hnx : ∀ ty, (Instr.next (.pointer (some ⟨w.heap.size, 0, none⟩)) true ty).run Try.prog (w.iter s pos) = _ := fun ty => run_next_any w s pos ty hp
      by_cases hc : isPr s[pos] = true
      · obtain ⟨h32, h126⟩ := (isPr_iff _).1 hc
        have HC := Lib.hid hc; clear hc
        rw [decode_ascii s pos hp (by omega)] at hnx
        obtain ⟨c, hcc⟩ : ∃ c, s[pos].toNat = c := ⟨_, rfl⟩
        rw [hcc] at hnx h32 h126
        clear hcc
        have x1 : ¬ ((c : Int) < 32) := by omega
        have x2 : ¬ (126 < (c : Int)) := by omega
        go_wp2
        go_roundw
        case rel => exact ⟨pos + 1, by omega, rfl, by unfold Hid; rw [HS.out, ha.out, HC.out]; rfl⟩
        case measure => simp; omega
      · have hc0 : isPr s[pos] = false := by simpa using hc
        have hr := rune_noPr s pos hp hc0
        have HN := Lib.hid (prL_no s pos hp hc0)
        clear hc hc0
        rcases hr with h1 | h1
        · have x1 : ((Utf8.decode s pos).1 : Int) < 32 := by omega
          clear h1
          go_wp2
          go_ret
          refine ⟨ret_bool ?_, (Below.refl _ _).alloc (Nat.le_refl _) _⟩
          unfold noteB; rw [HN.out]; rfl
        · have x1 : ¬ ((Utf8.decode s pos).1 : Int) < 32 := by omega
          have x2 : 126 < ((Utf8.decode s pos).1 : Int) := by omega
          clear h1
          go_wp2
          go_ret
          refine ⟨ret_bool ?_, (Below.refl _ _).alloc (Nat.le_refl _) _⟩
          unfold noteB; rw [HN.out]; rfl
    · have hnx : ∀ ty, (Instr.next (.pointer (some ⟨w.heap.size, 0, none⟩)) true ty).run Try.prog (w.iter s pos) = _ := fun ty => run_next_end w s pos ty hp
      go_wp2_with (go_at_call 75; refine (within_at _ _ _ _ _ _ (by simp)).mono ?_; rintro e w' ⟨rfl, rfl⟩)
      go_ret
      refine ⟨ret_bool ?_, ((Below.refl _ _).alloc (Nat.le_refl _) _).alloc (by simp) _⟩
      have e := take_all s pos (by omega)
      unfold noteB; rw [← e, ha.out]; rfl
end Go.Proofs.Ytipepnphdiflcaa
