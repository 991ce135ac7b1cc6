/- impl.LongestOnes, spec.LongestOnes, spec.l00Max -/
import Derived.Test.YtffefhgemmjkoaaDoorCellStr
namespace Go.Proofs.YtffefhgemmjkoaaDoor
open Go.RowKit
set_option maxRecDepth 20000
set_option linter.unusedVariables false
/-- The cells 1 ahead of place k. -/
def onesR (s : ByteArray) : Nat → Int
  | 0 => 0
  | k + 1 => if (s[k]?.getD 0).toNat = 49 then onesR s k + 1 else 0
def onesL (s : ByteArray) : Nat → Int
  | 0 => 0
  | k + 1 => max (onesL s k) (onesR s (k + 1))
theorem onesR_bd (s : ByteArray) (k : Nat) : 0 ≤ onesR s k ∧ onesR s k ≤ k := by
  induction k with
  | zero => simp [onesR]
  | succ k ih => unfold onesR; split <;> omega
theorem onesL_bd (s : ByteArray) (k : Nat) : 0 ≤ onesL s k ∧ onesL s k ≤ k := by
  induction k with
  | zero => simp [onesL]
  | succ k ih => have := onesR_bd s (k + 1); unfold onesL; omega
theorem getD_at (s : ByteArray) (k : Nat) (h : k < s.size) : s[k]?.getD 0 = s[k] := by simp [h]
theorem onesR_yes (s : ByteArray) (k : Nat) (hk : k < s.size) (h : s[k].toNat = 49) : onesR s (k + 1) = onesR s k + 1 := by
  show (if (s[k]?.getD 0).toNat = 49 then _ else _) = _
  rw [getD_at s k hk, if_pos h]
theorem onesR_no (s : ByteArray) (k : Nat) (hk : k < s.size) (h : s[k].toNat = 48) : onesR s (k + 1) = 0 := by
  show (if (s[k]?.getD 0).toNat = 49 then _ else _) = _
  rw [getD_at s k hk, if_neg (by omega)]
theorem onesL_succ (s : ByteArray) (k : Nat) : onesL s (k + 1) = max (onesL s k) (onesR s (k + 1)) := rfl
def onesV (s : ByteArray) : Int := if cellStr s = true then onesL s s.size else 0
set_option maxHeartbeats 1000000 in
theorem longestOnes_any (s : ByteArray) (h : s.size ≤ 1048576) (w : World) :
    Calls Tryd.prog 24 #[.string s] w fun e w' => e = .returned (.int .i64 (onesV s)) ∧ Below w.heap.size w w' := by
  have hv := fun w => isCellString_any s w (by unfold maxLen; omega)
  by_cases hc : cellStr s = true
  · have hE : onesV s = onesL s s.size := by unfold onesV; rw [if_pos hc]
    have hs8 := cellStr_size hc
    rw [hE]
    have HCELL := Lib.hid (fun k hk => cellStr_cell hc k hk)
    rw [hc] at hv
    have HV := Lib.hid hv; clear hv hE hc
    go_enter Tryd.func24, Tryd.ntmps24
    go_wp2_with (go_at_call 59; refine (HV.out _).mono ?_; rintro e w1 ⟨rfl, hb1⟩)
    go_loopw [3, 4, 6] (fun t c _ wr => ∃ pos, pos ≤ s.size ∧ wr = w1.iter s pos ∧ c = .int .i64 (onesR s pos) ∧ t = .int .i64 (onesL s pos)) (fun _ _ _ wr => s.size - wr.iterPos w1.heap.size)
    case atStart => exact ⟨0, Nat.zero_le _, rfl, rfl, rfl⟩
    case round =>
      obtain ⟨pos, hk, rfl, rfl, rfl⟩ := hrel
      by_cases hp : pos < s.size
      · have hnx : ∀ ty, (Instr.next (.pointer (some ⟨w1.heap.size, 0, none⟩)) true ty).run Tryd.prog (w1.iter s pos) = _ := fun ty => run_next_any w1 s pos ty hp
        have hc2 := HCELL.out pos hp
        rw [decode_ascii s pos hp (by omega)] at hnx
        have hL := Lib.hid (onesL_succ s pos)
        have hb1 := onesR_bd s pos
        have hb2 := onesL_bd s pos
        have hb3 := onesR_bd s (pos + 1)
        rcases hc2 with h48 | h49
        · have hR := Lib.hid (onesR_no s pos hp h48)
          rw [h48] at hnx
          clear h48
          generalize onesL s pos = L at *
          generalize onesR s pos = R at *
          go_wp2
          all_goals
            go_roundw
            case rel => exact ⟨pos + 1, by omega, rfl, by rw [hR.out], by rw [hL.out, hR.out]; go_num⟩
            case measure => simp; omega
        · have hR := Lib.hid (onesR_yes s pos hp h49)
          rw [h49] at hnx
          clear h49
          generalize onesL s pos = L at *
          generalize onesR s pos = R at *
          go_wp2
          all_goals
            go_roundw
            case rel => exact ⟨pos + 1, by omega, rfl, by rw [hR.out], by rw [hL.out, hR.out]; go_num⟩
            case measure => simp; omega
      · have hnx : ∀ ty, (Instr.next (.pointer (some ⟨w1.heap.size, 0, none⟩)) true ty).run Tryd.prog (w1.iter s pos) = _ := fun ty => run_next_end w1 s pos ty hp
        go_wp2
        go_ret
        obtain rfl : pos = s.size := by omega
        exact ⟨rfl, hb1.trans (((Below.refl w1.heap.size w1).alloc (Nat.le_refl _) _).mono hb1.size)⟩
  · have hc0 : cellStr s = false := by simpa using hc
    have hE : onesV s = 0 := by unfold onesV; rw [if_neg hc]
    rw [hc0] at hv
    rw [hE]
    have HV := Lib.hid hv; clear hv hE hc hc0
    go_enter Tryd.func24, Tryd.ntmps24
    go_wp2_with (go_at_call 59; refine (HV.out _).mono ?_; rintro e w1 ⟨rfl, hb1⟩)
    go_ret
    exact ⟨rfl, hb1⟩
end Go.Proofs.YtffefhgemmjkoaaDoor
