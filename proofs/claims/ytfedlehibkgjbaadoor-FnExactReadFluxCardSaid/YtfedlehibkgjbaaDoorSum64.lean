/- (impl.times).sum -/
import Derived.Test.YtfedlehibkgjbaaDoorSlices
namespace Go.Proofs.YtfedlehibkgjbaaDoor
open Go.RowKit
set_option linter.unusedVariables false
theorem sum_snoc {zs : List Int} {k : Nat} {x : Int} (h : zs[k]? = some x) : (zs.take (k + 1)).sum = (zs.take k).sum + x := by
  rw [List.take_add_one, h]; simp
theorem bd_of_all {zs : List Int} {lo hi : Int} (h : zs.all (inB lo hi) = true) {k : Nat} {x : Int} (hx : zs[k]? = some x) : lo ≤ x ∧ x ≤ hi := by
  rw [List.all_eq_true] at h
  exact inB_iff.1 (h x (List.mem_of_getElem? hx))
theorem sum_bd {zs : List Int} (h : zs.all (inB 1 2000000) = true) (k : Nat) : 0 ≤ (zs.take k).sum ∧ (zs.take k).sum ≤ 2000000 * (k : Int) := by
  induction k with
  | zero => simp
  | succ k ih =>
    by_cases hk : k < zs.length
    · obtain ⟨x, hx⟩ := getOf hk
      have := bd_of_all h hx
      rw [sum_snoc hx]; omega
    · rw [List.take_of_length_le (by omega), ← List.take_of_length_le (i := k) (by omega : zs.length ≤ k)]
      omega
set_option maxHeartbeats 400000 in
theorem sum_any (a : Option Addr) (zs : List Int) (c : Nat) (w : World) (hl : zs.length ≤ 1048576) (hz : zs.all (inB 1 2000000) = true) (h : SlA w a zs) :
    Calls Tryd.prog 38 #[.slice a zs.length c] w fun e w' => e = .returned (.int .i64 zs.sum) ∧ w = w' := by
  have HZ := Lib.hid hz; clear hz
  go_enter Tryd.func38, Tryd.ntmps38
  go_wp2
  go_loop [3, 8] (fun s i => ∃ k : Nat, k ≤ zs.length ∧ i = .int .i64 k ∧ ∃ m : Int, s = .int .i64 m ∧ 0 ≤ m ∧ m ≤ 2000000 * (k : Int) ∧ Hid (m = (zs.take k).sum)) (fun _ i => zs.length - (intOf i).toNat)
  case atStart => exact ⟨0, Nat.zero_le _, rfl, 0, rfl, by omega, by omega, by unfold Hid; simp⟩
  case round =>
    obtain ⟨k, hk, rfl, m, rfl, hm0, hm1, hs⟩ := hrel
    by_cases hlt : k < zs.length
    · obtain ⟨x, hx⟩ := getOf hlt
      obtain ⟨b, off, rfl, hc⟩ := h.cell hx
      obtain ⟨hx0, hx1⟩ := bd_of_all HZ.out hx
      have HX := Lib.hid hx; clear hx
      go_wp2
      go_round
      case rel => exact ⟨k + 1, by omega, by go_num, m + x, rfl, by omega, by omega, by unfold Hid; rw [sum_snoc HX.out, hs.out]⟩
      case measure => simp [intOf]; omega
    · go_wp2
      go_ret
      obtain rfl : k = zs.length := by omega
      exact ⟨ret_int (by rw [hs.out, List.take_length]), rfl⟩
end Go.Proofs.YtfedlehibkgjbaaDoor
