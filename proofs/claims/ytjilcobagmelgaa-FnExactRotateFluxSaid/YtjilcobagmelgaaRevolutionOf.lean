/- impl.RevolutionOf, spec.l02Revolution, spec.RevolutionOf -/
import Derived.Test.YtjilcobagmelgaaSpecOk
namespace Go.Proofs.Ytjilcobagmelgaa
open Go.RowKit
set_option linter.unusedVariables false
def revOf (c f : Int) (zs : List Int) : Int := if fluxOk c f zs = true then zs.sum else -1
set_option maxHeartbeats 400000 in
theorem revolutionOf_any (c f : Int) (a : Option Addr) (zs : List Int) (d : Nat) (w : World) (hl : zs.length ≤ 1048576) (h : SlA w a zs) :
    Calls Try.prog 19 #[.agg #[.int .i64 c, .int .i64 f, .slice a zs.length d]] w fun e w' => e = .returned (.int .i64 (revOf c f zs)) ∧ Below w.heap.size w w' := by
  have c1 := fun w' (hb : Below w.heap.size w w') => validFlux_any c f a zs d w' hl (h.below hb (Nat.le_refl _))
  by_cases hv : fluxOk c f zs = true
  · have HE := Lib.hid (show revOf c f zs = zs.sum by unfold revOf; rw [if_pos hv])
    have hall := (fluxOk_iff.1 hv).2.2.1
    have c2 := fun w' (hb : Below w.heap.size w w') => sum_any a zs d w' hl hall (h.below hb (Nat.le_refl _))
    rw [hv] at c1
    obtain ⟨s, hs⟩ : ∃ s, zs.sum = s := ⟨_, rfl⟩
    rw [hs] at HE c2
    clear hs
    have C1 := Lib.hid c1; have C2 := Lib.hid c2; clear c1 c2 hall hv h
    go_enter Try.func19, Try.ntmps19
    go_wp2_with fail
    refine (C1.out _ (by go_grown)).mono ?_
    rintro e w1 ⟨rfl, hb1⟩
    obtain ⟨x0, x1, x2⟩ := (FluxAt.new w c f a zs.length d 26 w.heap.size rfl).below hb1 (by simp)
    have hb1' : Below w.heap.size w w1 := Below.trans (by go_grown) (hb1.mono (by simp))
    go_wp2_with fail
    refine (C2.out _ hb1').mono ?_
    rintro e w2 ⟨rfl, rfl⟩
    go_wp2
    go_ret
    exact ⟨ret_int HE.out.symm, hb1'⟩
  · have HE := Lib.hid (show revOf c f zs = -1 by unfold revOf; rw [if_neg hv])
    have hv0 : fluxOk c f zs = false := by simpa using hv
    rw [hv0] at c1
    have C1 := Lib.hid c1; clear c1 hv hv0 h
    go_enter Try.func19, Try.ntmps19
    go_wp2_with fail
    refine (C1.out _ (by go_grown)).mono ?_
    rintro e w1 ⟨rfl, hb1⟩
    go_wp2
    go_ret
    exact ⟨ret_int HE.out.symm, Below.trans (by go_grown) (hb1.mono (by simp))⟩
set_option maxHeartbeats 400000 in
theorem l02Revolution_any (p : Nat) (c f : Int) (a : Option Addr) (zs : List Int) (d : Nat) (w : World) (hl : zs.length ≤ 1048576) (hz : zs.all (inB 1 2000000) = true) (hf : FluxAt w p c f a zs.length d) (h : SlA w a zs) :
    Calls Try.prog 13 #[.pointer (some ⟨p, 0, none⟩)] w fun e w' => e = .returned (.int .i64 zs.sum) ∧ w = w' := by
  obtain ⟨_, _, hc2⟩ := hf
  have HZ := Lib.hid hz; clear hz
  go_enter Try.func13, Try.ntmps13
  go_wp2
  go_loop [3, 4] (fun s i => ∃ k : Nat, k ≤ zs.length ∧ i = .int .i64 k ∧ ∃ m : Int, s = .int .i64 m ∧ 0 ≤ m ∧ m ≤ 2000000 * (k : Int) ∧ Hid (m = (zs.take k).sum)) (fun _ i => zs.length - (intOf i).toNat)
  case atStart => exact ⟨0, Nat.zero_le _, rfl, 0, rfl, by omega, by omega, by unfold Hid; simp⟩
  case round =>
    obtain ⟨k, hk, rfl, m, rfl, hm0, hm1, hs⟩ := hrel
    by_cases hlt : k < zs.length
    · obtain ⟨x, hx⟩ := getOf hlt
      obtain ⟨b, off, rfl, hc⟩ := h.cell hx
      obtain ⟨hx0, hx1⟩ := bd_of_all HZ.out hx
      have HX := Lib.hid hx; clear hx
      go_wp2
      go_round
      case rel => exact ⟨k + 1, by omega, by go_num, m + x, rfl, by omega, by omega, by unfold Hid; rw [sum_snoc HX.out, hs.out]⟩
      case measure => simp [intOf]; omega
    · go_wp2
      go_ret
      obtain rfl : k = zs.length := by omega
      exact ⟨ret_int (by rw [hs.out, List.take_length]), rfl⟩
end Go.Proofs.Ytjilcobagmelgaa
