/- FnField: the law's walk. -/
import Derived.Test.YtpgcmgbflcdjiaaGfIm
import Derived.Test.YtpgcmgbflcdjiaaData05
namespace Go.Proofs.Ytpgcmgbflcdjiaa.fnField
open Go.RowKit
open Gf
set_option linter.unusedVariables false
set_option maxRecDepth 20000
theorem below_go {w a b : World} (h : Below w.heap.size w a) (hb : Below a.heap.size a b) : Below w.heap.size w b := h.trans (hb.mono h.size)
theorem gmV_1 {a : Nat} (ha : a < 256) : gmV (a : Int) 1 = (a : Int) := by
  have := gmV_nat (b := 1) ha (by omega)
  rw [gmul_one ha] at this; exact this
theorem gmV_0 {a : Nat} (ha : a < 256) : gmV (a : Int) 0 = 0 := by
  have := gmV_nat (b := 0) ha (by omega)
  rw [gmul_zero] at this; exact this
theorem pwV_255 : pwV 255 = 1 := by
  have := pwV_nat 255
  rw [pw_255] at this; exact this
theorem pwV_sum (x y : Nat) : pwV ((x : Int) + (y : Int)) = pw (x + y) := by
  rw [← pwV_nat]; congr 1
theorem gmV_pw (x y : Nat) : gmV ((pw x : Nat) : Int) ((pw y : Nat) : Int) = ((pw (x + y) : Nat) : Int) := by
  rw [gmV_nat (pw_lt x) (pw_lt y), pw_add]
set_option maxHeartbeats 8000000 in
theorem walk (a0 : Option Addr) (len0 cap0 : Nat) (z0 : List Int) (w : World) (w0 : IsRow .u8 w a0 len0 cap0 z0) :
    Calls Try.prog 6 #[.slice a0 len0 cap0] w fun e w' => e = .returned (.bool true) ∧ Below w.heap.size w w' := by
  obtain ⟨hca, hcl⟩ := code_of w0
  have HL := Lib.hid (fun w => a2Long_any a0 none len0 0 cap0 0 w)
  obtain ⟨lo, hlo⟩ : ∃ b, (decide (3000 < len0) || decide (3000 < 0)) = b := ⟨_, rfl⟩
  rw [hlo] at HL
  cases lo with
  | true =>
    clear hlo
    go_enter Try.func6, Try.ntmps6
    go_wp2_with fail
    refine (HL.out _).mono ?_
    rintro e w' ⟨rfl, rfl⟩
    go_wp2
    go_ret
    exact ⟨rfl, Below.refl _ _⟩
  | false =>
    have hl : len0 ≤ 3000 := by simp at hlo; omega
    have B0 := Lib.hid (a2Byte_any a0 len0 cap0 0 256 w (by omega) (by omega) (by omega) (by omega) hca)
    have B1 := Lib.hid (a2Byte_any a0 len0 cap0 1 256 w (by omega) (by omega) (by omega) (by omega) hca)
    have B2 := Lib.hid (a2Byte_any a0 len0 cap0 2 256 w (by omega) (by omega) (by omega) (by omega) hca)
    clear hlo hca hcl w0 hl
    go_enter Try.func6, Try.ntmps6
    go_wp2_with fail
    refine (HL.out _).mono ?_
    rintro e w' ⟨rfl, rfl⟩
    clear HL
    go_wp2_with fail
    refine B0.out.mono ?_
    rintro e w' ⟨x, rfl, hx, rfl⟩
    go_wp2_with fail
    refine B1.out.mono ?_
    rintro e w' ⟨y, rfl, hy, rfl⟩
    go_wp2_with fail
    refine B2.out.mono ?_
    rintro e w' ⟨z, rfl, hz, rfl⟩
    clear B0 B1 B2
    have F1 := Lib.hid (gmV_nat hx hy)
    have F2 := Lib.hid (show gmV (y : Int) (x : Int) = ((gmul x y : Nat) : Int) by rw [gmV_nat hy hx, gmul_comm hy hx])
    have F3 := Lib.hid (gmV_nat (gmul_lt (b := y) hx) hz)
    have F4 := Lib.hid (gmV_nat hy hz)
    have F5 := Lib.hid (show gmV (x : Int) ((gmul y z : Nat) : Int) = ((gmul (gmul x y) z : Nat) : Int) by rw [gmV_nat hx (gmul_lt hy), gmul_assoc hx hy])
    have F6 := Lib.hid (gf_xor y z (by omega) (by omega))
    have F7 := Lib.hid (gmV_nat hx (xlt hy hz))
    have F8 := Lib.hid (gmV_nat hx hz)
    have F9 := Lib.hid (show bits .xor .i64 ((gmul x y : Nat) : Int) ((gmul x z : Nat) : Int) = ((gmul x (y ^^^ z) : Nat) : Int) by
      rw [gf_xor _ _ (by have := gmul_lt (b := y) hx; omega) (by have := gmul_lt (b := z) hx; omega), gmul_add])
    have FA := Lib.hid (gmV_1 hx)
    have FB0 := Lib.hid (gmV_0 hx)
    have FI := Lib.hid (giV_nat hx)
    have FJ := Lib.hid (gmV_nat hx (ginv_lt hx))
    have FK := Lib.hid (fun h0 : x ≠ 0 => gmul_inv hx h0)
    have FP := Lib.hid (pwV_sum x y)
    have FX := Lib.hid (pwV_nat x)
    have FY := Lib.hid (pwV_nat y)
    have FM := Lib.hid (gmV_pw x y)
    have FQ := Lib.hid pwV_255
    have FZ := Lib.hid (show x % 255 = 0 ∨ pw x ≠ 1 by
      by_cases h : x % 255 = 0
      · exact .inl h
      · right; rw [← pw_mod]; exact pw_ne_one (by omega) (by omega))
    have L1 := gmul_lt (b := y) hx
    have L3 := gmul_lt (b := z) L1
    have L4 := gmul_lt (b := z) hy
    have L6 := xlt hy hz
    have L7 := gmul_lt (b := y ^^^ z) hx
    have L8 := gmul_lt (b := z) hx
    have LI := ginv_lt hx
    have LJ := gmul_lt (b := ginv x) hx
    have LP := pw_lt (x + y)
    have LX := pw_lt x
    have LY := pw_lt y
    generalize pw (x + y) = pxy at *
    generalize pw x = px at *
    generalize pw y = py at *
    generalize gmul (gmul x y) z = xyz at *
    generalize gmul x y = xy at *
    generalize gmul y z = yz at *
    generalize gmul x (y ^^^ z) = xs at *
    generalize y ^^^ z = ys at *
    generalize gmul x z = xz at *
    generalize gmul x (ginv x) = x1 at *
    generalize ginv x = xi at *
    have BL := Lib.hid (Below.refl w.heap.size w)
    go_wp2_with fail
    refine (gfMul_any _ _ _).mono ?_
    rintro e w1 ⟨rfl, hb⟩
    rw [F1.out]
    replace BL := Lib.hid (below_go BL.out hb)
    clear hb
    go_wp2_with fail
    refine (gfMul_any _ _ _).mono ?_
    rintro e w2 ⟨rfl, hb⟩
    rw [F2.out]
    replace BL := Lib.hid (below_go BL.out hb)
    clear hb
    go_wp2_with fail
    refine (gfMul_any _ _ _).mono ?_
    rintro e w3 ⟨rfl, hb⟩
    rw [F3.out]
    replace BL := Lib.hid (below_go BL.out hb)
    clear hb
    go_wp2_with fail
    refine (gfMul_any _ _ _).mono ?_
    rintro e w4 ⟨rfl, hb⟩
    rw [F4.out]
    replace BL := Lib.hid (below_go BL.out hb)
    clear hb
    go_wp2_with fail
    refine (gfMul_any _ _ _).mono ?_
    rintro e w5 ⟨rfl, hb⟩
    rw [F5.out]
    replace BL := Lib.hid (below_go BL.out hb)
    clear hb
    have h6 := F6.out
    have h9 := F9.out
    go_wp2_with fail
    refine (gfMul_any _ _ _).mono ?_
    rintro e w6 ⟨rfl, hb⟩
    rw [F7.out]
    replace BL := Lib.hid (below_go BL.out hb)
    clear hb
    go_wp2_with fail
    refine (gfMul_any _ _ _).mono ?_
    rintro e w7 ⟨rfl, hb⟩
    rw [F8.out]
    replace BL := Lib.hid (below_go BL.out hb)
    clear hb
    go_wp2_with fail
    refine (gfMul_any _ _ _).mono ?_
    rintro e w8 ⟨rfl, hb⟩
    rw [FA.out]
    replace BL := Lib.hid (below_go BL.out hb)
    clear hb
    go_wp2_with fail
    refine (gfMul_any _ _ _).mono ?_
    rintro e w9 ⟨rfl, hb⟩
    rw [FB0.out]
    replace BL := Lib.hid (below_go BL.out hb)
    clear hb
    by_cases h0 : x = 0
    · have h0b : ((x : Int) != 0) = false := by rw [bne_eq_false_iff_eq]; omega
      clear h0
      go_wp2_with fail
      refine (gfPow_any _ _).mono ?_
      rintro e wq ⟨rfl, rfl⟩
      rw [FP.out]
      go_wp2_with fail
      refine (gfPow_any _ _).mono ?_
      rintro e wq ⟨rfl, rfl⟩
      rw [FX.out]
      go_wp2_with fail
      refine (gfPow_any _ _).mono ?_
      rintro e wq ⟨rfl, rfl⟩
      rw [FY.out]
      go_wp2_with fail
      refine (gfMul_any _ _ _).mono ?_
      rintro e w21 ⟨rfl, hb⟩
      rw [FM.out]
      replace BL := Lib.hid (below_go BL.out hb)
      clear hb
      go_wp2_with fail
      refine (gfPow_any _ _).mono ?_
      rintro e wq ⟨rfl, rfl⟩
      rw [FQ.out]
      have ht : (x : Int).tmod 255 = ((x % 255 : Nat) : Int) := by rw [Int.tmod_eq_emod_of_nonneg (by omega)]; omega
      by_cases h5 : x % 255 = 0
      · rw [h5] at ht
        clear h5
        go_wp2
        go_ret
        exact ⟨rfl, BL.out⟩
      · have hn1 := FZ.out.resolve_left h5
        have hr : ((x % 255 : Nat) : Int) ≠ 0 := by omega
        obtain ⟨rr, hrr⟩ : ∃ rr : Nat, x % 255 = rr := ⟨_, rfl⟩
        rw [hrr] at ht hr
        have hr2 : ((rr : Int) == 0) = false := by rw [beq_eq_false_iff_ne]; exact hr
        have hp2 : ((px : Int) != 1) = true := by rw [bne_iff_ne]; omega
        clear h5 hr hrr hn1
        go_wp2_with fail
        refine (gfPow_any _ _).mono ?_
        rintro e wq ⟨rfl, rfl⟩
        rw [FX.out]
        go_wp2
        go_ret
        exact ⟨rfl, BL.out⟩
    · have h0b : ((x : Int) != 0) = true := by rw [bne_iff_ne]; omega
      have hk := FK.out h0
      clear h0
      subst hk
      go_wp2_with fail
      refine (gfInverse_any _ _).mono ?_
      rintro e wi ⟨rfl, hb⟩
      rw [FI.out]
      replace BL := Lib.hid (below_go BL.out hb)
      clear hb
      go_wp2_with fail
      refine (gfMul_any _ _ _).mono ?_
      rintro e w20 ⟨rfl, hb⟩
      rw [FJ.out]
      replace BL := Lib.hid (below_go BL.out hb)
      clear hb
      go_wp2_with fail
      refine (gfPow_any _ _).mono ?_
      rintro e wq ⟨rfl, rfl⟩
      rw [FP.out]
      go_wp2_with fail
      refine (gfPow_any _ _).mono ?_
      rintro e wq ⟨rfl, rfl⟩
      rw [FX.out]
      go_wp2_with fail
      refine (gfPow_any _ _).mono ?_
      rintro e wq ⟨rfl, rfl⟩
      rw [FY.out]
      go_wp2_with fail
      refine (gfMul_any _ _ _).mono ?_
      rintro e w21 ⟨rfl, hb⟩
      rw [FM.out]
      replace BL := Lib.hid (below_go BL.out hb)
      clear hb
      go_wp2_with fail
      refine (gfPow_any _ _).mono ?_
      rintro e wq ⟨rfl, rfl⟩
      rw [FQ.out]
      have ht : (x : Int).tmod 255 = ((x % 255 : Nat) : Int) := by rw [Int.tmod_eq_emod_of_nonneg (by omega)]; omega
      by_cases h5 : x % 255 = 0
      · rw [h5] at ht
        clear h5
        go_wp2
        go_ret
        exact ⟨rfl, BL.out⟩
      · have hn1 := FZ.out.resolve_left h5
        have hr : ((x % 255 : Nat) : Int) ≠ 0 := by omega
        obtain ⟨rr, hrr⟩ : ∃ rr : Nat, x % 255 = rr := ⟨_, rfl⟩
        rw [hrr] at ht hr
        have hr2 : ((rr : Int) == 0) = false := by rw [beq_eq_false_iff_ne]; exact hr
        have hp2 : ((px : Int) != 1) = true := by rw [bne_iff_ne]; omega
        clear h5 hr hrr hn1
        go_wp2_with fail
        refine (gfPow_any _ _).mono ?_
        rintro e wq ⟨rfl, rfl⟩
        rw [FX.out]
        go_wp2
        go_ret
        exact ⟨rfl, BL.out⟩
end Go.Proofs.Ytpgcmgbflcdjiaa.fnField
