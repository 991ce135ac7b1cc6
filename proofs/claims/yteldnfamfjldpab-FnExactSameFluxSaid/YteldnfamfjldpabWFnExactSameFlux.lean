import Derived.Test.YteldnfamfjldpabSameFlux
import Derived.Test.YteldnfamfjldpabOpenFlux
namespace Go.Proofs.Yteldnfamfjldpab.fnExactSameFlux
open Go.RowKit
set_option linter.unusedVariables false
theorem fluxEq_refl (c f : Int) (xs : List Int) : fluxEq c f xs c f xs = true := by unfold fluxEq; simp
set_option maxHeartbeats 4000000 in
theorem walk (c0 f0 : Int) (s0 : Option Addr) (xs0 : List Int) (cap0 : Nat) (c1 f1 : Int) (s1 : Option Addr) (xs1 : List Int) (cap1 : Nat) (w : World) (w0 : FluxArg w s0 xs0) (w1 : FluxArg w s1 xs1) :
    Calls Try.prog 9 #[.agg #[.int .i64 c0, .int .i64 f0, .slice s0 xs0.length cap0], .agg #[.int .i64 c1, .int .i64 f1, .slice s1 xs1.length cap1]] w fun e w' => e = .returned (.bool true) ∧ Below w.heap.size w w' := by
  obtain ⟨hm0, hsl0⟩ := w0
  obtain ⟨hm1, hsl1⟩ := w1
  by_cases hl : 1048576 < xs0.length
  · have hc := fun w' => szFlux_no c0 f0 s0 xs0.length cap0 1048576 w' (by omega) hm0 hl
    have HC := Lib.hid hc; clear hc
    go_enter Try.func9, Try.ntmps9
    go_wp2_with fail
    refine (HC.out _).mono ?_
    rintro e w1 ⟨rfl, hb⟩
    go_wp2
    go_ret
    exact ⟨rfl, Below.trans (by go_grown) (hb.mono (by simp; omega))⟩
  · have hn0 : xs0.length ≤ 1048576 := by omega
    have k1 := fun w' => szFlux_yes c0 f0 s0 xs0.length cap0 1048576 w' (by omega) hn0
    have hr0 : (0 : Int) ≤ ((1048576 - xs0.length : Nat) : Int) := by omega
    by_cases hl1 : 1048576 - xs0.length < xs1.length
    · have k2 := fun w' => szFlux_no c1 f1 s1 xs1.length cap1 (1048576 - xs0.length) w' (by omega) hm1 hl1
      obtain ⟨r, hr⟩ : ∃ r, 1048576 - xs0.length = r := ⟨_, rfl⟩
      rw [hr] at k1 k2 hr0
      clear hr hl1
      have K1 := Lib.hid k1; have K2 := Lib.hid k2; clear k1 k2
      go_enter Try.func9, Try.ntmps9
      go_wp2_with fail
      refine (K1.out _).mono ?_
      rintro e w1 ⟨rfl, hb⟩
      have hb' : Below w.heap.size w w1 := Below.trans (by go_grown) (hb.mono (by simp; omega))
      obtain ⟨x0, x1, x2⟩ := (FluxAt.new (w.alloc (.cells #[.int .i64 c0, .int .i64 f0, .slice s0 xs0.length cap0] 34)) c1 f1 s1 xs1.length cap1 34 (w.heap.size + 1) (by simp)).below hb (by simp)
      go_wp2_with fail
      refine (K2.out _).mono ?_
      rintro e w2 ⟨rfl, hb2⟩
      go_wp2
      go_ret
      exact ⟨rfl, hb'.trans (hb2.mono hb'.size)⟩
    · have hn1 : xs1.length ≤ 1048576 - xs0.length := by omega
      have k2 := fun w' => szFlux_yes c1 f1 s1 xs1.length cap1 (1048576 - xs0.length) w' (by omega) hn1
      have hr1 : (0 : Int) ≤ ((1048576 - xs0.length - xs1.length : Nat) : Int) := by omega
      have hn1' : xs1.length ≤ 1048576 := by omega
      obtain ⟨r, hr⟩ : ∃ r, 1048576 - xs0.length = r := ⟨_, rfl⟩
      rw [hr] at k1 k2 hr0 hr1
      obtain ⟨r2, hr2⟩ : ∃ r2, r - xs1.length = r2 := ⟨_, rfl⟩
      rw [hr2] at k2 hr1
      clear hr hl1 hr2 hn1
      have ta := fun w' (hb : Below w.heap.size w w') => toFlux_any c0 f0 s0 xs0 cap0 w' hn0 (hsl0.below hb (Nat.le_refl _))
      have tb := fun w' (hb : Below w.heap.size w w') => toFlux_any c1 f1 s1 xs1 cap1 w' hn1' (hsl1.below hb (Nat.le_refl _))
      have es := fun w' a b c d (h1 : SlA w' a xs0) (h2 : SlA w' b xs1) => specSameFlux_any c0 f0 a xs0 c c1 f1 b xs1 d w' (by omega) (by omega) h1 h2
      have ei := fun w' a b c d (h1 : SlA w' a xs0) (h2 : SlA w' b xs1) => sameFlux_any c0 f0 a xs0 c c1 f1 b xs1 d w' (by omega) (by omega) h1 h2
      have ea := fun w' a b c d (h1 : SlA w' a xs0) (h2 : SlA w' b xs0) => eqFlux_any c0 f0 a xs0 c c0 f0 b xs0 d w' (by omega) (by omega) h1 h2
      have eb := fun w' a b c d (h1 : SlA w' a xs1) (h2 : SlA w' b xs1) => eqFlux_any c1 f1 a xs1 c c1 f1 b xs1 d w' (by omega) (by omega) h1 h2
      rw [fluxEq_refl] at ea eb
      obtain ⟨q, hq⟩ : ∃ q, fluxEq c0 f0 xs0 c1 f1 xs1 = q := ⟨_, rfl⟩
      rw [hq] at es ei
      clear hq
      have K1 := Lib.hid k1; have K2 := Lib.hid k2; have TA := Lib.hid ta; have TB := Lib.hid tb; have ES := Lib.hid es; have EI := Lib.hid ei; have EA := Lib.hid ea; have EB := Lib.hid eb
      clear k1 k2 ta tb es ei ea eb
      go_enter Try.func9, Try.ntmps9
      go_wp2_with fail
      refine (K1.out _).mono ?_
      rintro e w1 ⟨rfl, hb⟩
      have hb1' : Below w.heap.size w w1 := Below.trans (by go_grown) (hb.mono (by simp; omega))
      have B1 := Lib.hid ((FluxAt.new (w.alloc (.cells #[.int .i64 c0, .int .i64 f0, .slice s0 xs0.length cap0] 34)) c1 f1 s1 xs1.length cap1 34 (w.heap.size + 1) (by simp)).below hb (by simp))
      have A1 := Lib.hid (((FluxAt.new w c0 f0 s0 xs0.length cap0 34 w.heap.size rfl).below (w' := (w.alloc (.cells #[.int .i64 c0, .int .i64 f0, .slice s0 xs0.length cap0] 34)).alloc (.cells #[.int .i64 c1, .int .i64 f1, .slice s1 xs1.length cap1] 34)) (B := w.heap.size + 1) ((Below.refl _ _).alloc (by simp) _) (by omega)).below hb (by simp; omega))
      obtain ⟨x0, x1, x2⟩ := B1.out
      go_wp2_with fail
      refine (K2.out _).mono ?_
      rintro e w2 ⟨rfl, hb2⟩
      clear x0 x1 x2
      have hb2' := hb1'.trans (hb2.mono hb1'.size)
      have A2 := Lib.hid (A1.out.below hb2 A1.out.lt).drew
      have B2 := Lib.hid (B1.out.below hb2 B1.out.lt).drew
      have hbd : Below w.heap.size w w2.drew := hb2'.drew
      clear hb hb1' hb2 hb2' A1 B1
      obtain ⟨y0, y1, y2⟩ : FluxAt w2 w.heap.size c0 f0 s0 xs0.length cap0 := A2.out
      obtain ⟨z0, z1, z2⟩ : FluxAt w2 (w.heap.size + 1) c1 f1 s1 xs1.length cap1 := B2.out
      have hA2 := A2.out.lt
      have hB2 := B2.out.lt
      go_wp2_with fail
      go_region_held3 (fun w' => w'.cell? ⟨w.heap.size, 0, none⟩ = some (.int .i64 c0) ∧ w'.cell? ⟨w.heap.size, 1, none⟩ = some (.int .i64 f0) ∧ w'.cell? ⟨w.heap.size, 2, none⟩ = some (.slice s0 xs0.length cap0) ∧ w'.cell? ⟨w.heap.size + 1, 0, none⟩ = some (.int .i64 c1) ∧ w'.cell? ⟨w.heap.size + 1, 1, none⟩ = some (.int .i64 f1) ∧ w'.cell? ⟨w.heap.size + 1, 2, none⟩ = some (.slice s1 xs1.length cap1))
        (first
          | go_keep
          | (obtain ⟨y0, y1, y2⟩ := A2.out.below hb7 hA2; obtain ⟨z0, z1, z2⟩ := B2.out.below hb7 hB2; exact ⟨y0, y1, y2, z0, z1, z2⟩)
          | (obtain ⟨y0, y1, y2⟩ := A2.out.below hb8 hA2; obtain ⟨z0, z1, z2⟩ := B2.out.below hb8 hB2; exact ⟨y0, y1, y2, z0, z1, z2⟩)
          | (obtain ⟨y0, y1, y2⟩ := (A2.out.below hb7 hA2).below hb8 (Nat.lt_of_lt_of_le hA2 hb7.size); obtain ⟨z0, z1, z2⟩ := (B2.out.below hb7 hB2).below hb8 (Nat.lt_of_lt_of_le hB2 hb7.size); exact ⟨y0, y1, y2, z0, z1, z2⟩)
          | (obtain ⟨y0, y1, y2⟩ := (A2.out.below hb8 hA2).below hb7 (Nat.lt_of_lt_of_le hA2 hb8.size); obtain ⟨z0, z1, z2⟩ := (B2.out.below hb8 hB2).below hb7 (Nat.lt_of_lt_of_le hB2 hb8.size); exact ⟨y0, y1, y2, z0, z1, z2⟩)
          | (obtain ⟨y0, y1, y2⟩ := (A2.out.below (hb7.trans (hb8.mono hb7.size)) hA2).below hb9 (Nat.lt_of_lt_of_le hA2 (hb7.trans (hb8.mono hb7.size)).size); obtain ⟨z0, z1, z2⟩ := (B2.out.below (hb7.trans (hb8.mono hb7.size)) hB2).below hb9 (Nat.lt_of_lt_of_le hB2 (hb7.trans (hb8.mono hb7.size)).size); exact ⟨y0, y1, y2, z0, z1, z2⟩)
          | (obtain ⟨y0, y1, y2⟩ := (A2.out.below (hb8.trans (hb7.mono hb8.size)) hA2).below hb9 (Nat.lt_of_lt_of_le hA2 (hb8.trans (hb7.mono hb8.size)).size); obtain ⟨z0, z1, z2⟩ := (B2.out.below (hb8.trans (hb7.mono hb8.size)) hB2).below hb9 (Nat.lt_of_lt_of_le hB2 (hb8.trans (hb7.mono hb8.size)).size); exact ⟨y0, y1, y2, z0, z1, z2⟩))
        (first
          | (go_at_call 27; first | ((with_reducible refine (TA.out _ hbd).mono ?_); rintro e w7 ⟨g7, rfl, hrow7, hg7, hb7⟩) | ((with_reducible refine (TB.out _ hbd).mono ?_); rintro e w8 ⟨g8, rfl, hrow8, hg8, hb8⟩) | ((with_reducible refine (TB.out _ (hbd.trans (hb7.mono hbd.size))).mono ?_); rintro e w8 ⟨g8, rfl, hrow8, hg8, hb8⟩) | ((with_reducible refine (TA.out _ (hbd.trans (hb8.mono hbd.size))).mono ?_); rintro e w7 ⟨g7, rfl, hrow7, hg7, hb7⟩))
          | (go_at_call 30; first | ((with_reducible refine (ES.out _ _ _ _ _ (hrow7.below hb8 hrow7.lt).sl hrow8.sl).mono ?_); rintro e w9 ⟨rfl, hb9⟩) | ((with_reducible refine (ES.out _ _ _ _ _ hrow7.sl (hrow8.below hb7 hrow8.lt).sl).mono ?_); rintro e w9 ⟨rfl, hb9⟩)))
      clear y0 y1 y2 z0 z1 z2
      have hb78 := hb7.trans (hb8.mono hb7.size)
      have hb79 := hb78.trans (hb9.mono hb78.size)
      have A9 := Lib.hid (A2.out.below hb79 hA2)
      have B9 := Lib.hid (B2.out.below hb79 hB2)
      have hbw9 := hbd.trans (hb79.mono hbd.size)
      clear hb7 hb8 hb9 hb78 hb79 hrow7 hrow8 hg7 hg8 A2 B2 hA2 hB2 hbd
      obtain ⟨y0, y1, y2⟩ := A9.out
      go_wp2_with fail
      refine (TA.out _ hbw9).mono ?_
      rintro e w10 ⟨g10, rfl, hrow10, hg10, hb10⟩
      clear y0 y1 y2
      have hW10 : Below w10.heap.size w10 (w10.alloc (.cells #[.int .i64 c0, .int .i64 f0, .slice (some ⟨g10, 0, none⟩) xs0.length xs0.length] 37)) := by go_grown
      have A10 := Lib.hid ((A9.out.below hb10 A9.out.lt).below hW10 (Nat.lt_of_lt_of_le A9.out.lt hb10.size))
      have B10 := Lib.hid ((B9.out.below hb10 B9.out.lt).below hW10 (Nat.lt_of_lt_of_le B9.out.lt hb10.size))
      have R10 := Lib.hid (hrow10.below hW10 hrow10.lt)
      have X10 := Lib.hid (FluxAt.new w10 c0 f0 (some ⟨g10, 0, none⟩) xs0.length xs0.length 37 w10.heap.size rfl)
      have hbw10 := (hbw9.trans (hb10.mono hbw9.size)).trans (hW10.mono (hbw9.trans (hb10.mono hbw9.size)).size)
      obtain ⟨z0, z1, z2⟩ := B10.out
      go_wp2_with fail
      refine (TB.out _ hbw10).mono ?_
      rintro e w11 ⟨g11, rfl, hrow11, hg11, hb11⟩
      clear z0 z1 z2
      have hW11 : Below w11.heap.size w11 (w11.alloc (.cells #[.int .i64 c1, .int .i64 f1, .slice (some ⟨g11, 0, none⟩) xs1.length xs1.length] 37)) := by go_grown
      have hb11W := hb11.trans (hW11.mono hb11.size)
      have A11 := Lib.hid (A10.out.below hb11W A10.out.lt)
      have B11 := Lib.hid (B10.out.below hb11W B10.out.lt)
      have X11 := Lib.hid (X10.out.below hb11W X10.out.lt)
      have R11 := Lib.hid (R10.out.below hb11W R10.out.lt)
      have S11 := Lib.hid (hrow11.below hW11 hrow11.lt)
      have Y11 := Lib.hid (FluxAt.new w11 c1 f1 (some ⟨g11, 0, none⟩) xs1.length xs1.length 37 w11.heap.size rfl)
      have hbw11 := hbw10.trans (hb11W.mono hbw10.size)
      clear hb10 hb11 hW10 hW11 hb11W hrow10 hrow11 hg10 hg11 A9 B9 A10 B10 X10 R10 hbw9 hbw10
      obtain ⟨x0, x1, x2⟩ := X11.out
      obtain ⟨y0, y1, y2⟩ := Y11.out
      go_wp2_with fail
      refine (EI.out _ _ _ _ _ R11.out.sl S11.out.sl).mono ?_
      rintro e w12 ⟨rfl, hb12⟩
      clear x0 x1 x2 y0 y1 y2
      have A12 := Lib.hid (A11.out.below hb12 A11.out.lt)
      have B12 := Lib.hid (B11.out.below hb12 B11.out.lt)
      have X12 := Lib.hid (X11.out.below hb12 X11.out.lt)
      have Y12 := Lib.hid (Y11.out.below hb12 Y11.out.lt)
      have R12 := Lib.hid (R11.out.below hb12 R11.out.lt)
      have S12 := Lib.hid (S11.out.below hb12 S11.out.lt)
      have hbw12 : Below w.heap.size w w12.drew := (hbw11.trans (hb12.mono hbw11.size)).drew
      clear hb12 hbw11 A11 B11 X11 Y11 R11 S11
      have A13 := Lib.hid A12.out.drew; have B13 := Lib.hid B12.out.drew; have X13 := Lib.hid X12.out.drew; have Y13 := Lib.hid Y12.out.drew; have R13 := Lib.hid R12.out.drew; have S13 := Lib.hid S12.out.drew
      have hA := A13.out.lt; have hB := B13.out.lt; have hX := X13.out.lt; have hY := Y13.out.lt; have hR := R13.out.lt; have hS := S13.out.lt
      obtain ⟨x0, x1, x2⟩ := X12.out
      obtain ⟨z0, z1, z2⟩ := A12.out
      go_wp2_with fail
      go_region_held3 (fun w' => w'.cell? ⟨w10.heap.size, 0, none⟩ = some (.int .i64 c0) ∧ w'.cell? ⟨w10.heap.size, 1, none⟩ = some (.int .i64 f0) ∧ w'.cell? ⟨w10.heap.size, 2, none⟩ = some (.slice (some ⟨g10, 0, none⟩) xs0.length xs0.length) ∧ w'.cell? ⟨w.heap.size, 0, none⟩ = some (.int .i64 c0) ∧ w'.cell? ⟨w.heap.size, 1, none⟩ = some (.int .i64 f0) ∧ w'.cell? ⟨w.heap.size, 2, none⟩ = some (.slice s0 xs0.length cap0))
        (first
          | go_keep
          | (obtain ⟨y0, y1, y2⟩ := X13.out.below hb7 hX; obtain ⟨z0, z1, z2⟩ := A13.out.below hb7 hA; exact ⟨y0, y1, y2, z0, z1, z2⟩)
          | (obtain ⟨y0, y1, y2⟩ := (X13.out.below hb7 hX).below hb8 (Nat.lt_of_lt_of_le hX hb7.size); obtain ⟨z0, z1, z2⟩ := (A13.out.below hb7 hA).below hb8 (Nat.lt_of_lt_of_le hA hb7.size); exact ⟨y0, y1, y2, z0, z1, z2⟩))
        (first
          | (go_at_call 27; refine (TA.out _ hbw12).mono ?_; rintro e w7 ⟨g7, rfl, hrow7, hg7, hb7⟩)
          | (go_at_call 29; refine (EA.out _ _ _ _ _ (R13.out.below hb7 hR).sl hrow7.sl).mono ?_; rintro e w8 ⟨rfl, hb8⟩))
      clear x0 x1 x2 z0 z1 z2
      have hb78 := hb7.trans (hb8.mono hb7.size)
      have B14 := Lib.hid (B13.out.below hb78 hB)
      have Y14 := Lib.hid (Y13.out.below hb78 hY)
      have S14 := Lib.hid (S13.out.below hb78 hS)
      have hbw14 : Below w.heap.size w w8.drew := (hbw12.trans (hb78.mono hbw12.size)).drew
      clear hb7 hb8 hb78 hrow7 hg7 hbw12 hA hB hX hY hR hS A12 B12 X12 Y12 R12 S12 A13 B13 X13 Y13 R13 S13
      have B15 := Lib.hid B14.out.drew; have Y15 := Lib.hid Y14.out.drew; have S15 := Lib.hid S14.out.drew
      have hB := B15.out.lt; have hY := Y15.out.lt; have hS := S15.out.lt
      obtain ⟨x0, x1, x2⟩ := Y14.out
      obtain ⟨z0, z1, z2⟩ := B14.out
      go_wp2_with fail
      go_region_held3 (fun w' => w'.cell? ⟨w11.heap.size, 0, none⟩ = some (.int .i64 c1) ∧ w'.cell? ⟨w11.heap.size, 1, none⟩ = some (.int .i64 f1) ∧ w'.cell? ⟨w11.heap.size, 2, none⟩ = some (.slice (some ⟨g11, 0, none⟩) xs1.length xs1.length) ∧ w'.cell? ⟨w.heap.size + 1, 0, none⟩ = some (.int .i64 c1) ∧ w'.cell? ⟨w.heap.size + 1, 1, none⟩ = some (.int .i64 f1) ∧ w'.cell? ⟨w.heap.size + 1, 2, none⟩ = some (.slice s1 xs1.length cap1))
        (first
          | go_keep
          | (obtain ⟨y0, y1, y2⟩ := Y15.out.below hb17 hY; obtain ⟨z0, z1, z2⟩ := B15.out.below hb17 hB; exact ⟨y0, y1, y2, z0, z1, z2⟩)
          | (obtain ⟨y0, y1, y2⟩ := (Y15.out.below hb17 hY).below hb18 (Nat.lt_of_lt_of_le hY hb17.size); obtain ⟨z0, z1, z2⟩ := (B15.out.below hb17 hB).below hb18 (Nat.lt_of_lt_of_le hB hb17.size); exact ⟨y0, y1, y2, z0, z1, z2⟩))
        (first
          | (go_at_call 27; refine (TB.out _ hbw14).mono ?_; rintro e w17 ⟨g17, rfl, hrow17, hg17, hb17⟩)
          | (go_at_call 29; refine (EB.out _ _ _ _ _ (S15.out.below hb17 hS).sl hrow17.sl).mono ?_; rintro e w18 ⟨rfl, hb18⟩))
      go_wp2
      go_ret
      exact ⟨rfl, (hbw14.trans (hb17.mono hbw14.size)).trans (hb18.mono (hbw14.trans (hb17.mono hbw14.size)).size)⟩
end Go.Proofs.Yteldnfamfjldpab.fnExactSameFlux
