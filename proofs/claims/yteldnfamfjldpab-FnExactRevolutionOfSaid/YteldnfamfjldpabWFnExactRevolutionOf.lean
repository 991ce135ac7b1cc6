import Derived.Test.YteldnfamfjldpabLawFlux
import Derived.Test.YteldnfamfjldpabRevolutionOf
import Derived.Test.YteldnfamfjldpabOpenFlux
namespace Go.Proofs.Yteldnfamfjldpab.fnExactRevolutionOf
open Go.RowKit
set_option linter.unusedVariables false
theorem fluxEq_refl (c f : Int) (xs : List Int) : fluxEq c f xs c f xs = true := by unfold fluxEq; simp
set_option maxHeartbeats 1000000 in
theorem walk (c0 f0 : Int) (s0 : Option Addr) (xs0 : List Int) (cap0 : Nat) (w : World) (w0 : FluxArg w s0 xs0) :
    Calls Try.prog 11 #[.agg #[.int .i64 c0, .int .i64 f0, .slice s0 xs0.length cap0]] w fun e w' => e = .returned (.bool true) ∧ Below w.heap.size w w' := by
  obtain ⟨hm, hsl⟩ := w0
  by_cases hl : 1048576 < xs0.length
  · have hc := fun w' => szFlux_no c0 f0 s0 xs0.length cap0 1048576 w' (by omega) hm hl
    have HC := Lib.hid hc; clear hc
    go_enter Try.func11, Try.ntmps11
    go_wp2_with (go_at_call 25; refine (HC.out _).mono ?_; rintro e w1 ⟨rfl, hb⟩)
    go_ret
    exact ⟨rfl, Below.trans (by go_grown) (hb.mono (by simp))⟩
  · have hn : xs0.length ≤ 1048576 := by omega
    have c1 := fun w' => szFlux_yes c0 f0 s0 xs0.length cap0 1048576 w' (by omega) hn
    have hr : (0 : Int) ≤ ((1048576 - xs0.length : Nat) : Int) := by omega
    obtain ⟨r, hr'⟩ : ∃ r, 1048576 - xs0.length = r := ⟨_, rfl⟩
    rw [hr'] at c1 hr
    clear hr'
    have c2 := fun w' (hb : Below w.heap.size w w') => toFlux_any c0 f0 s0 xs0 cap0 w' hn (hsl.below hb (Nat.le_refl _))
    have c3 := fun w' a d (h : SlA w' a xs0) => specRevolutionOf_any c0 f0 a xs0 d w' hn h
    have c4 := fun w' a d (h : SlA w' a xs0) => revolutionOf_any c0 f0 a xs0 d w' hn h
    have c5 := fun w' a b c d (h1 : SlA w' a xs0) (h2 : SlA w' b xs0) => eqFlux_any c0 f0 a xs0 c c0 f0 b xs0 d w' (by omega) (by omega) h1 h2
    rw [fluxEq_refl] at c5
    obtain ⟨q, hq⟩ : ∃ q, revOf c0 f0 xs0 = q := ⟨_, rfl⟩
    rw [hq] at c3 c4
    clear hq
    have C1 := Lib.hid c1; have C2 := Lib.hid c2; have C3 := Lib.hid c3; have C4 := Lib.hid c4; have C5 := Lib.hid c5; clear c1 c2 c3 c4 c5
    all_goals
      go_enter Try.func11, Try.ntmps11
      go_wp2_with fail
      refine (C1.out _).mono ?_
      rintro e w1 ⟨rfl, hb1⟩
      have hb1' : Below w.heap.size w w1 := Below.trans (by go_grown) (hb1.mono (by simp))
      have F1 := Lib.hid ((FluxAt.new w c0 f0 s0 xs0.length cap0 34 w.heap.size rfl).below hb1 (by simp))
      have hs1 := F1.out.lt
      obtain ⟨x0, x1, x2⟩ := F1.out
      go_wp2_with fail
      refine (C2.out _ hb1').mono ?_
      rintro e w2 ⟨g, rfl, hrow, hg, hb2⟩
      clear x0 x1 x2
      have F2 := Lib.hid (F1.out.below hb2 hs1)
      have hb2' := hb1'.trans (hb2.mono hb1'.size)
      go_wp2_with fail
      refine (C3.out _ _ _ hrow.sl).mono ?_
      rintro e w3 ⟨rfl, hb3⟩
      have hs2 := F2.out.lt
      have F3 := Lib.hid (F2.out.below hb3 hs2)
      have hs3 := F3.out.lt
      have hb3' := hb2'.trans (hb3.mono hb2'.size)
      obtain ⟨x0, x1, x2⟩ := F3.out
      go_wp2_with fail
      refine (C2.out _ hb3').mono ?_
      rintro e w4 ⟨g4, rfl, hrow4, hg4, hb4⟩
      clear x0 x1 x2 hrow hg
      have F4 := Lib.hid (F3.out.below hb4 hs3)
      have hb4' := hb3'.trans (hb4.mono hb3'.size)
      have hs4 := F4.out.lt
      have hg4' := hrow4.lt
      go_wp2_with fail
      have hW5 : Below w4.heap.size w4 (w4.alloc (.cells #[.int .i64 c0, .int .i64 f0, .slice (some ⟨g4, 0, none⟩) xs0.length xs0.length] 37)) := by go_grown
      refine (C4.out _ _ _ (hrow4.below hW5 hg4').sl).mono ?_
      rintro e w6 ⟨rfl, hb6⟩
      have hb46 : Below w4.heap.size w4 w6 := hW5.trans (hb6.mono (by simp))
      have X6 := Lib.hid ((FluxAt.new w4 c0 f0 (some ⟨g4, 0, none⟩) xs0.length xs0.length 37 w4.heap.size rfl).below hb6 (by simp))
      have F6 := Lib.hid (F4.out.below hb46 hs4)
      have R6 := Lib.hid (hrow4.below hb46 hg4')
      have hs6 := F6.out.lt
      have hx6 := X6.out.lt
      have hr6 := R6.out.lt
      have hb6' := hb4'.trans (hb46.mono hb4'.size)
      have hb6d : Below w.heap.size w w6.drew := hb6'.drew
      clear hb1 hb2 hb3 hb4 hb6 hb46 hW5 hb1' hb2' hb3' hb4' hs1 hs2 hs3 hrow4 hg4 F1 F2 F3 F4
      obtain ⟨y0, y1, y2⟩ := X6.out
      obtain ⟨z0, z1, z2⟩ := F6.out
      have X7 := Lib.hid X6.out.drew; have F7 := Lib.hid F6.out.drew; have R7 := Lib.hid R6.out.drew
      go_wp2_with fail
      go_region_held3 (fun w' => w'.cell? ⟨w4.heap.size, 0, none⟩ = some (.int .i64 c0) ∧ w'.cell? ⟨w4.heap.size, 1, none⟩ = some (.int .i64 f0) ∧ w'.cell? ⟨w4.heap.size, 2, none⟩ = some (.slice (some ⟨g4, 0, none⟩) xs0.length xs0.length) ∧ w'.cell? ⟨w.heap.size, 0, none⟩ = some (.int .i64 c0) ∧ w'.cell? ⟨w.heap.size, 1, none⟩ = some (.int .i64 f0) ∧ w'.cell? ⟨w.heap.size, 2, none⟩ = some (.slice s0 xs0.length cap0))
        (first
          | go_keep
          | (obtain ⟨y0, y1, y2⟩ := X7.out.below hb7 hx6; obtain ⟨z0, z1, z2⟩ := F7.out.below hb7 hs6; exact ⟨y0, y1, y2, z0, z1, z2⟩)
          | (obtain ⟨y0, y1, y2⟩ := (X7.out.below hb7 hx6).below hb8 (Nat.lt_of_lt_of_le hx6 hb7.size); obtain ⟨z0, z1, z2⟩ := (F7.out.below hb7 hs6).below hb8 (Nat.lt_of_lt_of_le hs6 hb7.size); exact ⟨y0, y1, y2, z0, z1, z2⟩))
        (first
          | (go_at_call 27; refine (C2.out _ hb6d).mono ?_; rintro e w7 ⟨g7, rfl, hrow7, hg7, hb7⟩)
          | (go_at_call 29; refine (C5.out _ _ _ _ _ (R7.out.below hb7 hr6).sl hrow7.sl).mono ?_; rintro e w8 ⟨rfl, hb8⟩))
      all_goals
        go_wp2
        go_ret
        exact ⟨rfl, (hb6d.trans (hb7.mono hb6d.size)).trans (hb8.mono (hb6d.trans (hb7.mono hb6d.size)).size)⟩
end Go.Proofs.Yteldnfamfjldpab.fnExactRevolutionOf
