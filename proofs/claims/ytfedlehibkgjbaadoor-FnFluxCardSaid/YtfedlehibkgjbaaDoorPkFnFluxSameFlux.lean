/- slices.Equal at []int64, spec.l00Same, impl.SameFlux, spec.SameFlux -/
import Derived.Test.YtfedlehibkgjbaaDoorPkFnFluxLawFlux
import Derived.Test.YtfedlehibkgjbaaDoorPkFnFluxA
namespace Go.Proofs.YtfedlehibkgjbaaDoor
open Go.RowKit
set_option linter.unusedVariables false
set_option maxHeartbeats 400000 in
theorem l00Same_any (a b : Option Addr) (xs ys : List Int) (c d : Nat) (w : World) (hx : xs.length ≤ 4194304) (hy : ys.length ≤ 4194304) (h1 : SlA w a xs) (h2 : SlA w b ys) :
    Calls Tryd.prog 40 #[.slice a xs.length c, .slice b ys.length d] w fun e w' => e = .returned (.bool (xs == ys)) ∧ Below w.heap.size w w' := by
  by_cases hl : xs.length = ys.length
  · have hne : ((xs.length : Int) != ys.length) = false := by simp; omega
    have HL := Lib.hid hl; clear hl
    go_enter Tryd.func40, Tryd.ntmps40
    go_wp2
    go_loopw [5] (fun i wr => ∃ k : Nat, k ≤ xs.length ∧ i = .int .i64 k ∧ Hid (xs.take k = ys.take k) ∧ Below w.heap.size w wr) (fun i _ => xs.length - (intOf i).toNat)
    case atStart => exact ⟨0, Nat.zero_le _, rfl, by unfold Hid; rfl, Below.refl _ _⟩
    case round =>
      obtain ⟨k, hk, rfl, hT, hb⟩ := hrel
      have h1' := h1.below hb (Nat.le_refl _)
      have h2' := h2.below hb (Nat.le_refl _)
      by_cases hlt : k < xs.length
      · have hly : k < ys.length := by have := HL.out; omega
        obtain ⟨x, hxk⟩ := getOf hlt
        obtain ⟨y, hyk⟩ := getOf hly
        obtain ⟨bx, ox, rfl, hcx⟩ := h1'.cell hxk
        obtain ⟨b2, o2, rfl, hcy⟩ := h2'.cell hyk
        have HX := Lib.hid hxk; have HY := Lib.hid hyk; clear hxk hyk
        have e1 : (k : Int) < xs.length := by omega
        have e2 : (k : Int) < ys.length := by omega
        have H1 := Lib.hid (And.intro h1 h1'); have H2 := Lib.hid (And.intro h2 h2'); clear h1 h1' h2 h2'
        by_cases he : x = y
        · subst he
          go_wp2
          go_quiet (fail)
          go_wp2
          go_roundw
          case rel => exact ⟨k + 1, by omega, by go_num, by unfold Hid; rw [List.take_add_one, List.take_add_one, HX.out, HY.out, hT.out], below_drewN hb _⟩
          case measure => simp [intOf]; omega
        · have hb1 : (x != y) = true := by simp [he]
          have hb2 : (x == y) = false := by simp [he]
          go_wp2
          go_quiet (fail)
          go_wp2
          go_ret
          refine ⟨ret_bool ?_, below_drewN hb _⟩
          symm
          rw [beq_eq_false_iff_ne]
          intro e
          apply he
          have h3 := HX.out
          rw [e, HY.out] at h3
          exact (Option.some.inj h3).symm
      · go_wp2
        go_ret
        refine ⟨ret_bool ?_, hb⟩
        obtain rfl : k = xs.length := by omega
        rw [eq_of_take HL.out hT.out]; simp
  · have hne : ((xs.length : Int) != ys.length) = true := by simp; omega
    have hq : (xs == ys) = false := by
      rw [beq_eq_false_iff_ne]; intro e; exact hl (by rw [e])
    have HQ := Lib.hid hq; clear hq
    go_enter Tryd.func40, Tryd.ntmps40
    go_wp2
    go_ret
    exact ⟨ret_bool HQ.out.symm, Below.refl _ _⟩
set_option maxHeartbeats 400000 in
theorem specSameFlux_any (c1 f1 : Int) (a : Option Addr) (xs : List Int) (c : Nat) (c2 f2 : Int) (b : Option Addr) (ys : List Int) (d : Nat) (w : World) (hx : xs.length ≤ 4194304) (hy : ys.length ≤ 4194304) (h1 : SlA w a xs) (h2 : SlA w b ys) :
    Calls Tryd.prog 20 #[.agg #[.int .i64 c1, .int .i64 f1, .slice a xs.length c], .agg #[.int .i64 c2, .int .i64 f2, .slice b ys.length d]] w fun e w' => e = .returned (.bool (fluxEq c1 f1 xs c2 f2 ys)) ∧ Below w.heap.size w w' := by
  have hc := fun w' (hb : Below w.heap.size w w') => l00Same_any a b xs ys c d w' hx hy (h1.below hb (Nat.le_refl _)) (h2.below hb (Nat.le_refl _))
  have HC := Lib.hid hc; clear hc h1 h2
  by_cases hcc : c1 = c2
  · have e1 : (c1 == c2) = true := by simp [hcc]
    by_cases hff : f1 = f2
    · have e3 : (f1 == f2) = true := by simp [hff]
      have HE := Lib.hid (show fluxEq c1 f1 xs c2 f2 ys = (xs == ys) by unfold fluxEq; rw [e1, e3]; simp)
      clear hcc hff
      obtain ⟨q, hq⟩ : ∃ q, (xs == ys) = q := ⟨_, rfl⟩
      rw [hq] at HE HC
      clear hq
      cases q
      all_goals
        go_enter Tryd.func20, Tryd.ntmps20
        go_wp2_with (go_at_call 40; refine (HC.out _ (by go_grown)).mono ?_; rintro e w1 ⟨rfl, hb⟩)
        go_ret
        exact ⟨ret_bool HE.out.symm, Below.trans (by go_grown) (hb.mono (by simp; omega))⟩
    · have e3 : (f1 == f2) = false := by simp [hff]
      have HE := Lib.hid (show fluxEq c1 f1 xs c2 f2 ys = false by unfold fluxEq; simp [hff])
      clear hcc hff HC
      go_enter Tryd.func20, Tryd.ntmps20
      go_wp2
      go_ret
      exact ⟨ret_bool HE.out.symm, by go_grown⟩
  · have e1 : (c1 == c2) = false := by simp [hcc]
    have HE := Lib.hid (show fluxEq c1 f1 xs c2 f2 ys = false by unfold fluxEq; simp [hcc])
    clear hcc HC
    go_enter Tryd.func20, Tryd.ntmps20
    go_wp2
    go_ret
    exact ⟨ret_bool HE.out.symm, by go_grown⟩
end Go.Proofs.YtfedlehibkgjbaaDoor
