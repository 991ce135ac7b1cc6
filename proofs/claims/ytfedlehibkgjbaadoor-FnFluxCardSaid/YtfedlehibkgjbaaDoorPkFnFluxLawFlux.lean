/- laws.szFlux, laws.toFlux, laws.eqFlux. -/
import Derived.Test.YtfedlehibkgjbaaDoorPkFnFluxA
namespace Go.Proofs.YtfedlehibkgjbaaDoor
open Go.RowKit
set_option linter.unusedVariables false
def ToFluxPost (cl f : Int) (zs : List Int) (w : World) (e : Ending) (w' : World) : Prop :=
  ∃ g, e = .returned (.agg #[.int .i64 cl, .int .i64 f, .slice (some ⟨g, 0, none⟩) zs.length zs.length]) ∧ RowAt w' g zs ∧ w.heap.size ≤ g ∧ Below w.heap.size w w'
/-- Whether two fluxes are equal, field by field. -/
def fluxEq (c1 f1 : Int) (xs : List Int) (c2 f2 : Int) (ys : List Int) : Bool := c1 == c2 && (f1 == f2 && xs == ys)
set_option maxHeartbeats 400000 in
theorem eqFlux_any (c1 f1 : Int) (a : Option Addr) (xs : List Int) (c : Nat) (c2 f2 : Int) (b : Option Addr) (ys : List Int) (d : Nat) (w : World) (hx : xs.length ≤ 4194304) (hy : ys.length ≤ 4194304) (h1 : SlA w a xs) (h2 : SlA w b ys) :
    Calls Tryd.prog 7 #[.agg #[.int .i64 c1, .int .i64 f1, .slice a xs.length c], .agg #[.int .i64 c2, .int .i64 f2, .slice b ys.length d]] w fun e w' => e = .returned (.bool (fluxEq c1 f1 xs c2 f2 ys)) ∧ Below w.heap.size w w' := by
  have hc := fun w' (hb : Below w.heap.size w w') => eqInt64S_any a b xs ys c d w' hx hy (h1.below hb (Nat.le_refl _)) (h2.below hb (Nat.le_refl _))
  have HC := Lib.hid hc; clear hc h1 h2
  by_cases hcc : c1 = c2
  · have e1 : (c1 == c2) = true := by simp [hcc]
    have e2 : (c1 != c2) = false := by simp [hcc]
    by_cases hff : f1 = f2
    · have e3 : (f1 == f2) = true := by simp [hff]
      have e4 : (f1 != f2) = false := by simp [hff]
      have HE := Lib.hid (show fluxEq c1 f1 xs c2 f2 ys = (xs == ys) by unfold fluxEq; rw [e1, e3]; simp)
      clear hcc hff
      obtain ⟨q, hq⟩ : ∃ q, (xs == ys) = q := ⟨_, rfl⟩
      rw [hq] at HE HC
      clear hq
      cases q
      all_goals
        go_enter Tryd.func7, Tryd.ntmps7
        go_wp2_with (go_at_call 26; refine (HC.out _ (by go_grown)).mono ?_; rintro e w1 ⟨rfl, hb⟩)
        go_ret
        exact ⟨ret_bool HE.out.symm, Below.trans (by go_grown) (hb.mono (by simp; omega))⟩
    · have e4 : (f1 != f2) = true := by simp [hff]
      have HE := Lib.hid (show fluxEq c1 f1 xs c2 f2 ys = false by unfold fluxEq; simp [hff])
      clear hcc hff HC
      go_enter Tryd.func7, Tryd.ntmps7
      go_wp2
      go_ret
      exact ⟨ret_bool HE.out.symm, by go_grown⟩
  · have e4 : (c1 != c2) = true := by simp [hcc]
    have HE := Lib.hid (show fluxEq c1 f1 xs c2 f2 ys = false by unfold fluxEq; simp [hcc])
    clear hcc HC
    go_enter Tryd.func7, Tryd.ntmps7
    go_wp2
    go_ret
    exact ⟨ret_bool HE.out.symm, by go_grown⟩
end Go.Proofs.YtfedlehibkgjbaaDoor
