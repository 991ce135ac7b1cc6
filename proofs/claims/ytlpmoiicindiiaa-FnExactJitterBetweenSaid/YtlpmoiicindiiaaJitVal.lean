/- The greatest difference of corresponding times: as data. -/
import Derived.Test.YtlpmoiicindiiaaChangesOf
namespace Go.Proofs.Ytlpmoiicindiiaa
open Go.RowKit
set_option linter.unusedVariables false
def jtK (xs ys : List Int) : Nat → Int
  | 0 => 0
  | k + 1 => max (jtK xs ys k) (max (xs[k]?.getD 0 - ys[k]?.getD 0) (ys[k]?.getD 0 - xs[k]?.getD 0))
def jtOk (c0 f0 : Int) (xs0 : List Int) (c1 f1 : Int) (xs1 : List Int) : Bool := fluxOk c0 f0 xs0 && (fluxOk c1 f1 xs1 && decide (xs0.length = xs1.length))
def jtV (c0 f0 : Int) (xs0 : List Int) (c1 f1 : Int) (xs1 : List Int) : Int := if jtOk c0 f0 xs0 c1 f1 xs1 = true then jtK (timesOf f0 xs0) (timesOf f1 xs1) xs0.length else 0
theorem jtK_bd {xs ys : List Int} (hx : ∀ (k : Nat) x, xs[k]? = some x → 0 ≤ x ∧ x ≤ 9000000000) (hy : ∀ (k : Nat) x, ys[k]? = some x → 0 ≤ x ∧ x ≤ 9000000000) : ∀ k, 0 ≤ jtK xs ys k ∧ jtK xs ys k ≤ 9000000000
  | 0 => by simp [jtK]
  | k + 1 => by
    have h := jtK_bd hx hy k
    have g1 : 0 ≤ xs[k]?.getD 0 ∧ xs[k]?.getD 0 ≤ 9000000000 := by
      cases e : xs[k]? with
      | none => simp
      | some x => exact hx k x e
    have g2 : 0 ≤ ys[k]?.getD 0 ∧ ys[k]?.getD 0 ≤ 9000000000 := by
      cases e : ys[k]? with
      | none => simp
      | some x => exact hy k x e
    unfold jtK
    omega
theorem jtK_succ {xs ys : List Int} {k : Nat} {x y : Int} (hx : xs[k]? = some x) (hy : ys[k]? = some y) : jtK xs ys (k + 1) = max (jtK xs ys k) (max (x - y) (y - x)) := by
  rw [jtK, hx, hy]; rfl
theorem sumT_bd : ∀ (l : List Int), (∀ x ∈ l, 1 ≤ x ∧ x ≤ 2000000) → 0 ≤ l.sum ∧ l.sum ≤ 2000000 * (l.length : Int)
  | [], _ => by simp
  | x :: l, h => by
    have h1 := sumT_bd l (fun y hy => h y (by simp [hy]))
    have h2 := h x (by simp)
    simp only [List.sum_cons, List.length_cons]
    push_cast
    omega
theorem times_bd {c f : Int} {zs : List Int} (hv : fluxOk c f zs = true) (hf : f ≤ 2000000) : ∀ (k : Nat) x, (timesOf f zs)[k]? = some x → 0 ≤ x ∧ x ≤ 9000000000 := by
  obtain ⟨_, ⟨_, hn4⟩, hz, _, hf0, _⟩ := fluxOk_iff.1 hv
  intro k x hx
  have hk : k < zs.length := by
    have := (List.getElem?_eq_some_iff.1 hx).1
    rwa [timesOf_length] at this
  rw [timesOf_at f zs k hk] at hx
  cases hx
  unfold tAt
  have h := sumT_bd (zs.take k) (fun y hy => inB_iff.1 (List.all_eq_true.1 hz y (List.mem_of_mem_take hy)))
  have hl : (zs.take k).length ≤ 4000 := by rw [List.length_take]; omega
  omega
end Go.Proofs.Ytlpmoiicindiiaa
