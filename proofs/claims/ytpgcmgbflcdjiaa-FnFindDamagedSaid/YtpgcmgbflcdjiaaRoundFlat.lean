/- A drawn region inside a round of a range over a function: without a 'defer' the round makes no difference, so the region may be walked at the fence without its round. -/
import Derived.OrdersIn
import Derived.OwnWalkIn
import Derived.Test.YtpgcmgbflcdjiaaBase
namespace Go.Proofs.Ytpgcmgbflcdjiaa
open Go.RowKit
set_option linter.unusedVariables false
section
variable {F : Fence} {n : Nat} {P : Program} {ops : Array Oper} {Q : Exit → Act → World → Prop}
abbrev flatF (F : Fence) : Fence := { F with round := none }
def calm : Op → Bool
  | .defer _ => false
  | _ => true
theorem calm_of {o : Op} (h : calm o = true) : ∀ c, o ≠ .defer c := fun c e => by subst e; cases h
theorem wpIn_flat {o : Oper} (hd : calm o.op = true) {K : Act → World → Prop} {a : Act} {w : World} : Oper.wpIn F n P o a w K Q ↔ Oper.wpIn (flatF F) n P o a w K Q := by
  unfold Oper.wpIn
  rw [Oper.semAt_plain F a.eval o (calm_of hd), Oper.semAt_plain (flatF F) a.eval o (calm_of hd)]
  exact Iff.rfl
theorem wpOpIn_flat (h : ops.all (fun o => calm o.op) = true) {i : Nat} {K : Act → World → Prop} {a : Act} {w : World} : wpOpIn F n P ops Q i K a w ↔ wpOpIn (flatF F) n P ops Q i K a w := by
  unfold wpOpIn
  cases e : ops[i]? with
  | none => exact Iff.rfl
  | some o =>
    have ho : calm o.op = true := by
      obtain ⟨hi, rfl⟩ := Array.getElem?_eq_some_iff.1 e
      exact Array.all_eq_true.1 h i hi
    dsimp only
    split
    · exact wpIn_flat ho
    · exact Iff.rfl
theorem wpAnyIn_flat (h : ops.all (fun o => calm o.op) = true) {md : Region.Mode} : ∀ (fuel : Nat) (listed : Array Bool) (a : Act) (w : World), wpAnyIn F n P md ops Q fuel listed a w ↔ wpAnyIn (flatF F) n P md ops Q fuel listed a w
  | 0, _, _, _ => Iff.rfl
  | fuel + 1, listed, a, w => by
    unfold wpAnyIn
    refine and_congr Iff.rfl (forall_congr' fun i => imp_congr Iff.rfl ?_)
    rw [wpOpIn_flat h]
    have e : wpAnyIn F n P md ops Q fuel (listed.setIfInBounds i true) = wpAnyIn (flatF F) n P md ops Q fuel (listed.setIfInBounds i true) := by
      funext a w
      exact propext (wpAnyIn_flat h fuel _ a w)
    rw [e]
end
end Go.Proofs.Ytpgcmgbflcdjiaa
