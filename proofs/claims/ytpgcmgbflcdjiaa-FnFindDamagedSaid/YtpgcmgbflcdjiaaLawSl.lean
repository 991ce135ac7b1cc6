/- laws.szInt64S, laws.toInt64S, laws.eqInt64S. -/
import Derived.Test.YtpgcmgbflcdjiaaSlices
namespace Go.Proofs.Ytpgcmgbflcdjiaa
open Go.RowKit
set_option linter.unusedVariables false
theorem i64info : (Try.prog.info? 2).map (fun i => (i.zero, i.size, i.bytes)) = some (some (.int .i64 0), 1, 8) := by kernel_rfl
/-- The row when k numbers have been copied. -/
def cpRow (zs : List Int) (k : Nat) : Array Value := ((zs.take k).map (Value.int .i64) ++ List.replicate (zs.length - k) (Value.int .i64 0)).toArray
theorem cpRow_zero (zs : List Int) : madeCells #[Value.int .i64 0] zs.length = cpRow zs 0 := by
  unfold cpRow
  apply Array.ext
  · simp [madeCells]
  · intro i h1 h2
    simp [madeCells, Nat.mod_one]
theorem cpRow_succ (zs : List Int) (k : Nat) (x : Int) (hx : zs[k]? = some x) : (cpRow zs k).setIfInBounds k (.int .i64 x) = cpRow zs (k + 1) := by
  have hk : k < zs.length := (List.getElem?_eq_some_iff.1 hx).1
  unfold cpRow
  apply Array.ext'
  simp only [Array.toList_setIfInBounds]
  have e : zs.length - k = (zs.length - (k + 1)) + 1 := by omega
  rw [List.take_add_one, hx, e, List.replicate_succ]
  have hl : (List.map (Value.int .i64) (List.take k zs)).length = k := by simp; omega
  rw [List.set_append_right _ _ (by omega), hl]
  simp
theorem cpRow_all (zs : List Int) : cpRow zs zs.length = (zs.map (Value.int .i64)).toArray := by
  unfold cpRow; simp
def ToIntsPost (zs : List Int) (w : World) (e : Ending) (w' : World) : Prop :=
  ∃ g, e = .returned (.slice (some ⟨g, 0, none⟩) zs.length zs.length) ∧ RowAt w' g zs ∧ w.heap.size ≤ g ∧ Below w.heap.size w w'
theorem eq_of_take {xs ys : List Int} (hl : xs.length = ys.length) (h : xs.take xs.length = ys.take xs.length) : xs = ys := by
  rw [List.take_length, hl, List.take_length] at h; exact h
end Go.Proofs.Ytpgcmgbflcdjiaa
