/- impl.ChangesOf -/
import Derived.Test.YtjilcobagmelgaaChangesIn
import Derived.Test.YtjilcobagmelgaaOwnI
namespace Go.Proofs.Ytjilcobagmelgaa
open Go.RowKit
set_option linter.unusedVariables false
open Go.Shelf
attribute [local go_sem] Oper.semAt_some
/-- The times of all changes. -/
def timesOf (f : Int) (zs : List Int) : List Int := (List.range zs.length).map (tAt f zs)
theorem timesOf_length (f : Int) (zs : List Int) : (timesOf f zs).length = zs.length := by simp [timesOf]
theorem timesOf_at (f : Int) (zs : List Int) (k : Nat) (h : k < zs.length) : (timesOf f zs)[k]? = some (tAt f zs k) := by simp [timesOf, h]
/-- The cells when the rounds of pre are over. -/
def rowOf (f : Int) (zs : List Int) (pre : List (Fin zs.length)) : Array Value := pre.foldl (fun C x => C.setIfInBounds x.val (.int .i64 (tAt f zs x.val))) (cpRow (timesOf f zs) 0)
theorem rowOf_snoc (f : Int) (zs : List Int) (pre : List (Fin zs.length)) (x : Fin zs.length) : rowOf f zs (pre ++ [x]) = (rowOf f zs pre).setIfInBounds x.val (.int .i64 (tAt f zs x.val)) := by simp [rowOf]
theorem rowOf_size (f : Int) (zs : List Int) (pre : List (Fin zs.length)) : (rowOf f zs pre).size = zs.length := by
  have h : ∀ (l : List (Fin zs.length)) (C : Array Value), (l.foldl (fun C x => C.setIfInBounds x.val (Value.int .i64 (tAt f zs x.val))) C).size = C.size := by
    intro l
    induction l with
    | nil => intro C; rfl
    | cons x l ih => intro C; rw [List.foldl_cons, ih]; simp
  unfold rowOf
  rw [h]
  simp [cpRow, timesOf_length]
theorem rowOf_rnds (f : Int) (zs : List Int) (k : Nat) (hk : k ≤ zs.length) : rowOf f zs (rnds zs.length k) = cpRow (timesOf f zs) k := by
  induction k with
  | zero => rfl
  | succ k ih =>
    rw [rnds_succ (by omega), rowOf_snoc, ih (by omega), cpRow_succ _ _ _ (timesOf_at f zs k (by omega))]
def cellsAt (W : World) (g : Nat) (C : Array Value) (T : TypeId) : Prop := W.heap[g]? = some (.cells C T (0, 0))
theorem cellsAt_own {β : Type} (C : β → Array Value) (g : Nat) (T : TypeId) : Own (fun s W => cellsAt W g (C s) T) := fun s W W' row hs hg hr => (grownBy_keeps_cells hg hr hs rfl).trans hs
end Go.Proofs.Ytjilcobagmelgaa
