/- (impl.times).flux -/
import Derived.Test.YtjilcobagmelgaaOwnI
import Derived.Test.YtjilcobagmelgaaSpecOk
namespace Go.Proofs.Ytjilcobagmelgaa
open Go.RowKit
set_option linter.unusedVariables false
/-- The gap behind change i of the times ts in a revolution. -/
def gapAt (ts : List Int) (rev : Int) (i : Nat) : Int := ts[i + 1]?.getD (ts[0]?.getD 0 + rev) - ts[i]?.getD 0
def gapsOf (ts : List Int) (rev : Int) : List Int := (List.range ts.length).map (gapAt ts rev)
theorem gapsOf_length (ts : List Int) (rev : Int) : (gapsOf ts rev).length = ts.length := by simp [gapsOf]
theorem gapsOf_at (ts : List Int) (rev : Int) (i : Nat) (h : i < ts.length) : (gapsOf ts rev)[i]? = some (gapAt ts rev i) := by
  simp [gapsOf, h]
theorem gapAt_mid {ts : List Int} {rev : Int} {i : Nat} {x y : Int} (h1 : ts[i]? = some x) (h2 : ts[i + 1]? = some y) : gapAt ts rev i = y - x := by simp [gapAt, h1, h2]
theorem gapAt_end {ts : List Int} {rev : Int} {i : Nat} {x y : Int} (h1 : ts[i]? = some x) (h2 : ts[0]? = some y) (hn : ¬ i + 1 < ts.length) : gapAt ts rev i = y + rev - x := by
  have h3 : ts[i + 1]? = none := by simp; omega
  simp [gapAt, h1, h2, h3]
/-- The numbers are small enough for no sum of a few to overflow. -/
def Mild (ts : List Int) : Prop := ∀ x ∈ ts, -1099511627776 ≤ x ∧ x ≤ 1099511627776
theorem Mild.at {ts : List Int} (h : Mild ts) {i : Nat} {x : Int} (hx : ts[i]? = some x) : -1099511627776 ≤ x ∧ x ≤ 1099511627776 := h x (List.mem_of_getElem? hx)
theorem heap_alloc_new' (w : World) (o : Obj) (n : Nat) (h : w.heap.size = n) : (w.alloc o).heap[n]? = some o := by
  subst h; exact heap_alloc_new w o
theorem FluxAt.setCell {w : World} {p : Nat} {c f : Int} {a : Option Addr} {n d : Nat} (h : FluxAt w p c f a n d) {q : Addr} (v : Value) (hq : p ≠ q.block) : FluxAt (w.setCell q v) p c f a n d := by
  have e : ∀ o, (w.setCell q v).cell? ⟨p, o, none⟩ = w.cell? ⟨p, o, none⟩ := fun o => World.cell?_of_block (Below.heap_setCell w q v p hq)
  unfold FluxAt
  rw [e, e, e]
  exact h
theorem RowAt.setCell {w : World} {g : Nat} {zs : List Int} (h : RowAt w g zs) {q : Addr} (v : Value) (hq : g ≠ q.block) : RowAt (w.setCell q v) g zs := by
  unfold RowAt
  rw [Below.heap_setCell w q v g hq]; exact h
theorem RowAt.set3 {w : World} {g p : Nat} {zs : List Int} (h : RowAt w g zs) (x y z : Value) (hq : g ≠ p) : RowAt (((w.setCell ⟨p, 0, none⟩ x).setCell ⟨p, 1, none⟩ y).setCell ⟨p, 2, none⟩ z) g zs :=
  ((h.setCell x hq).setCell y hq).setCell z hq
def TimesFluxPost (c f : Int) (zs : List Int) (w : World) (e : Ending) (w' : World) : Prop :=
  ∃ g, e = .returned (.agg #[.int .i64 c, .int .i64 f, .slice (some ⟨g, 0, none⟩) zs.length zs.length]) ∧ RowAt w' g zs ∧ w.heap.size ≤ g ∧ Below w.heap.size w w'
end Go.Proofs.Ytjilcobagmelgaa
