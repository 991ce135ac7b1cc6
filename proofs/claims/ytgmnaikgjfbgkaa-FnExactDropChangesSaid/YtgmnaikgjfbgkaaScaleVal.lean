/- The values of impl.ScaleFlux and spec.ScaleFlux, and small lemmas of both. -/
import Derived.Test.YtgmnaikgjfbgkaaTimesFlux
import Derived.Test.YtgmnaikgjfbgkaaFluxVal
import Derived.Test.YtgmnaikgjfbgkaaSpecChanges
import Derived.Test.YtgmnaikgjfbgkaaRevolutionOf
import Derived.Test.YtgmnaikgjfbgkaaSm
namespace Go.Proofs.Ytgmnaikgjfbgkaa
open Go.RowKit
set_option linter.unusedVariables false
/-- The numbers when h has been put to the first k of them. -/
def mapTo (h : Int → Int) (ts : List Int) (k : Nat) : List Int := (ts.take k).map h ++ ts.drop k
theorem mapTo_zero (h : Int → Int) (ts : List Int) : mapTo h ts 0 = ts := by simp [mapTo]
theorem mapTo_all (h : Int → Int) (ts : List Int) : mapTo h ts ts.length = ts.map h := by simp [mapTo]
theorem mapTo_length (h : Int → Int) (ts : List Int) (k : Nat) (hk : k ≤ ts.length) : (mapTo h ts k).length = ts.length := by simp [mapTo]; omega
theorem mapTo_at (h : Int → Int) (ts : List Int) (k : Nat) (x : Int) (hx : ts[k]? = some x) : (mapTo h ts k)[k]? = some x := by
  have hk : k < ts.length := (List.getElem?_eq_some_iff.1 hx).1
  unfold mapTo
  rw [List.getElem?_append_right (by simp; omega)]
  simp [Nat.min_eq_left (Nat.le_of_lt hk), hx]
theorem mapTo_set (h : Int → Int) (ts : List Int) (k : Nat) (x : Int) (hx : ts[k]? = some x) : (mapTo h ts k).set k (h x) = mapTo h ts (k + 1) := by
  have hk : k < ts.length := (List.getElem?_eq_some_iff.1 hx).1
  have hl : ((ts.take k).map h).length = k := by simp; omega
  have hd : ts.drop k = x :: ts.drop (k + 1) := by
    rw [List.drop_eq_getElem_cons hk]
    rw [List.getElem?_eq_getElem hk] at hx
    rw [Option.some.inj hx]
  unfold mapTo
  rw [List.set_append_right _ _ (by omega), hl, hd, Nat.sub_self, List.set_cons_zero, List.take_add_one, hx]
  simp
/-- A row of int64s with something behind it. -/
def RowR (w : World) (g : Nat) (l : List Int) (rest : Array Value) : Prop := w.heap[g]? = some (.cells ((l.map (Value.int .i64)).toArray ++ rest) 2 (0, 0))
theorem RowAt.rowR {w : World} {g : Nat} {l : List Int} (h : RowAt w g l) : RowR w g l #[] := by unfold RowAt at h; unfold RowR; simpa using h
theorem RowR.rowAt {w : World} {g : Nat} {l : List Int} (h : RowR w g l #[]) : RowAt w g l := by unfold RowR at h; unfold RowAt; simpa using h
theorem RowR.cell {w : World} {g : Nat} {l : List Int} {rest : Array Value} (h : RowR w g l rest) {k : Nat} {x : Int} (hx : l[k]? = some x) : w.cell? ⟨g, k, none⟩ = some (.int .i64 x) ∧ w.frozen? ⟨g, k, none⟩ = false := by
  have hk : k < l.length := (List.getElem?_eq_some_iff.1 hx).1
  unfold RowR at h
  refine ⟨?_, by simp [World.frozen?, h]⟩
  simp only [World.cell?, h]
  simp [Array.getElem?_append, hk]
  obtain ⟨_, e⟩ := List.getElem?_eq_some_iff.1 hx
  exact e
theorem RowR.set {w : World} {g : Nat} {l : List Int} {rest : Array Value} (h : RowR w g l rest) (k : Nat) (y : Int) (hk : k < l.length) : RowR (w.setCell ⟨g, k, none⟩ (.int .i64 y)) g (l.set k y) rest := by
  unfold RowR
  rw [heap_set_row w g k _ _ _ h]
  congr 2
  apply Array.ext'
  simp only [Array.toList_setIfInBounds, Array.toList_append]
  rw [List.set_append_left _ _ (by simpa using hk)]
  simp [List.map_set]
theorem RowR.slO {w : World} {g B : Nat} {l : List Int} {rest : Array Value} (h : RowR w g l rest) (hg : B ≤ g) : SlO w B (some ⟨g, 0, none⟩) l := .inr ⟨g, rest, rfl, hg, h⟩
theorem two_ints (w : World) (x y : Int) : Ints (w.alloc (.cells #[.int .i64 x, .int .i64 y] 2)) w.heap.size 0 [x, y] := by
  intro i u hu
  match i, hu with
  | 0, hu => simp at hu; subst hu; simp [go_sem]
  | 1, hu => simp at hu; subst hu; simp [go_sem]
  | i + 2, hu => simp at hu
theorem wrap_in {n : Int} (h0 : -9223372036854775808 ≤ n) (h1 : n < 9223372036854775808) : wrap64 n = n := by unfold wrap64; omega
theorem wrap_in' {n : Int} (h0 : -9223372036854775808 ≤ n) (h1 : n < 9223372036854775808) : IntKind.i64.wrap n = n := IntWalk.i64_in n ⟨h0, by omega⟩
theorem fluxAt_set3 {w : World} {p q : Nat} {c f : Int} {a : Option Addr} {n d : Nat} (h : FluxAt w p c f a n d) (x y z : Value) (hq : p ≠ q) : FluxAt (((w.setCell ⟨q, 0, none⟩ x).setCell ⟨q, 1, none⟩ y).setCell ⟨q, 2, none⟩ z) p c f a n d :=
  ((h.setCell x hq).setCell y hq).setCell z hq
theorem ZeroAt.put {w : World} {p : Nat} (h : ZeroAt w p) (c f : Int) (a : Option Addr) (n d : Nat) : FluxAt (((w.setCell ⟨p, 0, none⟩ (.int .i64 c)).setCell ⟨p, 1, none⟩ (.int .i64 f)).setCell ⟨p, 2, none⟩ (.slice a n d)) p c f a n d := by
  obtain ⟨z0, z1, z2, y0, y1, y2⟩ := h.facts
  exact ⟨by simp [go_sem, z0], by simp [go_sem, z1], by simp [go_sem, z2]⟩
/-- A time, scaled. -/
def scl (num den t : Int) : Int := t * num / den
theorem scl_mul {num t : Int} (h0 : 0 ≤ t) (h1 : t ≤ 4194304) (h2 : 1 ≤ num) (h3 : num ≤ 1000) : 0 ≤ t * num ∧ t * num ≤ 4194304000 := by
  refine ⟨Int.mul_nonneg h0 (by omega), ?_⟩
  have := Int.mul_le_mul (a := t) (b := num) (c := 4194304) (d := 1000) h1 h3 (by omega) (by omega)
  omega
theorem scl_bd {num den t : Int} (h0 : 0 ≤ t) (h1 : t ≤ 4194304) (h2 : 1 ≤ num) (h3 : num ≤ 1000) (h4 : 1 ≤ den) : 0 ≤ scl num den t ∧ scl num den t ≤ 4194304000 := by
  have := scl_mul h0 h1 h2 h3
  unfold scl
  refine ⟨Int.ediv_nonneg this.1 (by omega), ?_⟩
  exact Int.le_trans (Int.ediv_le_self _ this.1) this.2
theorem tAt_bd {f : Int} {zs : List Int} (hz : zs.all (inB 1 2000000) = true) (hs : zs.sum ≤ 2000000) (hf0 : 0 ≤ f) (hf1 : f ≤ 2000000) (k : Nat) : 0 ≤ tAt f zs k ∧ tAt f zs k ≤ 4194304 := by
  have h1 := (sum_bd hz k).1
  have h2 : (zs.take k).sum ≤ zs.sum := by
    have e : zs.sum = (zs.take k).sum + (zs.drop k).sum := by rw [← List.sum_append, List.take_append_drop]
    have h3 : 0 ≤ (zs.drop k).sum := by
      have hall : (zs.drop k).all (inB 1 2000000) = true := by
        rw [List.all_eq_true] at hz ⊢
        intro x hx
        exact hz x (List.mem_of_mem_drop hx)
      have := (sum_bd hall (zs.drop k).length).1
      rwa [List.take_length] at this
    omega
  unfold tAt
  omega
/-- The scaled times. -/
def sclTimes (f num den : Int) (zs : List Int) : List Int := (timesOf f zs).map (scl num den)
theorem sclTimes_length (f num den : Int) (zs : List Int) : (sclTimes f num den zs).length = zs.length := by simp [sclTimes, timesOf_length]
def scaleVal (c f : Int) (zs : List Int) (num den : Int) : FluxVal :=
  if fluxOk c f zs = true then
    if inB 1 1000 num = true ∧ inB 1 1000 den = true then
      if fluxOk c ((sclTimes f num den zs)[0]?.getD 0) (gapsOf (sclTimes f num den zs) (scl num den zs.sum)) = true then ⟨c, (sclTimes f num den zs)[0]?.getD 0, gapsOf (sclTimes f num den zs) (scl num den zs.sum), 0⟩ else .none 2
    else .none 2
  else .none 1
theorem scaleVal_len (c f : Int) (zs : List Int) (num den : Int) (hl : zs.length ≤ 1048576) : (scaleVal c f zs num den).gaps.length ≤ 1048576 := by
  unfold scaleVal
  split
  · split
    · split
      · rw [gapsOf_length, sclTimes_length]; exact hl
      · simp [FluxVal.none]
    · simp [FluxVal.none]
  · simp [FluxVal.none]
theorem sclTimes_mild {f num den : Int} {zs : List Int} (hz : zs.all (inB 1 2000000) = true) (hs : zs.sum ≤ 2000000) (hf0 : 0 ≤ f) (hf1 : f ≤ 2000000) (h2 : 1 ≤ num) (h3 : num ≤ 1000) (h4 : 1 ≤ den) : Mild (sclTimes f num den zs) := by
  intro x hx
  unfold sclTimes timesOf at hx
  simp only [List.map_map, List.mem_map, List.mem_range] at hx
  obtain ⟨i, _, rfl⟩ := hx
  have hb := tAt_bd hz hs hf0 hf1 i
  have := scl_bd hb.1 hb.2 h2 h3 h4
  simp only [Function.comp_apply]
  omega
end Go.Proofs.Ytgmnaikgjfbgkaa
