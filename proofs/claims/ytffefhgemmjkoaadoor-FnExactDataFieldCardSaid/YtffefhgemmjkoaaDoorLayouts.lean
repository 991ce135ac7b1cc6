/- The table of layouts: what the variable reads as, and its cells. -/
import Derived.Test.YtffefhgemmjkoaaDoorCardKit
import Derived.Test.YtffefhgemmjkoaaDoorBoxes
namespace Go.Proofs.YtffefhgemmjkoaaDoor
open Go.ChangeShapes Go.WideShapes Go.ChangeAt Go.RowKit Go.Joins Go.Deep
section
variable {H : Type} {enc : TypeId × Value → H} {P : Program} {w : World} {base : Nat} {sp : Nat → Bool} {held : Bool}
/-- A struct of one-cell fields, from its cells: each field's cell and reading. -/
theorem fields_of {t : TypeId} {fs : Array Field} {m fuel : Nat} {cs : List Value} {ds : List (DataW H)} {q : List MemPlace} (hs : P.underlying t = some (.struct fs)) (hone : oneCellFields P fs = true) (hC0 : P.cellsOf t = m) (hm : fs.size = m)
    (h : DataW.trod enc P w base sp held fuel t cs = some (.agg ds, q)) :
    cs.length = m ∧ ds.length = m ∧ ∀ (j : Nat) (f : Field), fs[j]? = some f → ∃ (c : Value) (d : DataW H) (n : Nat) (q' : List MemPlace), cs[j]? = some c ∧ ds[j]? = some d ∧ DataW.trod enc P w base sp held n f.type [c] = some (d, q') := by
  obtain ⟨ys, n, _, hx, hl, hlen, hat⟩ := DataW.trod_struct hs h
  simp only [Prod.mk.injEq, DataW.agg.injEq] at hx
  have hcl : cs.length = m := hl.trans hC0
  have hdl : ds.length = m := by rw [hx.1, List.length_map]; omega
  refine ⟨hcl, hdl, ?_⟩
  intro j f hj
  have hlt : j < fs.size := (Array.getElem?_eq_some_iff.1 hj).1
  obtain ⟨ho, hk⟩ := hone_of hone j f hj
  have h1 := hat j f hj
  rw [ho, hk] at h1
  have hd : (cs.drop j).take 1 = [cs[j]'(by omega)] := by
    rw [List.drop_eq_getElem_cons (by omega)]
    rfl
  rw [hd, List.getElem?_eq_getElem (by omega)] at h1
  refine ⟨cs[j]'(by omega), (ys[j]'(by omega)).1, n, (ys[j]'(by omega)).2, by simp [show j < cs.length by omega], ?_, h1⟩
  obtain ⟨hx1, _⟩ := hx
  have h3 : (ys.map (·.1))[j]? = some (ys[j]'(by omega)).1 := by rw [List.getElem?_map, List.getElem?_eq_getElem (by omega)]; rfl
  rw [← hx1] at h3
  exact h3
theorem int_cell {T : TypeId} {c : Value} {n : Nat} {x : Int} {q : List MemPlace} (hT : P.underlying T = some (.int .i64)) (h : DataW.trod enc P w base sp held n T [c] = some (.lit (.int .i64 x), q)) : c = .int .i64 x := by
  obtain ⟨y, e, hy, _⟩ := DataW.trod_int hT h
  simp at e hy
  obtain ⟨rfl, _⟩ := hy
  exact e
theorem str_cell {T : TypeId} {c : Value} {n : Nat} {x : List UInt8} {q : List MemPlace} (hT : P.underlying T = some .string) (h : DataW.trod enc P w base sp held n T [c] = some (.lit (.string x), q)) : c = .string ⟨x.toArray⟩ := by
  obtain ⟨y, e, hy, _⟩ := DataW.trod_string hT h
  simp at e hy
  obtain ⟨rfl, _⟩ := hy
  rw [e]
end
theorem layShape : ∃ fs, Tryd.prog.underlying 111 = some (.struct fs) ∧ oneCellFields Tryd.prog fs = true ∧ fs.size = 5 := ⟨_, Tryd.underlying111, by kernel_rfl, by rfl⟩
theorem layCellsOf : Tryd.prog.cellsOf 111 = 5 := by kernel_rfl
theorem lay_row {H : Type} {enc : TypeId × Value → H} {w : World} {base : Nat} {sp : Nat → Bool} {held : Bool} {fuel : Nat} {cs : List Value} {a : Int} {s1 s2 s3 s4 : List UInt8} {q : List MemPlace}
    (h : DataW.trod enc Tryd.prog w base sp held fuel 111 cs = some (.agg [.lit (.int .i64 a), .lit (.string s1), .lit (.string s2), .lit (.string s3), .lit (.string s4)], q)) :
    cs = [.int .i64 a, .string ⟨s1.toArray⟩, .string ⟨s2.toArray⟩, .string ⟨s3.toArray⟩, .string ⟨s4.toArray⟩] := by
  obtain ⟨hl, _, hf⟩ := fields_of Tryd.underlying111 (by kernel_rfl) layCellsOf (by rfl) h
  match cs, hl, hf with
  | [c0, c1, c2, c3, c4], _, hf =>
    obtain ⟨c0', d0, _, _, e0, g0, t0⟩ := hf 0 _ rfl
    obtain ⟨c1', d1, _, _, e1, g1, t1⟩ := hf 1 _ rfl
    obtain ⟨c2', d2, _, _, e2, g2, t2⟩ := hf 2 _ rfl
    obtain ⟨c3', d3, _, _, e3, g3, t3⟩ := hf 3 _ rfl
    obtain ⟨c4', d4, _, _, e4, g4, t4⟩ := hf 4 _ rfl
    cases e0; cases e1; cases e2; cases e3; cases e4
    cases g0; cases g1; cases g2; cases g3; cases g4
    rw [int_cell Tryd.underlying2 t0, str_cell Tryd.underlying9 t1, str_cell Tryd.underlying9 t2, str_cell Tryd.underlying9 t3, str_cell Tryd.underlying9 t4]
def layRowD {H : Type} (a : Int) (s1 s2 s3 s4 : List UInt8) : DataW H := .agg [.lit (.int .i64 a), .lit (.string s1), .lit (.string s2), .lit (.string s3), .lit (.string s4)]
def layRowV (a : Int) (s1 s2 s3 s4 : List UInt8) : List Value := [.int .i64 a, .string ⟨s1.toArray⟩, .string ⟨s2.toArray⟩, .string ⟨s3.toArray⟩, .string ⟨s4.toArray⟩]
def ones10 : List UInt8 := [49, 49, 49, 49, 49, 49, 49, 49, 49, 49]
def layD {H : Type} : DataW H := .agg [layRowD 0 [] [] [] [], layRowD 16 [255] [0, 0] [] [], layRowD 16 [78] [0, 0, 0] [] [161, 161, 161], layRowD 10 [85] [] ones10 []]
def layV : List Value := layRowV 0 [] [] [] [] ++ (layRowV 16 [255] [0, 0] [] [] ++ (layRowV 16 [78] [0, 0, 0] [] [161, 161, 161] ++ layRowV 10 [85] [] ones10 []))
theorem layCells {H : Type} {enc : TypeId × Value → H} {w : World} {base : Nat} {sp : Nat → Bool} {held : Bool} {fuel : Nat} {cs : List Value} {q : List MemPlace}
    (h : DataW.trod enc Tryd.prog w base sp held fuel 112 cs = some (layD, q)) : cs = layV := by
  obtain ⟨xs, m, rfl, hx, hl, hn, hel⟩ := DataW.trod_array (show Tryd.prog.underlying 112 = some (.array 4 111) by kernel_rfl) h
  unfold layD at hx
  simp only [Prod.mk.injEq, DataW.agg.injEq] at hx
  have hl2 : cs.length = 20 := hl.trans (show Tryd.prog.cellsOf 112 = 20 by kernel_rfl)
  rw [layCellsOf] at hel
  match xs, hn, hx.1, hel with
  | [y0, y1, y2, y3], _, hy, hel =>
    simp only [List.map_cons, List.map_nil, List.cons.injEq, and_true] at hy
    obtain ⟨f0, f1, f2, f3⟩ := hy
    have g0 : DataW.trod enc Tryd.prog w base sp held m 111 ((cs.drop 0).take 5) = some y0 := hel 0 (by omega)
    have g1 : DataW.trod enc Tryd.prog w base sp held m 111 ((cs.drop 5).take 5) = some y1 := hel 1 (by omega)
    have g2 : DataW.trod enc Tryd.prog w base sp held m 111 ((cs.drop 10).take 5) = some y2 := hel 2 (by omega)
    have g3 : DataW.trod enc Tryd.prog w base sp held m 111 ((cs.drop 15).take 5) = some y3 := hel 3 (by omega)
    obtain ⟨y0a, y0b⟩ := y0
    obtain ⟨y1a, y1b⟩ := y1
    obtain ⟨y2a, y2b⟩ := y2
    obtain ⟨y3a, y3b⟩ := y3
    dsimp only at f0 f1 f2 f3
    subst f0; subst f1; subst f2; subst f3
    have r0 := lay_row g0
    have r1 := lay_row g1
    have r2 := lay_row g2
    have r3 := lay_row g3
    have e4 : cs.drop 20 = [] := List.drop_eq_nil_of_le (by omega)
    have a3 : cs.drop 15 = (cs.drop 15).take 5 ++ cs.drop 20 := by rw [show cs.drop 20 = (cs.drop 15).drop 5 by rw [List.drop_drop], List.take_append_drop]
    have a2 : cs.drop 10 = (cs.drop 10).take 5 ++ cs.drop 15 := by rw [show cs.drop 15 = (cs.drop 10).drop 5 by rw [List.drop_drop], List.take_append_drop]
    have a1 : cs.drop 5 = (cs.drop 5).take 5 ++ cs.drop 10 := by rw [show cs.drop 10 = (cs.drop 5).drop 5 by rw [List.drop_drop], List.take_append_drop]
    have a0 : cs = (cs.drop 0).take 5 ++ cs.drop 5 := by rw [List.drop_zero, List.take_append_drop]
    rw [a0, a1, a2, a3, e4, r0, r1, r2, r3]
    rfl
/-- The table's block. -/
def LayTab (w : World) : Prop := ∃ T fr, w.heap[3]? = some (.cells layV.toArray T fr)
theorem LayTab.cell0 {w : World} (h : LayTab w) (k : Nat) (v : Value) (hk : layV[k]? = some v) : w.cell? ⟨3, k, none⟩ = some v := by
  obtain ⟨T, fr, hc⟩ := h
  simp only [World.cell?, hc]
  rw [List.getElem?_toArray]
  exact hk
theorem layV_some : ∀ k, k < 20 → (layV[k]?).isSome = true := by decide
theorem LayTab.cell {w : World} (h : LayTab w) (k : Nat) (hk : k < 20) : w.cell? ⟨3, k, none⟩ = some ((layV[k]?).getD (.bool false)) := by
  refine h.cell0 k _ ?_
  have := layV_some k hk
  obtain ⟨v, hv⟩ := Option.isSome_iff_exists.1 this
  rw [hv]; rfl
theorem LayTab.below {w w' : World} {n : Nat} (h : LayTab w) (hb : Below n w w') (hn : 3 < n) : LayTab w' := by
  obtain ⟨T, fr, hc⟩ := h
  exact ⟨T, fr, by rw [hb.block _ hn]; exact hc⟩
end Go.Proofs.YtffefhgemmjkoaaDoor
