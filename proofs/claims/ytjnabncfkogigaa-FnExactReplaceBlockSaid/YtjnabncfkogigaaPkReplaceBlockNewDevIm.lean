/- impl.NewDevice -/
import Derived.Test.YtjnabncfkogigaaPkReplaceBlockOrdCol
namespace Go.Proofs.Ytjnabncfkogigaa
open Go.RowKit
set_option linter.unusedVariables false
set_option linter.unusedSimpArgs false
set_option maxRecDepth 20000
theorem OwnBlkI.prefix {w : World} {B g : Nat} {l l2 : List Int} (h : OwnBlkI w B g (l ++ l2)) : OwnBlkI w B g l := by
  obtain ⟨rest, hB, hh⟩ := h
  refine ⟨(l2.map (Value.int .i64)).toArray ++ rest, hB, ?_⟩
  rw [hh, List.map_append]
  congr 2
  apply Array.ext'
  simp
theorem BoxF.putAt {w : World} {p : Nat} {vs : Array Value} (h : BoxF w p vs) (i : Nat) (v : Value) (hi : i < vs.size) : BoxF (w.setCell ⟨p, i, none⟩ v) p (vs.setIfInBounds i v) := by
  intro j u hu
  by_cases e : j = i
  · subst e
    rw [Array.getElem?_setIfInBounds_self_of_lt hi] at hu
    cases hu
    exact ⟨World.cell?_setCell_same _ _ v (h j vs[j] (Array.getElem?_eq_getElem hi)).1, by rw [World.frozen?_setCell]; exact (h j vs[j] (Array.getElem?_eq_getElem hi)).2⟩
  · rw [Array.getElem?_setIfInBounds_ne (Ne.symm e)] at hu
    obtain ⟨h1, h2⟩ := h j u hu
    exact ⟨by rw [World.cell?_setCell_other (h := fun e' => e (by cases e'; rfl))]; exact h1, by rw [World.frozen?_setCell]; exact h2⟩
theorem ordL_split (c sk n m : Nat) (h : m ≤ n) : ∃ l2, ordL c sk n = ordL c sk m ++ l2 := by
  obtain ⟨d, rfl⟩ : ∃ d, n = m + d := ⟨n - m, by omega⟩
  refine ⟨((List.range d).map fun k => m + k).map fun k => ((ordAt c sk k : Nat) : Int), ?_⟩
  unfold ordL
  rw [List.range_add, List.map_append]
/-- A disc's numbers. -/
theorem disc_nums {f0 f1 f2 f3 : Int} {es : List SectorV} (h : discB ⟨f0, f1, f2, f3, es⟩ = true) : ∃ T C : Nat, f2 = (C : Int) ∧ f0 * f1 = (T : Int) ∧ es.length = T * C ∧ 1 ≤ es.length ∧ es.length ≤ 128 ∧ geoB f0 f1 f2 f3 = true := by
  have hl := discB_len h
  unfold discB at h
  simp only [Bool.and_eq_true, decide_eq_true_eq] at h
  obtain ⟨hg, hln, _⟩ := h
  obtain ⟨g0, g1, g2, g3⟩ := geoB_iff.1 hg
  have hm := mul_bound g0 g1 g2
  refine ⟨(f0 * f1).toNat, f2.toNat, by omega, by omega, ?_, by omega, hl, hg⟩
  have e : ((es.length : Nat) : Int) = (((f0 * f1).toNat * f2.toNat : Nat) : Int) := by
    push_cast
    rw [Int.toNat_of_nonneg (by omega), Int.toNat_of_nonneg (by omega)]
    exact hln
  exact Int.ofNat.inj e
end Go.Proofs.Ytjnabncfkogigaa
