/- The blocks that a deleted file of a disk with chains probably had, in pure words. -/
import Derived.Test.YtpdodpnhohmjaaaGreatDoorPkGoneBlocksGoneVal
namespace Go.Proofs.YtpdodpnhohmjaaaGreatDoor
open Go.RowKit
set_option maxRecDepth 20000
set_option linter.unusedVariables false
set_option linter.unusedSimpArgs false
/-- What is left of an ascending list from f on. -/
def dwL : List Int → Int → List Int
  | [], _ => []
  | x :: l, f => if x < f then dwL l f else x :: l
theorem asc_filter {l : List Int} (h : l.Pairwise (· < ·)) (f : Int) : l.filter (fun x => decide (f ≤ x)) = dwL l f := by
  induction l with
  | nil => rfl
  | cons x l ih =>
    obtain ⟨h1, h2⟩ := List.pairwise_cons.1 h
    rw [dwL]
    by_cases hx : x < f
    · rw [if_pos hx, List.filter_cons_of_neg (by simpa using hx)]
      exact ih h2
    · rw [if_neg hx, List.filter_cons_of_pos (by simp; omega)]
      congr 1
      refine List.filter_eq_self.2 fun y hy => ?_
      have := h1 y hy
      simp; omega
theorem dw_at {l : List Int} (h : l.Pairwise (· < ·)) {r : Nat} {f : Int} (hr : l[r]? = some f) : dwL l f = l.drop r := by
  induction l generalizing r with
  | nil => simp at hr
  | cons x l ih =>
    obtain ⟨h1, h2⟩ := List.pairwise_cons.1 h
    rw [dwL]
    cases r with
    | zero =>
      simp only [List.getElem?_cons_zero, Option.some.injEq] at hr
      rw [if_neg (by omega)]; rfl
    | succ r =>
      rw [List.getElem?_cons_succ] at hr
      have := h1 f (List.mem_of_getElem? hr)
      rw [if_pos this, List.drop_succ_cons]
      exact ih h2 hr
theorem dw_mem {l : List Int} {f x : Int} (h : (dwL l f).head? = some x) : x ∈ l := by
  induction l with
  | nil => simp [dwL] at h
  | cons y l ih =>
    rw [dwL] at h
    split at h
    · exact List.mem_cons_of_mem _ (ih h)
    · simp only [List.head?_cons, Option.some.injEq] at h
      rw [h]; simp
theorem dw_len (l : List Int) (f : Int) : (dwL l f).length ≤ l.length := by
  induction l with
  | nil => exact Nat.le_refl _
  | cons y l ih =>
    rw [dwL]
    split
    · simp only [List.length_cons]; omega
    · exact Nat.le_refl _
theorem frL_asc (es : List StringV) (d t : Nat) : (frL es d t).Pairwise (· < ·) := by
  unfold frL
  rw [List.pairwise_map]
  refine List.Pairwise.filter _ ?_
  refine List.Pairwise.imp ?_ List.pairwise_lt_range'
  intro a b h
  omega
def gbOk (l : List Int) (f : Int) (n : Nat) : Bool := decide (n = 0) || (decide ((dwL l f).head? = some f) && decide (n ≤ (dwL l f).length))
def gbLs (l : List Int) (f : Int) (n : Nat) : List Int := if gbOk l f n = true then (dwL l f).take n else []
def gbCd (l : List Int) (f : Int) (n : Nat) : Int := if gbOk l f n = true then 0 else 10
theorem gb_zero (l : List Int) (f : Int) : gbLs l f 0 = [] ∧ gbCd l f 0 = 0 := by
  unfold gbLs gbCd gbOk
  simp
theorem gb_no {l : List Int} {f : Int} {n : Nat} (h : gbOk l f n = false) : gbLs l f n = [] ∧ gbCd l f n = 10 := by
  unfold gbLs gbCd
  rw [h]
  simp
theorem gb_yes {l : List Int} {f : Int} {n : Nat} (h : gbOk l f n = true) : gbLs l f n = (dwL l f).take n ∧ gbCd l f n = 0 := by
  unfold gbLs gbCd
  rw [h]
  simp
theorem gbOk_none {l : List Int} {f : Int} {n : Nat} (hn : n ≠ 0) (h : f ∉ l) : gbOk l f n = false := by
  unfold gbOk
  rw [decide_eq_false hn, Bool.false_or, Bool.and_eq_false_iff]
  left
  exact decide_eq_false fun h2 => h (dw_mem h2)
theorem gbOk_at {l : List Int} (ha : l.Pairwise (· < ·)) {f : Int} {n r : Nat} (hn : n ≠ 0) (hr : l[r]? = some f) : gbOk l f n = decide (n ≤ l.length - r) ∧ dwL l f = l.drop r := by
  have hd := dw_at ha hr
  refine ⟨?_, hd⟩
  unfold gbOk
  have hh : (l.drop r).head? = some f := by rw [List.head?_drop]; exact hr
  rw [decide_eq_false hn, Bool.false_or, hd, decide_eq_true hh, Bool.true_and, List.length_drop]
theorem gbLs_len (l : List Int) (f : Int) (n : Nat) : (gbLs l f n).length ≤ l.length := by
  unfold gbLs
  split
  · have := dw_len l f
    rw [List.length_take]; omega
  · simp
/-- The blocks that an entry's file needs. -/
def ndK (es : List StringV) (r : ChainEntryV) : Nat := (r.f2.toNat + len0 es - 1) / len0 es
def fre (es : List StringV) : List Int := frL es (chD es) es.length
def gnC (es : List StringV) (b : Int) : Int := if chCode es = 0 then (if inB 0 (((es.length / 8 : Nat) : Int) - 1) b = true then (if goneB es b.toNat = true then 0 else 3) else 2) else chCode es
def gnR (es : List StringV) (b : Int) : ChainEntryV := entR (entL es b.toNat)
def gnbC (es : List StringV) (b : Int) : Int := if gnC es b = 0 then gbCd (fre es) (gnR es b).f1 (ndK es (gnR es b)) else gnC es b
def gnbL (es : List StringV) (b : Int) : List Int := if gnC es b = 0 then gbLs (fre es) (gnR es b).f1 (ndK es (gnR es b)) else []
theorem gnbL_len (es : List StringV) (b : Int) : (gnbL es b).length ≤ 1048576 := by
  unfold gnbL
  split
  · rename_i h
    have h0 : chCode es = 0 := by
      unfold gnC at h
      split at h
      · assumption
      · exact h
    obtain ⟨hd, _⟩ := chCode_facts h0
    have := (diskB_facts hd).1
    have h8 : (fre es).length ≤ es.length := frL_len es (chD es) es.length
    have h9 := gbLs_len (fre es) (gnR es b).f1 (ndK es (gnR es b))
    omega
  · simp
theorem entR_bds {l : List UInt8} (h : entOk l = true) : 0 ≤ (entR l).f2 ∧ (entR l).f2 ≤ 65535 := by
  unfold entR
  rw [if_pos h]
  have h1 := atE_lt l 9
  have h2 := atE_lt l 10
  show 0 ≤ (atE l 9 : Int) * 256 + (atE l 10 : Int) ∧ (atE l 9 : Int) * 256 + (atE l 10 : Int) ≤ 65535
  omega
end Go.Proofs.YtpdodpnhohmjaaaGreatDoor
