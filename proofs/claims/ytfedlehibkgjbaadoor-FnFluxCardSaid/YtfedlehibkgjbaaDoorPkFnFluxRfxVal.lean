/- The flux of a text, in pure words: what impl.ReadFlux and spec.ReadFlux find is the same. -/
import Derived.Test.YtfedlehibkgjbaaDoorPkFnFluxJoinVal
import Derived.Test.YtfedlehibkgjbaaDoorPkFnFluxFtxSp
namespace Go.Proofs.YtfedlehibkgjbaaDoor
open Go.RowKit
set_option linter.unusedVariables false
set_option linter.unusedSimpArgs false
/-- The numbers of a text. -/
def rfXs (s : ByteArray) : List Int := (splV s 32).map fun w => numW w.f0
def rfC (xs : List Int) : Int := xs[0]?.getD 0
def rfF (xs : List Int) : Int := xs[1]?.getD 0
/-- Is it the text of a flux? -/
def rfOk (s : ByteArray) : Bool := decide (3 ≤ (rfXs s).length) && fluxOk (rfC (rfXs s)) (rfF (rfXs s)) ((rfXs s).drop 2)
theorem rf_three {xs : List Int} (h : 3 ≤ xs.length) : xs = rfC xs :: rfF xs :: xs.drop 2 := by
  match xs, h with
  | a :: b :: c :: r, _ => rfl
theorem rf_yes {s : ByteArray} {c f : Int} {zs : List Int} (h : fluxOk c f zs = true) (ht : fluxT c f zs = s) : rfXs s = c :: f :: zs ∧ rfOk s = true := by
  have hb := fluxOk_bds h
  have hlen : (c :: f :: zs).length = zs.length + 2 := by simp
  have hs : s.data.toList = rfJoin ((c :: f :: zs).map rfDec) := by
    rw [← joinK_all, hlen, ← ht]
    unfold fluxT
    rw [if_pos h]
  have hx : rfXs s = c :: f :: zs := by
    have hsp := splV_split s 32
    rw [hs, rf_split_join (by simp) (by
      intro w hw
      obtain ⟨x, hx, rfl⟩ := List.mem_map.1 hw
      exact rfDec_blank (hb x hx).1)] at hsp
    unfold rfXs
    have e : (splV s 32) = (c :: f :: zs).map fun x => (⟨decT x⟩ : StringV) := by
      apply List.ext_getElem?
      intro i
      have h2 := congrArg (·[i]?) hsp
      simp only [List.getElem?_map] at h2 ⊢
      cases hi : (splV s 32)[i]? with
      | none =>
        rw [hi] at h2
        cases hj : (c :: f :: zs)[i]? with
        | none => rfl
        | some x => rw [hj] at h2; cases h2
      | some w =>
        rw [hi] at h2
        cases hj : (c :: f :: zs)[i]? with
        | none => rw [hj] at h2; cases h2
        | some x =>
          rw [hj] at h2
          simp only [Option.map_some, Option.some.injEq] at h2 ⊢
          obtain ⟨w0⟩ := w
          congr 1
          exact rf_ext h2
    rw [e, List.map_map]
    conv => rhs; rw [← List.map_id (c :: f :: zs)]
    apply List.map_congr_left
    intro x hx
    exact numW_of (hb x hx).1 (hb x hx).2
  refine ⟨hx, ?_⟩
  unfold rfOk
  rw [hx]
  have h1 := (fluxOk_iff.1 h).2.1.1
  rw [decide_eq_true (by rw [hlen]; omega), Bool.true_and]
  exact h
theorem rf_text {s : ByteArray} (h : rfOk s = true) : fluxT (rfC (rfXs s)) (rfF (rfXs s)) ((rfXs s).drop 2) = s ∧ numsV s.data.toList = some (rfXs s) := by
  unfold rfOk at h
  simp only [Bool.and_eq_true, decide_eq_true_eq] at h
  obtain ⟨h3, hok⟩ := h
  have hb := fluxOk_bds hok
  have hxs := rf_three h3
  have hall : ∀ x ∈ rfXs s, 0 ≤ x ∧ x < 10000000 := by rw [hxs]; exact hb
  have hmap : (rfXs s).map rfDec = rfSplit 32 s.data.toList := by
    rw [← splV_split]
    unfold rfXs
    rw [List.map_map]
    apply List.map_congr_left
    intro w hw
    show (decT (numW w.f0)).data.toList = _
    rw [numW_dec (hall _ (List.mem_map.2 ⟨w, hw, rfl⟩)).1]
  have hj : rfJoin ((rfXs s).map rfDec) = s.data.toList := by rw [hmap, rf_join_split]
  have hlen : (rfXs s).length = ((rfXs s).drop 2).length + 2 := by rw [List.length_drop]; omega
  constructor
  · unfold fluxT
    rw [if_pos hok, ← hxs, ← hlen, joinK_all, hj]
  · unfold numsV
    rw [← hj]
    refine nums_join (by intro h0; rw [h0] at h3; simp at h3) ?_
    obtain ⟨hc, _, ha, hs, hf⟩ := fluxOk_iff.1 hok
    have hzs : ∀ x ∈ (rfXs s).drop 2, 1 ≤ x ∧ x ≤ 2000000 := fun x hx => inB_iff.1 (List.all_eq_true.1 ha x hx)
    have hlast : ((rfXs s).drop 2)[((rfXs s).drop 2).length - 1]?.getD 0 ≤ 2000000 := by
      cases hq : ((rfXs s).drop 2)[((rfXs s).drop 2).length - 1]? with
      | none => simp
      | some x => have := (hzs x (List.mem_of_getElem? hq)).2; simpa using this
    intro x hx
    rw [hxs] at hx
    rcases List.mem_cons.1 hx with rfl | hx
    · omega
    · rcases List.mem_cons.1 hx with rfl | hx
      · omega
      · have := hzs x hx; omega
theorem rf_no {s : ByteArray} (h : ∀ c f zs, numsV s.data.toList = some (c :: f :: zs) → fluxOk c f zs = true → ¬ fluxT c f zs = s) : rfOk s = false := by
  cases hb : rfOk s with
  | false => rfl
  | true =>
    exfalso
    obtain ⟨h1, h2⟩ := rf_text hb
    unfold rfOk at hb
    simp only [Bool.and_eq_true, decide_eq_true_eq] at hb
    rw [rf_three hb.1] at h2
    exact h _ _ _ h2 hb.2 h1
theorem rf_size {s : ByteArray} (h : rfOk s = true) : s.size ≤ 32016 := by
  obtain ⟨h1, _⟩ := rf_text h
  unfold rfOk at h
  simp only [Bool.and_eq_true, decide_eq_true_eq] at h
  have hb := fluxOk_bds h.2
  have hl := (fluxOk_iff.1 h.2).2.1.2
  have hj := joinK_len8 hb (((rfXs s).drop 2).length + 2)
  have e : s.size = (joinK (rfC (rfXs s) :: rfF (rfXs s) :: (rfXs s).drop 2) (((rfXs s).drop 2).length + 2)).length := by
    conv => lhs; rw [← h1]
    unfold fluxT
    rw [if_pos h.2]
    show (List.toArray _).size = _
    rw [List.size_toArray]
  omega
end Go.Proofs.YtfedlehibkgjbaaDoor
