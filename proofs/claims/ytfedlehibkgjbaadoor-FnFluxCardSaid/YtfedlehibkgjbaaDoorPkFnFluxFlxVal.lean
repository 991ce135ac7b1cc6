/- FnFlux, in pure words: the times of the flux of cells, and the flux of turned cells. -/
import Derived.Test.YtfedlehibkgjbaaDoorPkFnFluxB
import Derived.Test.YtfedlehibkgjbaaDoorPkFnFluxC
import Derived.Test.YtfedlehibkgjbaaDoorPkFnFluxRfxVal
namespace Go.Proofs.YtfedlehibkgjbaaDoor
open Go.RowKit
set_option linter.unusedVariables false
set_option linter.unusedSimpArgs false
theorem tAt_gaps {ts : List Int} {rev f : Int} (hf : ts[0]? = some f) : ∀ i, i < ts.length → some (tAt f (gapsOf ts rev) i) = ts[i]? := by
  intro i
  induction i with
  | zero => intro h; rw [tAt_zero, hf]
  | succ i ih =>
    intro h
    have h1 := ih (by omega)
    have h2 : ts[i + 1]? = some ts[i + 1] := List.getElem?_eq_getElem h
    rw [tAt_succ (gapsOf_at ts rev i (by omega)), gapAt_mid h1.symm h2, h2]
    congr 1; omega
theorem sum_gaps {ts : List Int} {rev f : Int} (hf : ts[0]? = some f) : (gapsOf ts rev).sum = rev := by
  obtain ⟨n, hn⟩ : ∃ n, ts.length = n + 1 := ⟨ts.length - 1, by have := (List.getElem?_eq_some_iff.1 hf).1; omega⟩
  have hl : (gapsOf ts rev).length = n + 1 := by rw [gapsOf_length, hn]
  have h1 := tAt_gaps (rev := rev) hf n (by omega)
  have h2 := tAt_succ (f := f) (gapsOf_at ts rev n (by omega))
  rw [gapAt_end h1.symm hf (by omega)] at h2
  have h3 := tAt_last f (gapsOf ts rev)
  rw [hl, h2] at h3
  omega
theorem timesOf_gaps {ts : List Int} {rev f : Int} (hf : ts[0]? = some f) : timesOf f (gapsOf ts rev) = ts := by
  apply List.ext_getElem?
  intro i
  by_cases hi : i < ts.length
  · rw [timesOf_at _ _ i (by rw [gapsOf_length]; exact hi), tAt_gaps hf i hi]
  · rw [List.getElem?_eq_none (by rw [timesOf_length, gapsOf_length]; omega), List.getElem?_eq_none (by omega)]
/-- The places of the ones among m cells from o on. -/
def onesAt (s : ByteArray) (o m : Nat) : List Nat := (List.range' o m).filter fun i => s.data[i]?.getD 0 == 49
def cellT (cell : Int) (i : Nat) : Int := (i : Int) * cell + cell / 2
theorem chg_ones (s : ByteArray) (cell : Int) (k : Nat) : chg s cell k = (onesAt s 0 k).map (cellT cell) := by
  unfold chg onesAt cellT
  rw [List.range_eq_range']
theorem ones_split (s : ByteArray) (o k m : Nat) : onesAt s o (k + m) = onesAt s o k ++ onesAt s (o + k) m := by
  unfold onesAt
  rw [← List.range'_append_1, List.filter_append]
theorem ones_succ (s : ByteArray) (o m : Nat) : onesAt s o (m + 1) = onesAt s o m ++ if (s.data[o + m]?.getD 0 == 49) = true then [o + m] else [] := by
  rw [ones_split]
  congr 1
  unfold onesAt
  by_cases h : (s.data[o + m]?.getD 0 == 49) = true
  · rw [if_pos h, show List.range' (o + m) 1 = [o + m] from rfl, List.filter_cons_of_pos (p := fun i => s.data[i]?.getD 0 == 49) h, List.filter_nil]
  · rw [if_neg h, show List.range' (o + m) 1 = [o + m] from rfl, List.filter_cons_of_neg (p := fun i => s.data[i]?.getD 0 == 49) h, List.filter_nil]
theorem ones_shift {s s' : ByteArray} {o o' : Nat} : ∀ m : Nat, (∀ i, i < m → s'.data[o' + i]?.getD 0 = s.data[o + i]?.getD 0) → (onesAt s' o' m).map (fun (i : Nat) => (i : Int) - o') = (onesAt s o m).map (fun (i : Nat) => (i : Int) - o) := by
  intro m
  induction m with
  | zero => intro _; rfl
  | succ m ih =>
    intro h
    rw [ones_succ, ones_succ, List.map_append, List.map_append, ih fun i hi => h i (by omega), h m (by omega)]
    congr 1
    split
    · simp; omega
    · rfl
theorem ones_mem {s : ByteArray} {o m i : Nat} (h : i ∈ onesAt s o m) : o ≤ i ∧ i < o + m := by
  unfold onesAt at h
  have := (List.mem_filter.1 h).1
  rw [List.mem_range'_1] at this
  exact this
theorem rot_list (s : ByteArray) (k : Nat) (hk : k ≤ s.size) : (rotS s k).data.toList = s.data.toList.drop k ++ s.data.toList.take k := by
  have hl : s.data.toList.length = s.size := Array.length_toList
  unfold rotS
  rw [ByteArray.data_append, Array.toList_append, rf_cut, rf_cut, List.drop_zero, Nat.sub_zero, List.take_of_length_le (by rw [List.length_drop]; omega)]
theorem rot_size (s : ByteArray) (k : Nat) (hk : k ≤ s.size) : (rotS s k).size = s.size := by
  have h := congrArg List.length (rot_list s k hk)
  have hl : s.data.toList.length = s.size := Array.length_toList
  have hl2 : (rotS s k).data.toList.length = (rotS s k).size := Array.length_toList
  rw [hl2, List.length_append, List.length_drop, List.length_take] at h
  omega
theorem rot_lo (s : ByteArray) (k : Nat) (hk : k ≤ s.size) (i : Nat) (hi : i < s.size - k) : (rotS s k).data[0 + i]?.getD 0 = s.data[k + i]?.getD 0 := by
  have hl : s.data.toList.length = s.size := Array.length_toList
  rw [← Array.getElem?_toList, ← Array.getElem?_toList, rot_list s k hk, List.getElem?_append_left (by rw [List.length_drop]; omega), List.getElem?_drop, Nat.zero_add]
theorem rot_hi (s : ByteArray) (k : Nat) (hk : k ≤ s.size) (i : Nat) (hi : i < k) : (rotS s k).data[(s.size - k) + i]?.getD 0 = s.data[0 + i]?.getD 0 := by
  have hl : s.data.toList.length = s.size := Array.length_toList
  rw [← Array.getElem?_toList, ← Array.getElem?_toList, rot_list s k hk, List.getElem?_append_right (by rw [List.length_drop]; omega), List.length_drop, hl, Nat.add_sub_cancel_left, List.getElem?_take_of_lt hi, Nat.zero_add]
theorem cellT_map (cell : Int) (s s' : ByteArray) (o o' m : Nat) (h : ∀ i, i < m → s'.data[o' + i]?.getD 0 = s.data[o + i]?.getD 0) (d : Int) (hd : d = ((o' : Int) - o) * cell) :
    (onesAt s' o' m).map (cellT cell) = ((onesAt s o m).map (cellT cell)).map (fun x => x + d) := by
  have e := congrArg (List.map fun (x : Int) => (x + o') * cell + cell / 2) (ones_shift m h)
  rw [List.map_map, List.map_map] at e
  rw [List.map_map]
  have e1 : ((fun (x : Int) => (x + o') * cell + cell / 2) ∘ fun (i : Nat) => (i : Int) - o') = cellT cell := by
    funext i
    show ((i : Int) - o' + o') * cell + cell / 2 = (i : Int) * cell + cell / 2
    rw [Int.sub_add_cancel]
  have e2 : ((fun (x : Int) => (x + o') * cell + cell / 2) ∘ fun (i : Nat) => (i : Int) - o) = (fun x => x + d) ∘ cellT cell := by
    funext i
    show ((i : Int) - o + o') * cell + cell / 2 = (i : Int) * cell + cell / 2 + d
    rw [hd, show ((i : Int) - o + o') = (i : Int) + ((o' : Int) - o) by omega, Int.add_mul]
    omega
  rw [e1, e2] at e
  exact e
/-- The times ahead of a cell, and from it on. -/
theorem chg_rot (s : ByteArray) (cell : Int) (k : Nat) (hk : k ≤ s.size) :
    chg (rotS s k) cell s.size = ((onesAt s k (s.size - k)).map (cellT cell)).map (fun x => x + -((k : Int) * cell)) ++ ((onesAt s 0 k).map (cellT cell)).map (fun x => x + (((s.size : Int) - k) * cell)) := by
  rw [chg_ones]
  have hsz : s.size = (s.size - k) + k := by omega
  conv => lhs; rw [hsz]
  rw [ones_split, List.map_append, Nat.zero_add]
  rw [cellT_map cell s (rotS s k) k 0 (s.size - k) (rot_lo s k hk) (-((k : Int) * cell)) (by simp [Int.neg_mul]), cellT_map cell s (rotS s k) 0 (s.size - k) k (rot_hi s k hk) (((s.size : Int) - k) * cell) (by congr 1; omega)]
theorem chg_cut (s : ByteArray) (cell : Int) (k : Nat) (hk : k ≤ s.size) : chg s cell s.size = (onesAt s 0 k).map (cellT cell) ++ (onesAt s k (s.size - k)).map (cellT cell) := by
  rw [chg_ones]
  have hsz : s.size = k + (s.size - k) := by omega
  conv => lhs; rw [hsz]
  rw [ones_split, List.map_append, Nat.zero_add]
theorem cellT_lt {cell : Int} {i j : Nat} (h0 : 1 ≤ cell) (h : i < j) : cellT cell i < (j : Int) * cell := by
  unfold cellT
  have h1 : ((i : Int) + 1) * cell ≤ (j : Int) * cell := Int.mul_le_mul_of_nonneg_right (by omega) (by omega)
  rw [Int.add_mul] at h1
  omega
theorem cellT_ge {cell : Int} {i j : Nat} (h0 : 1 ≤ cell) (h : j ≤ i) : (j : Int) * cell ≤ cellT cell i := by
  unfold cellT
  have h1 : (j : Int) * cell ≤ (i : Int) * cell := Int.mul_le_mul_of_nonneg_right (by omega) (by omega)
  omega
theorem chg_sorted (s : ByteArray) {cell : Int} (h0 : 1 ≤ cell) (n : Nat) : (chg s cell n).Pairwise (· < ·) := by
  rw [chg_ones, List.pairwise_map]
  refine List.Pairwise.imp ?_ (List.Pairwise.filter _ List.pairwise_lt_range')
  intro a b h
  have h1 := cellT_lt h0 h
  have h2 := cellT_ge h0 (Nat.le_refl b)
  omega
theorem chg_bd {s : ByteArray} {cell x : Int} {n : Nat} (h0 : 1 ≤ cell) (h : x ∈ chg s cell n) : 0 ≤ x ∧ x < (n : Int) * cell := by
  rw [chg_ones, List.mem_map] at h
  obtain ⟨i, hi, rfl⟩ := h
  have h1 := ones_mem hi
  have h2 := cellT_lt h0 (i := i) (j := n) (by omega)
  have h3 := cellT_ge h0 (i := i) (j := 0) (by omega)
  have h4 : ((0 : Nat) : Int) * cell = 0 := by simp
  omega
/-- Flux of cells is valid. -/
theorem flx_ok {s : ByteArray} {cell f : Int} (hs : s.size ≤ 8000) (h0 : 4 ≤ cell) (h1 : cell ≤ 200) (hf : (chg s cell s.size)[0]? = some f) (hl : (chg s cell s.size).length ≤ 4000) :
    fluxOk cell f (gapsOf (chg s cell s.size) ((s.size : Int) * cell)) = true ∧ (gapsOf (chg s cell s.size) ((s.size : Int) * cell)).all (inB 1 2000000) = true := by
  have hsort := chg_sorted s (cell := cell) (by omega) s.size
  have hbd := fun x => chg_bd (s := s) (cell := cell) (x := x) (n := s.size) (by omega)
  have hrev := cellMul (k := s.size) hs (by omega) h1
  generalize ((s.size : Nat) : Int) * cell = rev at *
  generalize chg s cell s.size = ts at *
  have hN : 0 < ts.length := (List.getElem?_eq_some_iff.1 hf).1
  have hgap : ∀ i, i < ts.length → 1 ≤ gapAt ts rev i ∧ gapAt ts rev i ≤ rev + rev := by
    intro i hi
    have hx : ts[i]? = some ts[i] := List.getElem?_eq_getElem hi
    have b1 := hbd _ (List.mem_of_getElem? hx)
    have b0 := hbd _ (List.mem_of_getElem? hf)
    by_cases h2 : i + 1 < ts.length
    · have hy : ts[i + 1]? = some ts[i + 1] := List.getElem?_eq_getElem h2
      have b2 := hbd _ (List.mem_of_getElem? hy)
      rw [gapAt_mid hx hy]
      have := List.pairwise_iff_getElem.1 hsort i (i + 1) hi h2 (by omega)
      omega
    · rw [gapAt_end hx hf h2]
      omega
  have hall : (gapsOf ts rev).all (inB 1 2000000) = true := by
    rw [List.all_eq_true]
    intro x hx
    unfold gapsOf at hx
    rw [List.mem_map] at hx
    obtain ⟨i, hi, rfl⟩ := hx
    have := hgap i (List.mem_range.1 hi)
    by_cases hmax : gapAt ts rev i ≤ 2000000
    · exact inB_iff.2 ⟨this.1, hmax⟩
    · exfalso
      have hi2 := List.mem_range.1 hi
      have hx : ts[i]? = some ts[i] := List.getElem?_eq_getElem hi2
      have b1 := hbd _ (List.mem_of_getElem? hx)
      have b0 := hbd _ (List.mem_of_getElem? hf)
      by_cases h2 : i + 1 < ts.length
      · have hy : ts[i + 1]? = some ts[i + 1] := List.getElem?_eq_getElem h2
        have b2 := hbd _ (List.mem_of_getElem? hy)
        rw [gapAt_mid hx hy] at hmax
        omega
      · rw [gapAt_end hx hf h2] at hmax
        have b3 : f ≤ ts[i] := by
          by_cases h00 : i = 0
          · subst h00
            rw [hx] at hf
            have := Option.some.inj hf
            omega
          · have h3 := List.pairwise_iff_getElem.1 hsort 0 i hN hi2 (by omega)
            have h4 : ts[0]? = some ts[0] := List.getElem?_eq_getElem hN
            rw [h4] at hf
            have := Option.some.inj hf
            omega
        omega
  refine ⟨?_, hall⟩
  rw [fluxOk_iff]
  refine ⟨⟨h0, h1⟩, by rw [gapsOf_length]; omega, hall, by rw [sum_gaps hf]; omega, ?_⟩
  have hb := hbd _ (List.mem_of_getElem? hf)
  rw [gapsOf_length, gapsOf_at ts rev (ts.length - 1) (by omega)]
  have hx : ts[ts.length - 1]? = some ts[ts.length - 1] := List.getElem?_eq_getElem (by omega)
  have b1 := hbd _ (List.mem_of_getElem? hx)
  rw [Option.getD_some, gapAt_end hx hf (by omega)]
  omega
theorem rot_start {TA TB : List Int} {b rev f : Int} (hf : (TA ++ TB)[0]? = some f) (hA : ∀ x ∈ TA, x < b) (hB : ∀ x ∈ TB, b ≤ x) : IsStart b f (gapsOf (TA ++ TB) rev) TA.length := by
  refine ⟨by rw [gapsOf_length, List.length_append]; omega, fun j hj => ?_, fun h => ?_⟩
  · have h1 := tAt_gaps (rev := rev) hf j (by rw [List.length_append]; omega)
    rw [List.getElem?_append_left hj] at h1
    exact hA _ (List.mem_of_getElem? h1.symm)
  · rw [gapsOf_length] at h
    have h1 := tAt_gaps (rev := rev) hf TA.length h
    rw [List.getElem?_append_right (Nat.le_refl _)] at h1
    exact hB _ (List.mem_of_getElem? h1.symm)
theorem rot_times {TA TB : List Int} {b rev f : Int} (hf : (TA ++ TB)[0]? = some f) (hA : ∀ x ∈ TA, x < b) (hB : ∀ x ∈ TB, b ≤ x) : rotTimes b f rev (gapsOf (TA ++ TB) rev) TA.length = TB.map (fun x => x + -b) ++ TA.map (fun x => x + (rev - b)) := by
  have hN : (TA ++ TB).length = TA.length + TB.length := List.length_append
  apply List.ext_getElem?
  intro i
  by_cases hi : i < TA.length + TB.length
  · rw [rotTimes_at _ _ _ _ _ i (by rw [gapsOf_length, hN]; exact hi), gapsOf_length, hN, mod_lt2 (by omega)]
    by_cases h2 : i < TB.length
    · rw [if_pos (by omega), List.getElem?_append_left (by rw [List.length_map]; exact h2), List.getElem?_map]
      have h1 := tAt_gaps (rev := rev) hf (TA.length + i) (by omega)
      rw [List.getElem?_append_right (by omega), Nat.add_sub_cancel_left] at h1
      have hx := hB _ (List.mem_of_getElem? h1.symm)
      rw [← h1]
      unfold rotAt
      rw [if_neg (by omega)]
      rfl
    · rw [if_neg (by omega), List.getElem?_append_right (by rw [List.length_map]; omega), List.length_map, List.getElem?_map]
      have h1 := tAt_gaps (rev := rev) hf (i - TB.length) (by omega)
      rw [List.getElem?_append_left (by omega)] at h1
      have hx := hA _ (List.mem_of_getElem? h1.symm)
      rw [← h1, show TA.length + i - (TA.length + TB.length) = i - TB.length by omega]
      unfold rotAt
      rw [if_pos (by omega)]
      show some (tAt f (gapsOf (TA ++ TB) rev) (i - TB.length) - b + rev) = some (tAt f (gapsOf (TA ++ TB) rev) (i - TB.length) + (rev - b))
      congr 1; omega
  · rw [List.getElem?_eq_none (by rw [rotTimes_length, gapsOf_length, hN]; omega), List.getElem?_eq_none (by simp; omega)]
/-- The flux of turned cells is the turned flux. -/
theorem flx_rot {s : ByteArray} {cell f : Int} {k : Nat} (hs : s.size ≤ 8000) (h0 : 4 ≤ cell) (h1 : cell ≤ 200) (hk : k < s.size) (hf : (chg s cell s.size)[0]? = some f) (hl : (chg s cell s.size).length ≤ 4000) :
    rotVal cell f (gapsOf (chg s cell s.size) ((s.size : Int) * cell)) ((k : Int) * cell) = ⟨cell, (chg (rotS s k) cell s.size)[0]?.getD 0, gapsOf (chg (rotS s k) cell s.size) ((s.size : Int) * cell), 0⟩ ∧ (chg (rotS s k) cell s.size).length = (chg s cell s.size).length := by
  obtain ⟨hok, hall⟩ := flx_ok hs h0 h1 hf hl
  have hkb : ((k : Int) + 1) * cell ≤ (s.size : Int) * cell := Int.mul_le_mul_of_nonneg_right (by omega) (by omega)
  rw [Int.add_mul] at hkb
  have hkb0 : 0 ≤ (k : Int) * cell := Int.mul_nonneg (by omega) (by omega)
  have hrot := chg_rot s cell k (by omega)
  have hcut := chg_cut s cell k (by omega)
  have hA : ∀ x ∈ (onesAt s 0 k).map (cellT cell), x < (k : Int) * cell := by
    intro x hx
    rw [List.mem_map] at hx
    obtain ⟨i, hi, rfl⟩ := hx
    have := ones_mem hi
    exact cellT_lt (by omega) (by omega)
  have hB : ∀ x ∈ (onesAt s k (s.size - k)).map (cellT cell), (k : Int) * cell ≤ x := by
    intro x hx
    rw [List.mem_map] at hx
    obtain ⟨i, hi, rfl⟩ := hx
    have := ones_mem hi
    exact cellT_ge (by omega) (by omega)
  rw [Int.sub_mul] at hrot
  generalize ((s.size : Nat) : Int) * cell = rev at *
  generalize (k : Int) * cell = b at *
  generalize (onesAt s 0 k).map (cellT cell) = TA at *
  generalize (onesAt s k (s.size - k)).map (cellT cell) = TB at *
  rw [hcut] at hf hok hall hl ⊢
  rw [hrot]
  have hsum := sum_gaps (rev := rev) hf
  have hst := rot_start (rev := rev) hf hA hB
  have hrt := rot_times (rev := rev) hf hA hB
  have hN : 0 < (gapsOf (TA ++ TB) rev).length := by rw [gapsOf_length]; exact (List.getElem?_eq_some_iff.1 hf).1
  have hfirst := rot_first hall hN hst
  have hgaps := rot_gaps hall hN hst
  rw [hsum, hrt] at hfirst hgaps
  refine ⟨?_, by simp; omega⟩
  unfold rotVal
  rw [if_pos hok, if_pos (inB_iff.2 ⟨hkb0, by rw [hsum]; omega⟩), rotStart_eq hst, ← hgaps, hfirst]
  rfl
theorem rotK_of (a n : Nat) (h : a < n) : rotK (a : Int) n = a := by
  unfold rotK
  rw [Int.emod_eq_of_lt (by omega) (by omega), Int.toNat_natCast]
/-- What the flux of cells is, if there is one. -/
theorem flx_facts {x : ByteArray} {v : Int} (hc : (fluxOfVal x v).code = 0) : validCells x = true ∧ inB 4 200 v = true ∧ ∃ f, (chg x v x.size)[0]? = some f ∧ (chg x v x.size).length ≤ 4000 ∧ fluxOfVal x v = ⟨v, f, gapsOf (chg x v x.size) ((x.size : Int) * v), 0⟩ := by
  unfold fluxOfVal at hc ⊢
  split at hc
  · rename_i hv
    rw [if_pos hv]
    split at hc
    · cases hc
    · rename_i h0
      rw [if_neg h0]
      split at hc
      · cases hc
      · rename_i h4
        rw [if_neg h4]
        have hf : (chg x v x.size)[0]? = some (chg x v x.size)[0] := List.getElem?_eq_getElem (by omega)
        exact ⟨hv.1, hv.2, _, hf, by omega, by rw [hf]; rfl⟩
  · cases hc
theorem flx_valid {s : ByteArray} {k : Nat} (hk : k ≤ s.size) (h : validCells s = true) : validCells (rotS s k) = true := by
  unfold validCells at h ⊢
  rw [rot_size s k hk, rot_list s k hk]
  rw [Bool.and_eq_true] at h ⊢
  refine ⟨?_, h.2⟩
  have h1 := h.1
  unfold cellsL at h1 ⊢
  rw [List.all_eq_true] at h1 ⊢
  intro c hc
  rw [List.mem_append] at hc
  rcases hc with hc | hc
  · exact h1 c (List.mem_of_mem_drop hc)
  · exact h1 c (List.mem_of_mem_take hc)
/-- Turning cells turns their flux. -/
theorem flx_turn {x : ByteArray} {v f : Int} {k : Nat} (hk : k < x.size) (hv : validCells x = true) (hi : inB 4 200 v = true) (hf : (chg x v x.size)[0]? = some f) (hl : (chg x v x.size).length ≤ 4000) :
    rotVal v f (gapsOf (chg x v x.size) ((x.size : Int) * v)) ((k : Int) * v) = fluxOfVal (rotS x k) v ∧ (fluxOfVal (rotS x k) v).code = 0 ∧ (fluxOfVal (rotS x k) v).gaps.length ≤ 4000 := by
  obtain ⟨b0, b1⟩ := validCells_bd hv
  obtain ⟨c0, c1⟩ := inB_iff.1 hi
  obtain ⟨h1, h2⟩ := flx_rot (by omega) c0 c1 hk hf hl
  have hv2 := flx_valid (k := k) (by omega) hv
  have hz := rot_size x k (by omega)
  have hN := (List.getElem?_eq_some_iff.1 hf).1
  have hE : fluxOfVal (rotS x k) v = ⟨v, (chg (rotS x k) v x.size)[0]?.getD 0, gapsOf (chg (rotS x k) v x.size) ((x.size : Int) * v), 0⟩ := by
    unfold fluxOfVal
    rw [if_pos ⟨hv2, hi⟩, hz, if_neg (by omega), if_neg (by omega)]
  rw [hE]
  exact ⟨h1, rfl, by show (gapsOf _ _).length ≤ 4000; rw [gapsOf_length]; omega⟩
theorem chg_at {s : ByteArray} {cell : Int} {i : Nat} (hi : i < s.size) (hc : s[i].toNat = 49) : (chg s cell s.size)[(chg s cell i).length]? = some ((i : Int) * cell + cell / 2) := by
  rw [chg_cut s cell (i + 1) (by omega), ← chg_ones, chg_one cell hi hc, List.append_assoc, List.getElem?_append_right (Nat.le_refl _), Nat.sub_self]
  rfl
theorem chg_le (s : ByteArray) (cell : Int) {i : Nat} (hi : i ≤ s.size) : (chg s cell i).length ≤ (chg s cell s.size).length := by
  rw [chg_cut s cell i hi, ← chg_ones, List.length_append]; omega
theorem cell_each {y : ByteArray} (h : validCells y = true) (j : Nat) (hj : j < y.size) : y[j].toNat = 48 ∨ y[j].toNat = 49 := by
  unfold validCells at h
  rw [Bool.and_eq_true] at h
  have h1 := h.1
  unfold cellsL at h1
  rw [List.all_eq_true] at h1
  have h2 := h1 y[j] (Array.getElem_mem_toList (xs := y.data) hj)
  unfold isCell at h2
  rw [Bool.or_eq_true, beq_iff_eq, beq_iff_eq, ← UInt8.toNat_inj, ← UInt8.toNat_inj] at h2
  exact h2
end Go.Proofs.YtfedlehibkgjbaaDoor
