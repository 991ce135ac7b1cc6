/- What is encoded in groups is decoded, has no faults, at most 8 ones in a row and changes at most 3 cells apart. -/
import Derived.Test.YtffefhgemmjkoaaDoorDecGcrLaw
import Derived.Test.YtffefhgemmjkoaaDoorEncodeGcr
import Derived.Test.YtffefhgemmjkoaaDoorRunsOf
import Derived.Test.YtffefhgemmjkoaaDoorLongestOnes
namespace Go.Proofs.YtffefhgemmjkoaaDoor
open Go.RowKit
set_option maxRecDepth 20000
set_option linter.unusedVariables false
/-- Half byte m. -/
def nibG (s : ByteArray) (m : Nat) : Nat := if m % 2 = 0 then (s[m / 2]?.getD 0).toNat / 16 else (s[m / 2]?.getD 0).toNat % 16
theorem nibG_lt (s : ByteArray) (m : Nat) : nibG s m < 16 := by
  have := (s[m / 2]?.getD 0).toNat_lt
  unfold nibG
  split <;> omega
def eG (s : ByteArray) : Nat → List UInt8
  | 0 => []
  | m + 1 => eG s m ++ grpT (gcrN (nibG s m))
theorem eG_len (s : ByteArray) (m : Nat) : (eG s m).length = 5 * m := by
  induction m with
  | zero => rfl
  | succ m ih => unfold eG; rw [List.length_append, ih, grpT_len]; omega
theorem eG_two (s : ByteArray) (n : Nat) : eG s (2 * n) = encGL s n := by
  induction n with
  | zero => rfl
  | succ n ih =>
    show eG s (2 * n) ++ grpT (gcrN (nibG s (2 * n))) ++ grpT (gcrN (nibG s (2 * n + 1))) = _
    rw [ih]
    have e0 : nibG s (2 * n) = (s[n]?.getD 0).toNat / 16 := by unfold nibG; rw [if_pos (by omega), show 2 * n / 2 = n by omega]
    have e1 : nibG s (2 * n + 1) = (s[n]?.getD 0).toNat % 16 := by unfold nibG; rw [if_neg (by omega), show (2 * n + 1) / 2 = n by omega]
    rw [e0, e1]
    rfl
def atG (x j : Nat) : UInt8 := (grpT x)[j]?.getD 0
theorem eG_at (s : ByteArray) (m i : Nat) (h : i < m) (j : Nat) (hj : j < 5) : (eG s m)[5 * i + j]?.getD 0 = atG (gcrN (nibG s i)) j := by
  induction m with
  | zero => omega
  | succ m ih =>
    have hl := eG_len s m
    show (eG s m ++ grpT (gcrN (nibG s m)))[5 * i + j]?.getD 0 = _
    by_cases e : i < m
    · rw [List.getElem?_append_left (by omega)]
      exact ih e
    · obtain rfl : i = m := by omega
      rw [List.getElem?_append_right (by omega), hl, show 5 * i + j - 5 * i = j by omega]
      rfl
theorem bytes_atG (l : List UInt8) (k : Nat) : (⟨l.toArray⟩ : ByteArray)[k]?.getD 0 = l[k]?.getD 0 := by
  by_cases hk : k < l.length
  · have h2 : k < (⟨l.toArray⟩ : ByteArray).size := by show k < l.toArray.size; rw [List.size_toArray]; exact hk
    rw [getElem?_pos _ k h2, List.getElem?_eq_getElem hk]
    rfl
  · have h2 : ¬ k < (⟨l.toArray⟩ : ByteArray).size := by show ¬ k < l.toArray.size; rw [List.size_toArray]; exact hk
    rw [getElem?_neg _ k h2, List.getElem?_eq_none (by omega)]
theorem encGT_eq {s : ByteArray} (h : s.size ≤ 800) : encGT s = ⟨(eG s (2 * s.size)).toArray⟩ := by unfold encGT; rw [if_pos h, eG_two]
theorem encGT_size {s : ByteArray} (h : s.size ≤ 800) : (encGT s).size = 10 * s.size := by
  rw [encGT_eq h]
  show (eG s (2 * s.size)).toArray.size = _
  rw [List.size_toArray, eG_len]; omega
theorem encGT_at {s : ByteArray} (h : s.size ≤ 800) (i : Nat) (hi : i < 2 * s.size) (j : Nat) (hj : j < 5) : (encGT s)[5 * i + j]?.getD 0 = atG (gcrN (nibG s i)) j := by
  rw [encGT_eq h, bytes_atG]
  exact eG_at s _ i hi j hj
theorem sub_enc {s : ByteArray} (h : s.size ≤ 800) (i : Nat) (hi : i < 2 * s.size) : subS (encGT s) i = grpS (gcrN (nibG s i)) := by
  have hz := encGT_size h
  have hk5 : 5 * i + 5 ≤ (encGT s).size := by omega
  have hs := subS_size (encGT s) i hk5
  apply ByteArray.ext
  apply Array.ext
  · show (subS (encGT s) i).size = 5; exact hs
  · intro j h1 h2
    have hj : j < 5 := by have : j < (subS (encGT s) i).size := h1; omega
    have e0 := subS_at (encGT s) i j hj hk5
    have e1 := encGT_at h i hi j hj
    rw [getD_at (encGT s) (5 * i + j) (by omega)] at e1
    show (subS (encGT s) i)[j] = _
    rw [e0, e1]
    show (grpT (gcrN (nibG s i)))[j]?.getD 0 = (grpT (gcrN (nibG s i))).toArray[j]
    rw [List.getElem?_eq_getElem (by rw [grpT_len]; exact hj)]
    rfl
theorem valN_code : ∀ k, k < 16 → valN (gcrN k) = (k : Int) := by decide +kernel
theorem gd_enc {s : ByteArray} (h : s.size ≤ 800) (i : Nat) (hi : i < 2 * s.size) : gd (encGT s) i = (nibG s i : Int) := by
  have hn := nibG_lt s i
  obtain ⟨o1, o2⟩ := grpS_ok _ hn
  unfold gd
  rw [sub_enc h i hi]
  unfold gcrVV
  rw [if_pos o1, o2, Int.toNat_natCast]
  exact valN_code _ hn
theorem grpT_cells : ∀ k, k < 16 → cellsL (grpT (gcrN k)) = true := by decide +kernel
theorem eG_cells (s : ByteArray) (m : Nat) : cellsL (eG s m) = true := by
  induction m with
  | zero => rfl
  | succ m ih =>
    unfold eG cellsL
    rw [List.all_append]
    have := grpT_cells _ (nibG_lt s m)
    unfold cellsL at ih this
    rw [ih, this]; rfl
theorem cell_enc {s : ByteArray} (h : s.size ≤ 800) : cellStr (encGT s) = true := by
  have hz := encGT_size h
  unfold cellStr
  have : decide ((encGT s).size ≤ 8000) = true := by simp; omega
  rw [this, Bool.and_true, encGT_eq h]
  exact eG_cells s _
theorem gdOk_enc {s : ByteArray} (h : s.size ≤ 800) : gdOk (encGT s) (2 * s.size) = true := by
  unfold gdOk
  rw [List.all_eq_true]
  intro j hj
  rw [gd_enc h j (List.mem_range.1 hj)]
  simp
theorem acc_enc {s : ByteArray} (h : s.size ≤ 800) (n : Nat) (hn : n ≤ s.size) : accO 16 2 (gd (encGT s)) (2 * n) = s.data.toList.take n := by
  induction n with
  | zero => rfl
  | succ n ih =>
    have g0 := gd_enc h (2 * n) (by omega)
    have g1 := gd_enc h (2 * n + 1) (by omega)
    have l0 := nibG_lt s (2 * n)
    have l1 := nibG_lt s (2 * n + 1)
    have hb := s[n].toNat_lt
    have ha := accV_two (gd (encGT s)) (2 * n) (by omega) (by omega) (by omega) (by omega)
    have en : s[n]?.getD 0 = s[n] := getD_at s n (by omega)
    have e0 : nibG s (2 * n) = s[n].toNat / 16 := by unfold nibG; rw [if_pos (by omega), show 2 * n / 2 = n by omega, en]
    have e1 : nibG s (2 * n + 1) = s[n].toNat % 16 := by unfold nibG; rw [if_neg (by omega), show (2 * n + 1) / 2 = n by omega, en]
    rw [accO_two, ih (by omega), ha, g0, g1, e0, e1, take_snocB s n (by omega)]
    have e : (16 * ((s[n].toNat / 16 : Nat) : Int) + ((s[n].toNat % 16 : Nat) : Int)) = (s[n].toNat : Int) := by omega
    rw [e, byte_back]
theorem dgV_enc {s : ByteArray} (h : s.size ≤ 800) : dgV (encGT s) = some s.data.toList := by
  have hz := encGT_size h
  unfold dgV
  rw [if_pos ⟨cell_enc h, by omega⟩, show (encGT s).size / 5 = 2 * s.size by omega, if_pos (gdOk_enc h), acc_enc h _ (Nat.le_refl _)]
  congr 1
  exact List.take_of_length_le (by show s.data.toList.length ≤ s.data.size; simp)
theorem dgT_enc {s : ByteArray} (h : s.size ≤ 800) : dgT (encGT s) = s := by unfold dgT; rw [dgV_enc h]
theorem dgB_enc {s : ByteArray} (h : s.size ≤ 800) : dgB (encGT s) = true := by unfold dgB; rw [dgV_enc h]; rfl
theorem gfV_enc {s : ByteArray} (h : s.size ≤ 800) : gfV (encGT s) = [] := by
  have hz := encGT_size h
  have key : ∀ m, m ≤ 2 * s.size → gfR (encGT s) m = [] := by
    intro m
    induction m with
    | zero => intro _; rfl
    | succ m ih =>
      intro hm
      have g := gd_enc h m (by omega)
      unfold gd at g
      unfold gfR
      rw [if_neg (by omega)]
      exact ih (by omega)
  rw [gfV_yes (cell_enc h) (by omega)]
  exact key _ (by omega)
/- Ones in a row. -/
def stO (c : UInt8) (p : Int × Int) : Int × Int := (if c.toNat = 49 then p.1 + 1 else 0, max p.2 (if c.toNat = 49 then p.1 + 1 else 0))
def fiveO (x : Nat) (p : Int × Int) : Int × Int := stO (atG x 4) (stO (atG x 3) (stO (atG x 2) (stO (atG x 1) (stO (atG x 0) p))))
theorem ones_step (s : ByteArray) (k : Nat) : (onesR s (k + 1), onesL s (k + 1)) = stO (s[k]?.getD 0) (onesR s k, onesL s k) := rfl
theorem fiveO_ok : ∀ k, k < 16 → ∀ r : Nat, r < 5 → ∀ L : Nat, L < 9 → 0 ≤ (fiveO (gcrN k) (r, L)).1 ∧ (fiveO (gcrN k) (r, L)).1 < 5 ∧ 0 ≤ (fiveO (gcrN k) (r, L)).2 ∧ (fiveO (gcrN k) (r, L)).2 < 9 := by decide +kernel
theorem ones_five {s : ByteArray} (h : s.size ≤ 800) (i : Nat) (hi : i < 2 * s.size) : (onesR (encGT s) (5 * i + 5), onesL (encGT s) (5 * i + 5)) = fiveO (gcrN (nibG s i)) (onesR (encGT s) (5 * i), onesL (encGT s) (5 * i)) := by
  have a0 := encGT_at h i hi 0 (by omega)
  have a1 := encGT_at h i hi 1 (by omega)
  have a2 := encGT_at h i hi 2 (by omega)
  have a3 := encGT_at h i hi 3 (by omega)
  have a4 := encGT_at h i hi 4 (by omega)
  rw [ones_step _ (5 * i + 4), ones_step _ (5 * i + 3), ones_step _ (5 * i + 2), ones_step _ (5 * i + 1), ones_step _ (5 * i), a4, a3, a2, a1]
  rw [Nat.add_zero] at a0
  rw [a0]
  rfl
theorem ones_inv {s : ByteArray} (h : s.size ≤ 800) (m : Nat) (hm : m ≤ 2 * s.size) : 0 ≤ onesR (encGT s) (5 * m) ∧ onesR (encGT s) (5 * m) < 5 ∧ 0 ≤ onesL (encGT s) (5 * m) ∧ onesL (encGT s) (5 * m) < 9 := by
  induction m with
  | zero => simp [onesR, onesL]
  | succ m ih =>
    obtain ⟨i1, i2, i3, i4⟩ := ih (by omega)
    have hf := ones_five h m (by omega)
    obtain ⟨r, hr⟩ : ∃ r : Nat, onesR (encGT s) (5 * m) = r := ⟨(onesR (encGT s) (5 * m)).toNat, by omega⟩
    obtain ⟨L, hL⟩ : ∃ L : Nat, onesL (encGT s) (5 * m) = L := ⟨(onesL (encGT s) (5 * m)).toNat, by omega⟩
    rw [hr] at i1 i2 hf
    rw [hL] at i3 i4 hf
    have hk := fiveO_ok _ (nibG_lt s m) r (by omega) L (by omega)
    rw [← hf] at hk
    exact hk
theorem onesV_enc {s : ByteArray} (h : s.size ≤ 800) : onesV (encGT s) ≤ 8 := by
  have hz := encGT_size h
  unfold onesV
  rw [if_pos (cell_enc h), show (encGT s).size = 5 * (2 * s.size) by omega]
  have := ones_inv h (2 * s.size) (Nat.le_refl _)
  omega
/- Distances. -/
def stR (c : UInt8) (p : Nat × Bool) : Nat × Bool := if c.toNat = 49 then (1, p.2 && (decide (p.1 = 0) || decide (p.1 ≤ 3))) else (if p.1 = 0 then 0 else p.1 + 1, p.2)
def fiveR (x : Nat) (p : Nat × Bool) : Nat × Bool := stR (atG x 4) (stR (atG x 3) (stR (atG x 2) (stR (atG x 1) (stR (atG x 0) p))))
def relR (s : ByteArray) (k : Nat) : Nat := if befR s k < 0 then 0 else ((k : Int) - befR s k).toNat
def okR (s : ByteArray) (k : Nat) : Bool := (runsR s k).all fun r => decide (r ≤ 3)
theorem runs_stepR (s : ByteArray) (k : Nat) : (relR s (k + 1), okR s (k + 1)) = stR (s[k]?.getD 0) (relR s k, okR s k) := by
  have hb := befR_bd s k
  by_cases h : (s[k]?.getD 0).toNat = 49
  · have e1 : befR s (k + 1) = k := by show (if (s[k]?.getD 0).toNat = 49 then _ else _) = _; rw [if_pos h]
    have r1 : relR s (k + 1) = 1 := by unfold relR; rw [e1, if_neg (by omega)]; omega
    unfold stR
    rw [if_pos h, r1]
    congr 1
    by_cases h0 : 0 ≤ befR s k
    · have e2 : runsR s (k + 1) = runsR s k ++ [(k : Int) - befR s k] := by show (if (s[k]?.getD 0).toNat = 49 ∧ 0 ≤ befR s k then _ else _) = _; rw [if_pos ⟨h, h0⟩]
      have r2 : relR s k = ((k : Int) - befR s k).toNat := by unfold relR; rw [if_neg (by omega)]
      unfold okR
      rw [e2, List.all_append, r2]
      congr 1
      simp only [List.all_cons, List.all_nil, Bool.and_true]
      rw [Bool.eq_iff_iff]
      simp only [Bool.or_eq_true, decide_eq_true_eq]
      omega
    · have e2 : runsR s (k + 1) = runsR s k := by show (if (s[k]?.getD 0).toNat = 49 ∧ 0 ≤ befR s k then _ else _) = _; rw [if_neg (fun h => h0 h.2)]
      have r2 : relR s k = 0 := by unfold relR; rw [if_pos (by omega)]
      unfold okR
      rw [e2, r2]
      simp
  · have e1 : befR s (k + 1) = befR s k := by show (if (s[k]?.getD 0).toNat = 49 then _ else _) = _; rw [if_neg h]
    have e2 : runsR s (k + 1) = runsR s k := by show (if (s[k]?.getD 0).toNat = 49 ∧ 0 ≤ befR s k then _ else _) = _; rw [if_neg (fun h2 => h h2.1)]
    unfold stR
    rw [if_neg h]
    unfold okR
    rw [e2]
    congr 1
    unfold relR
    rw [e1]
    by_cases h0 : befR s k < 0
    · rw [if_pos h0, if_pos h0, if_pos rfl]
    · rw [if_neg h0, if_neg h0, if_neg (by omega)]; omega
theorem fiveR_ok : ∀ k, k < 16 → ∀ r : Nat, r < 3 → (fiveR (gcrN k) (r, true)).1 < 3 ∧ (fiveR (gcrN k) (r, true)).2 = true := by decide +kernel
theorem runs_five {s : ByteArray} (h : s.size ≤ 800) (i : Nat) (hi : i < 2 * s.size) : (relR (encGT s) (5 * i + 5), okR (encGT s) (5 * i + 5)) = fiveR (gcrN (nibG s i)) (relR (encGT s) (5 * i), okR (encGT s) (5 * i)) := by
  have a0 := encGT_at h i hi 0 (by omega)
  have a1 := encGT_at h i hi 1 (by omega)
  have a2 := encGT_at h i hi 2 (by omega)
  have a3 := encGT_at h i hi 3 (by omega)
  have a4 := encGT_at h i hi 4 (by omega)
  rw [runs_stepR _ (5 * i + 4), runs_stepR _ (5 * i + 3), runs_stepR _ (5 * i + 2), runs_stepR _ (5 * i + 1), runs_stepR _ (5 * i), a4, a3, a2, a1]
  rw [Nat.add_zero] at a0
  rw [a0]
  rfl
theorem runs_inv {s : ByteArray} (h : s.size ≤ 800) (m : Nat) (hm : m ≤ 2 * s.size) : relR (encGT s) (5 * m) < 3 ∧ okR (encGT s) (5 * m) = true := by
  induction m with
  | zero => exact ⟨by simp [relR, befR], rfl⟩
  | succ m ih =>
    obtain ⟨i1, i2⟩ := ih (by omega)
    have hf := runs_five h m (by omega)
    rw [i2] at hf
    have hk := fiveR_ok _ (nibG_lt s m) _ i1
    rw [← hf] at hk
    exact hk
theorem runsV_enc {s : ByteArray} (h : s.size ≤ 800) : ∀ r ∈ runsV (encGT s), r ≤ 3 := by
  have hz := encGT_size h
  have := (runs_inv h (2 * s.size) (Nat.le_refl _)).2
  unfold runsV
  rw [if_pos (cell_enc h), show (encGT s).size = 5 * (2 * s.size) by omega]
  intro r hr
  unfold okR at this
  rw [List.all_eq_true] at this
  simpa using this r hr
end Go.Proofs.YtffefhgemmjkoaaDoor
