/- What is encoded is decoded, and has no faults; two parts one after the other. -/
import Derived.Test.YtffefhgemmjkoaaDecode
import Derived.Test.YtffefhgemmjkoaaDecodeLaw
import Derived.Test.YtffefhgemmjkoaaSpecEncode
import Derived.Test.YtffefhgemmjkoaaClockFaults
import Derived.Test.YtffefhgemmjkoaaRoundDig
import Derived.Test.YtffefhgemmjkoaaLastBit
namespace Go.Proofs.Ytffefhgemmjkoaa
open Go.RowKit
set_option linter.unusedVariables false
theorem encS_at (s : ByteArray) (last mfm : Bool) (m i : Nat) (h : i < m) :
    (encS s last mfm m)[2 * i]? = some (cellB (wantB mfm (lastS s last i) (bitB s i))) ∧ (encS s last mfm m)[2 * i + 1]? = some (cellB (bitB s i)) := by
  induction m with
  | zero => omega
  | succ m ih =>
    have hl := encS_len s last mfm m
    by_cases e : i < m
    · have := ih e
      show (encS s last mfm m ++ [_, _])[2 * i]? = _ ∧ (encS s last mfm m ++ [_, _])[2 * i + 1]? = _
      rw [List.getElem?_append_left (by omega), List.getElem?_append_left (by omega)]
      exact this
    · obtain rfl : i = m := by omega
      show (encS s last mfm i ++ [_, _])[2 * i]? = _ ∧ (encS s last mfm i ++ [_, _])[2 * i + 1]? = _
      rw [List.getElem?_append_right (by omega), List.getElem?_append_right (by omega), hl]
      have e1 : 2 * i - 2 * i = 0 := by omega
      have e2 : 2 * i + 1 - 2 * i = 1 := by omega
      rw [e1, e2]
      exact ⟨rfl, rfl⟩
theorem bytes_at (l : List UInt8) (k : Nat) (x : UInt8) (h : l[k]? = some x) : (⟨l.toArray⟩ : ByteArray)[k]?.getD 0 = x := by
  have hk : k < l.length := (List.getElem?_eq_some_iff.1 h).1
  have h2 : k < (⟨l.toArray⟩ : ByteArray).size := by show k < l.toArray.size; rw [List.size_toArray]; exact hk
  rw [getElem?_pos _ k h2]
  show l.toArray[k] = x
  have := (List.getElem?_eq_some_iff.1 h).2
  simpa using this
theorem cellB_one (b : Bool) : decide ((cellB b).toNat = 49) = b := by cases b <;> rfl
theorem encV_small {s : ByteArray} (last mfm : Bool) (h : s.size ≤ 500) : encV s last mfm = ⟨(encS s last mfm (8 * s.size)).toArray⟩ := by unfold encV; rw [if_pos h]
theorem encV_size {s : ByteArray} (last mfm : Bool) (h : s.size ≤ 500) : (encV s last mfm).size = 16 * s.size := by
  rw [encV_small last mfm h]
  show (encS s last mfm (8 * s.size)).toArray.size = _
  rw [List.size_toArray, encS_len]; omega
theorem enc_one_at {s : ByteArray} (last mfm : Bool) (h : s.size ≤ 500) (i : Nat) (hi : i < 8 * s.size) :
    isOne (encV s last mfm) (2 * i) = wantB mfm (lastS s last i) (bitB s i) ∧ isOne (encV s last mfm) (2 * i + 1) = bitB s i := by
  obtain ⟨h1, h2⟩ := encS_at s last mfm (8 * s.size) i hi
  unfold isOne
  rw [encV_small last mfm h, bytes_at _ _ _ h1, bytes_at _ _ _ h2, cellB_one, cellB_one]
  exact ⟨rfl, rfl⟩
theorem isCell_cellB (b : Bool) : isCell (cellB b) = true := by cases b <;> rfl
theorem encS_cells (s : ByteArray) (last mfm : Bool) (m : Nat) : cellsL (encS s last mfm m) = true := by
  induction m with
  | zero => rfl
  | succ m ih =>
    show cellsL (encS s last mfm m ++ [_, _]) = true
    unfold cellsL at ih ⊢
    rw [List.all_append, ih]
    simp [isCell_cellB]
theorem enc_cellStr {s : ByteArray} (last mfm : Bool) (h : s.size ≤ 500) : cellStr (encV s last mfm) = true := by
  have hz := encV_size last mfm h
  unfold cellStr
  have : decide ((encV s last mfm).size ≤ 8000) = true := by rw [decide_eq_true_eq]; omega
  rw [this, Bool.and_true, encV_small last mfm h]
  exact encS_cells s last mfm _
theorem dd_enc {s : ByteArray} (last mfm : Bool) (h : s.size ≤ 500) (i : Nat) (hi : i < 8 * s.size) : dd (encV s last mfm) i = if bitB s i then 1 else 0 := by
  obtain ⟨_, h2⟩ := encS_at s last mfm (8 * s.size) i hi
  unfold dd
  rw [encV_small last mfm h, bytes_at _ _ _ h2]
  cases bitB s i <;> rfl
theorem dd_bit {s : ByteArray} (last mfm : Bool) (h : s.size ≤ 500) (j t : Nat) (hj : j < s.size) (ht : t < 8) : dd (encV s last mfm) (8 * j + t) = ((s[j].toNat / 2 ^ (7 - t) % 2 : Nat) : Int) := by
  rw [dd_enc last mfm h _ (by omega), bitB_at s j t hj ht]
  generalize s[j].toNat / 2 ^ (7 - t) = x
  by_cases e : x % 2 = 1
  · simp [e]
  · have : x % 2 = 0 := by omega
    simp [this]
theorem acc_enc {s : ByteArray} (last mfm : Bool) (h : s.size ≤ 500) (j : Nat) (hj : j ≤ s.size) : accO 2 8 (dd (encV s last mfm)) (8 * j) = s.data.toList.take j := by
  induction j with
  | zero => rfl
  | succ j ih =>
    rw [accO_eight, ih (by omega), bitV_byte _ _ s[j].toNat s[j].toNat_lt (fun t ht => dd_bit last mfm h j t (by omega) ht), byte_back, take_snocB s j (by omega)]
theorem decV_enc {s : ByteArray} (last mfm : Bool) (h : s.size ≤ 500) : decV (encV s last mfm) = some s.data.toList := by
  have hz := encV_size last mfm h
  unfold decV
  rw [if_pos ⟨enc_cellStr last mfm h, by omega⟩]
  have e : (encV s last mfm).size / 2 = 8 * s.size := by omega
  rw [e, acc_enc last mfm h _ (Nat.le_refl _), take_geB s _ (Nat.le_refl _)]
theorem decT_enc {s : ByteArray} (last mfm : Bool) (h : s.size ≤ 500) : decT (encV s last mfm) = s ∧ decB (encV s last mfm) = true := by
  unfold decT decB
  rw [decV_enc last mfm h]
  exact ⟨by cases s; rfl, rfl⟩
theorem lastR_enc {s : ByteArray} (last mfm : Bool) (h : s.size ≤ 500) (j : Nat) (hj : j ≤ 8 * s.size) : lastR (encV s last mfm) last j = lastS s last j := by
  cases j with
  | zero => rfl
  | succ j =>
    show isOne (encV s last mfm) (2 * j + 1) = bitB s j
    exact (enc_one_at last mfm h j (by omega)).2
theorem faultsR_enc {s : ByteArray} (last mfm : Bool) (h : s.size ≤ 500) (j : Nat) (hj : j ≤ 8 * s.size) : faultsR (encV s last mfm) last mfm j = [] := by
  induction j with
  | zero => rfl
  | succ j ih =>
    obtain ⟨h1, h2⟩ := enc_one_at last mfm h j (by omega)
    rw [faults_step _ _ _ _ _ _ _ (lastR_enc last mfm h j (by omega)) h1 h2, if_pos rfl]
    exact ih (by omega)
theorem faultsV_enc {s : ByteArray} (last mfm : Bool) (h : s.size ≤ 500) : faultsV (encV s last mfm) last mfm = [] := by
  have hz := encV_size last mfm h
  unfold faultsV
  rw [if_pos ⟨enc_cellStr last mfm h, by omega⟩]
  exact faultsR_enc last mfm h _ (by omega)
/-- The bits of two strings one after the other. -/
theorem app_size (a b : ByteArray) : (a ++ b).size = a.size + b.size := by simp
theorem app_left (a b : ByteArray) (i : Nat) (h : i < a.size) : (a ++ b)[i]?.getD 0 = a[i]?.getD 0 := by
  rw [getElem?_pos (a ++ b) i (by rw [app_size]; omega), getElem?_pos a i h]
  show (a ++ b)[i]'(by rw [app_size]; omega) = a[i]
  exact ByteArray.getElem_append_left h
theorem app_right (a b : ByteArray) (i : Nat) (h : i < b.size) : (a ++ b)[a.size + i]?.getD 0 = b[i]?.getD 0 := by
  rw [getElem?_pos (a ++ b) (a.size + i) (by rw [app_size]; omega), getElem?_pos b i h]
  show (a ++ b)[a.size + i]'(by rw [app_size]; omega) = b[i]
  rw [ByteArray.getElem_append_right (by omega)]
  simp
theorem bitB_left (a b : ByteArray) (m : Nat) (h : m < 8 * a.size) : bitB (a ++ b) m = bitB a m := by
  unfold bitB; rw [app_left a b (m / 8) (by omega)]
theorem bitB_right (a b : ByteArray) (m : Nat) (h : m < 8 * b.size) : bitB (a ++ b) (8 * a.size + m) = bitB b m := by
  have e1 : (8 * a.size + m) / 8 = a.size + m / 8 := by omega
  have e2 : (8 * a.size + m) % 8 = m % 8 := by omega
  unfold bitB; rw [e1, e2, app_right a b (m / 8) (by omega)]
theorem encS_left (a b : ByteArray) (last mfm : Bool) (m : Nat) (h : m ≤ 8 * a.size) : encS (a ++ b) last mfm m = encS a last mfm m ∧ lastS (a ++ b) last m = lastS a last m := by
  induction m with
  | zero => exact ⟨rfl, rfl⟩
  | succ m ih =>
    obtain ⟨h1, h2⟩ := ih (by omega)
    have hb := bitB_left a b m (by omega)
    refine ⟨?_, hb⟩
    show encS (a ++ b) last mfm m ++ [cellB (wantB mfm (lastS (a ++ b) last m) (bitB (a ++ b) m)), cellB (bitB (a ++ b) m)] = _
    rw [h1, h2, hb]; rfl
theorem encS_right (a b : ByteArray) (last mfm : Bool) (m : Nat) (h : m ≤ 8 * b.size) :
    encS (a ++ b) last mfm (8 * a.size + m) = encS a last mfm (8 * a.size) ++ encS b (lastS a last (8 * a.size)) mfm m ∧ lastS (a ++ b) last (8 * a.size + m) = lastS b (lastS a last (8 * a.size)) m := by
  induction m with
  | zero =>
    obtain ⟨h1, h2⟩ := encS_left a b last mfm (8 * a.size) (Nat.le_refl _)
    exact ⟨by rw [Nat.add_zero, h1]; simp [encS], by rw [Nat.add_zero, h2]; rfl⟩
  | succ m ih =>
    obtain ⟨h1, h2⟩ := ih (by omega)
    have hb := bitB_right a b m (by omega)
    refine ⟨?_, hb⟩
    show encS (a ++ b) last mfm (8 * a.size + m) ++ [cellB (wantB mfm (lastS (a ++ b) last (8 * a.size + m)) (bitB (a ++ b) (8 * a.size + m))), cellB (bitB (a ++ b) (8 * a.size + m))] = _
    rw [h1, h2, hb, List.append_assoc]; rfl
theorem bytes_app (l r : List UInt8) : (⟨(l ++ r).toArray⟩ : ByteArray) = ⟨l.toArray⟩ ++ ⟨r.toArray⟩ := by
  apply ByteArray.ext
  simp
theorem encV_app (a b : ByteArray) (last mfm : Bool) (h : a.size + b.size ≤ 500) : encV (a ++ b) last mfm = encV a last mfm ++ encV b (lastS a last (8 * a.size)) mfm := by
  have e8 : 8 * (a ++ b).size = 8 * a.size + 8 * b.size := by rw [app_size]; omega
  rw [encV_small last mfm (by rw [app_size]; exact h), e8, (encS_right a b last mfm (8 * b.size) (Nat.le_refl _)).1, bytes_app, encV_small last mfm (by omega), encV_small _ mfm (by omega)]
theorem lastS_end (a : ByteArray) (last : Bool) : lastS a last (8 * a.size) = if a.size = 0 then last else lastB a := by
  by_cases h : a.size = 0
  · rw [if_pos h, h]; rfl
  · rw [if_neg h]
    obtain ⟨n, hn⟩ : ∃ n, a.size = n + 1 := ⟨a.size - 1, by omega⟩
    have := (encS_byte a last true n (by omega)).2
    rw [hn, this]
    unfold lastB
    rw [dif_pos (by omega)]
    simp only [hn, Nat.add_sub_cancel]
end Go.Proofs.Ytffefhgemmjkoaa
