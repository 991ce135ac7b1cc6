/- Syncs of a circular track: plain facts. -/
import Derived.Test.YtdpnpmfhnfecaaaArcOf
import Derived.Test.YtdpnpmfhnfecaaaRotateCells
import Derived.Test.YtdpnpmfhnfecaaaRecCellRun
import Derived.Lib.Bytealg
namespace Go.Proofs.Ytdpnpmfhnfecaaa
open Go.RowKit
set_option linter.unusedVariables false
/-- How many cells 1 follow from a place on, at most k. -/
def runL (s : ByteArray) : Nat → Nat → Nat
  | _, 0 => 0
  | at_, k + 1 => if cycB s at_ = 49 then runL s (at_ + 1) k + 1 else 0
def runLen (s : ByteArray) (at_ : Nat) : Nat := runL s at_ s.size
def IsRun (s : ByteArray) (n at_ c : Nat) : Prop := c ≤ n ∧ (∀ j, j < c → cycB s (at_ + j) = 49) ∧ (c = n ∨ cycB s (at_ + c) ≠ 49)
theorem runL_is (s : ByteArray) : ∀ n at_, IsRun s n at_ (runL s at_ n)
  | 0, at_ => ⟨Nat.le_refl _, fun j h => absurd h (by simp [runL]), .inl rfl⟩
  | n + 1, at_ => by
    unfold runL
    by_cases h : cycB s at_ = 49
    · rw [if_pos h]
      obtain ⟨h1, h2, h3⟩ := runL_is s n (at_ + 1)
      refine ⟨by omega, fun j hj => ?_, ?_⟩
      · cases j with
        | zero => exact h
        | succ j => have := h2 j (by omega); rwa [Nat.add_assoc, Nat.add_comm 1 j] at this
      · rcases h3 with h3 | h3
        · left; omega
        · right; rwa [Nat.add_assoc, Nat.add_comm 1] at h3
    · rw [if_neg h]
      exact ⟨Nat.zero_le _, fun j hj => absurd hj (by omega), .inr h⟩
theorem IsRun.unique {s : ByteArray} {n at_ c d : Nat} (h : IsRun s n at_ c) (k : IsRun s n at_ d) : c = d := by
  obtain ⟨h1, h2, h3⟩ := h
  obtain ⟨k1, k2, k3⟩ := k
  rcases Nat.lt_trichotomy c d with e | e | e
  · rcases h3 with h3 | h3
    · omega
    · exact absurd (k2 c e) h3
  · exact e
  · rcases k3 with k3 | k3
    · omega
    · exact absurd (h2 d e) k3
theorem runLen_of {s : ByteArray} {at_ c : Nat} (h : IsRun s s.size at_ c) : runLen s at_ = c := (runL_is s s.size at_).unique h
theorem runLen_le (s : ByteArray) (at_ : Nat) : runLen s at_ ≤ s.size := (runL_is s s.size at_).1
def begB (s : ByteArray) (k : Nat) : Bool := decide (cycB s k = 49) && decide (cycB s (k + s.size - 1) ≠ 49)
def syncs (s : ByteArray) : Nat → List CellRunV
  | 0 => []
  | k + 1 => if begB s k = true ∧ 10 ≤ runLen s k then syncs s k ++ [⟨(k : Int), (runLen s k : Int)⟩] else syncs s k
theorem syncs_yes {s : ByteArray} {k : Nat} (h : begB s k = true) (h2 : 10 ≤ runLen s k) : syncs s (k + 1) = syncs s k ++ [⟨(k : Int), (runLen s k : Int)⟩] := by rw [syncs, if_pos ⟨h, h2⟩]
theorem syncs_no {s : ByteArray} {k : Nat} (h : ¬ (begB s k = true ∧ 10 ≤ runLen s k)) : syncs s (k + 1) = syncs s k := by rw [syncs, if_neg h]
theorem syncs_len (s : ByteArray) : ∀ k, (syncs s k).length ≤ k
  | 0 => Nat.le_refl _
  | k + 1 => by
    have := syncs_len s k
    unfold syncs
    split
    · simp; omega
    · omega
def allOnes (s : ByteArray) : Bool := s.data.toList.all fun b => decide (b = 49)
def syncV (s : ByteArray) : List CellRunV := if validCells s = true then (if allOnes s = true ∧ 10 ≤ s.size then [⟨0, (s.size : Int)⟩] else syncs s s.size) else []
theorem syncV_len (s : ByteArray) : (syncV s).length ≤ 1048576 := by
  unfold syncV
  split
  · next h =>
    split
    · simp
    · have := syncs_len s s.size
      have := (validCells_bd h).2
      omega
  · simp
theorem cyc_cell {s : ByteArray} (h : validCells s = true) (k : Nat) : cycB s k = 48 ∨ cycB s k = 49 := by
  obtain ⟨h0, _⟩ := validCells_bd h
  unfold validCells at h
  simp only [Bool.and_eq_true] at h
  have h5 := h.1
  unfold cellsL at h5
  rw [List.all_eq_true] at h5
  have hq := Nat.mod_lt k h0
  have := h5 _ (List.mem_of_getElem? (cyc_toList s k h0))
  have h2 := (isCell_iff _).1 this
  rcases h2 with h2 | h2
  · left; exact UInt8.toNat_inj.1 (by rw [h2]; rfl)
  · right; exact UInt8.toNat_inj.1 (by rw [h2]; rfl)
theorem ones_cyc {s : ByteArray} (h0 : 0 < s.size) (h : allOnes s = true) (k : Nat) : cycB s k = 49 := by
  unfold allOnes at h
  rw [List.all_eq_true] at h
  have := h _ (List.mem_of_getElem? (cyc_toList s k h0))
  simpa using this
theorem ones_syncs {s : ByteArray} (h0 : 0 < s.size) (h : allOnes s = true) : ∀ k, syncs s k = []
  | 0 => rfl
  | k + 1 => by
    rw [syncs_no, ones_syncs h0 h k]
    rintro ⟨h1, _⟩
    unfold begB at h1
    rw [ones_cyc h0 h (k + s.size - 1)] at h1
    simp at h1
theorem indexByte_at : ∀ (l : List UInt8) (c : UInt8) (k : Nat), l[k]? = some c → (∀ j, j < k → l[j]? ≠ some c) → Lib.indexByte l c = (k : Int)
  | [], c, k, h, _ => by simp at h
  | x :: t, c, 0, h, _ => by
    simp at h
    subst h
    simp [Lib.indexByte]
  | x :: t, c, k + 1, h, hn => by
    have hx : ¬ x = c := fun e => hn 0 (by omega) (by simp [e])
    have ih := indexByte_at t c k (by simpa using h) (fun j hj => by have := hn (j + 1) (by omega); simpa using this)
    have hx2 : (x == c) = false := by simpa using hx
    simp [Lib.indexByte, hx2, ih]
    try omega
theorem indexByte_none : ∀ (l : List UInt8) (c : UInt8), (∀ b ∈ l, b ≠ c) → Lib.indexByte l c = -1
  | [], c, _ => by simp [Lib.indexByte]
  | x :: t, c, h => by
    have hx : (x == c) = false := by simpa using h x (by simp)
    have ih := indexByte_none t c (fun b hb => h b (by simp [hb]))
    simp [Lib.indexByte, hx, ih]
theorem dbl_get (s : ByteArray) (k : Nat) (h : k < s.size + s.size) : (s ++ s).data.toList[k]? = some (cycB s k) := by
  have hl : s.data.toList.length = s.size := by simp
  rw [ByteArray.data_append, Array.toList_append, ← cyc_toList s k (by omega)]
  by_cases hk : k < s.size
  · rw [List.getElem?_append_left (by omega), Nat.mod_eq_of_lt hk]
  · rw [List.getElem?_append_right (by omega), hl]
    congr 1
    rw [Nat.mod_eq_sub_mod (by omega), Nat.mod_eq_of_lt (by omega)]
/-- The index of the first 0 from a place on, where the cell before it is 0. -/
theorem index_run {s : ByteArray} (h : validCells s = true) {k : Nat} (hk : k < s.size) (hb : cycB s (k + s.size - 1) = 48) : Lib.indexByte ((s ++ s).extract k (s ++ s).size).data.toList 48 = (runLen s k : Int) := by
  obtain ⟨h0, _⟩ := validCells_bd h
  obtain ⟨r1, r2, r3⟩ := runL_is s s.size k
  have hlt : runLen s k < s.size := by
    rcases Nat.lt_or_ge (runLen s k) s.size with e | e
    · exact e
    · have := r2 (s.size - 1) (by show _ < runLen s k; omega)
      rw [show k + (s.size - 1) = k + s.size - 1 by omega, hb] at this
      exact absurd this (by decide)
  have hz : (s ++ s).size = s.size + s.size := by simp
  have hd : ∀ j, k + j < s.size + s.size → ((s ++ s).extract k (s ++ s).size).data.toList[j]? = some (cycB s (k + j)) := by
    intro j hj
    rw [ByteArray.data_extract, Array.toList_extract, List.extract_eq_take_drop, List.getElem?_take_of_lt (by omega), List.getElem?_drop]
    exact dbl_get s (k + j) hj
  refine indexByte_at _ _ _ ?_ ?_
  · rw [hd (runLen s k) (by omega)]
    congr 1
    rcases r3 with r3 | r3
    · exact absurd r3 (by show runLen s k ≠ _; omega)
    · rcases cyc_cell h (k + runLen s k) with e | e
      · exact e
      · exact absurd e r3
  · intro j hj
    rw [hd j (by omega), r2 j hj]
    decide
theorem no_zero {s : ByteArray} (h : validCells s = true) : decide (0 ≤ Lib.indexByte s.data.toList 48) = !(allOnes s) := by
  unfold validCells at h
  simp only [Bool.and_eq_true] at h
  have h5 := h.1
  unfold cellsL at h5
  rw [List.all_eq_true] at h5
  cases ha : allOnes s with
  | true =>
    unfold allOnes at ha
    rw [List.all_eq_true] at ha
    rw [indexByte_none _ _ (fun b hb => by have := ha b hb; simp at this; subst this; decide)]
    rfl
  | false =>
    unfold allOnes at ha
    rw [List.all_eq_false] at ha
    obtain ⟨b, hb, hb2⟩ := ha
    have h48 : b = 48 := by
      have := (isCell_iff _).1 (h5 b hb)
      rcases this with e | e
      · exact UInt8.toNat_inj.1 (by rw [e]; rfl)
      · exact absurd (UInt8.toNat_inj.1 (by rw [e]; rfl) : b = 49) (by simpa using hb2)
    subst h48
    have : ∀ l : List UInt8, (48 : UInt8) ∈ l → 0 ≤ Lib.indexByte l 48 := by
      intro l
      induction l with
      | nil => intro h; cases h
      | cons x t ih =>
        intro hm
        by_cases e : x = 48
        · subst e; simp [Lib.indexByte]
        · have hx : (x == 48) = false := by simpa using e
          have := ih (by rcases List.mem_cons.1 hm with h | h; exact absurd h.symm e; exact h)
          simp [Lib.indexByte, hx]
          split <;> omega
    simpa using this _ hb
theorem begB_iff {s : ByteArray} (h : validCells s = true) (k : Nat) : begB s k = (decide (cycB s k = 49) && decide (cycB s (k + s.size - 1) = 48)) := by
  unfold begB
  rcases cyc_cell h (k + s.size - 1) with e | e <;> rw [e] <;> simp
end Go.Proofs.Ytdpnpmfhnfecaaa
