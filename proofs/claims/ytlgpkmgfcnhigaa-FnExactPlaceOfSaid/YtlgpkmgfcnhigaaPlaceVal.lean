/- Where a part occurs in a string: plain facts. -/
import Derived.Test.YtlgpkmgfcnhigaaBase
import Derived.Lib.Index
namespace Go.Proofs.Ytlgpkmgfcnhigaa
open Go.RowKit
set_option linter.unusedVariables false
theorem plc_least (P : Nat → Bool) : ∀ n, (∃ i, i < n ∧ P i = true) → ∃ i, i < n ∧ P i = true ∧ ∀ j, j < i → P j = false
  | 0, ⟨i, h, _⟩ => by omega
  | n + 1, ⟨i, h, hp⟩ => by
    by_cases hx : ∃ i, i < n ∧ P i = true
    · obtain ⟨k, h1, h2, h3⟩ := plc_least P n hx
      exact ⟨k, by omega, h2, h3⟩
    · obtain rfl : i = n := by
        by_cases he : i = n
        · exact he
        · exact absurd ⟨i, by omega, hp⟩ hx
      refine ⟨i, h, hp, ?_⟩
      intro j hj
      cases hb : P j with
      | false => rfl
      | true => exact absurd ⟨j, hj, hb⟩ hx
theorem plc_cases (l q : List UInt8) : (Lib.index l q = -1 ∧ ∀ j, j ≤ l.length → Lib.occAt l q j = false) ∨ ∃ i, i ≤ l.length ∧ Lib.index l q = (i : Int) ∧ Lib.occAt l q i = true ∧ ∀ j, j < i → Lib.occAt l q j = false := by
  by_cases h : ∃ i, i < l.length + 1 ∧ Lib.occAt l q i = true
  · obtain ⟨i, h1, h2, h3⟩ := plc_least (Lib.occAt l q) _ h
    exact .inr ⟨i, by omega, Lib.index_first (by omega) h2 h3, h2, h3⟩
  · have hn : ∀ j, j ≤ l.length → Lib.occAt l q j = false := by
      intro j hj
      cases hb : Lib.occAt l q j with
      | false => rfl
      | true => exact absurd ⟨j, by omega, hb⟩ h
    exact .inl ⟨Lib.index_none hn, hn⟩
theorem plc_drop (l q : List UInt8) (f j : Nat) : Lib.occAt (l.drop f) q j = Lib.occAt l q (f + j) := by
  unfold Lib.occAt
  rw [List.drop_drop]
/-- Does the part occur at this place? -/
def occB (s p : ByteArray) (i : Nat) : Bool := Lib.occAt s.data.toList p.data.toList i
/-- The first place from f on, or -1. -/
def placeV (s p : ByteArray) (f : Int) : Int := if f < 0 ∨ (s.size : Int) < f then -1 else if Lib.index (s.data.toList.drop f.toNat) p.data.toList < 0 then -1 else f + Lib.index (s.data.toList.drop f.toNat) p.data.toList
theorem placeV_out {s p : ByteArray} {f : Int} (h : f < 0 ∨ (s.size : Int) < f) : placeV s p f = -1 := by unfold placeV; rw [if_pos h]
theorem placeV_no {s p : ByteArray} {k : Nat} (h : Lib.index (s.data.toList.drop k) p.data.toList = -1) : placeV s p k = -1 := by
  unfold placeV
  split
  · rfl
  · rw [Int.toNat_natCast, h]; rfl
theorem placeV_yes {s p : ByteArray} {k d : Nat} (hk : k ≤ s.size) (h : Lib.index (s.data.toList.drop k) p.data.toList = (d : Int)) : placeV s p k = ((k + d : Nat) : Int) := by
  unfold placeV
  rw [if_neg (by omega), Int.toNat_natCast, h, if_neg (by omega)]
  omega
theorem placeV_none {s p : ByteArray} {k : Nat} (h : ∀ j, k ≤ j → j ≤ s.size → occB s p j = false) : placeV s p k = -1 := by
  by_cases hk : k ≤ s.size
  · refine placeV_no (Lib.index_none fun j hj => ?_)
    rw [plc_drop]
    rw [List.length_drop] at hj
    have hl : s.data.toList.length = s.size := by simp
    exact h (k + j) (by omega) (by omega)
  · exact placeV_out (.inr (by omega))
theorem placeV_found {s p : ByteArray} {k i : Nat} (hk : k ≤ i) (hi : i ≤ s.size) (ho : occB s p i = true) (h : ∀ j, k ≤ j → j < i → occB s p j = false) : placeV s p k = (i : Int) := by
  have hl : s.data.toList.length = s.size := by simp
  have e : Lib.index (s.data.toList.drop k) p.data.toList = ((i - k : Nat) : Int) := by
    refine Lib.index_first (by rw [List.length_drop]; omega) ?_ ?_
    · rw [plc_drop, show k + (i - k) = i by omega]; exact ho
    · intro j hj
      rw [plc_drop]
      exact h (k + j) (by omega) (by omega)
  rw [placeV_yes (by omega) e]
  omega
theorem occB_iff {s p : ByteArray} {i : Nat} (h : i + p.size ≤ s.size) : occB s p i = true ↔ s.extract i (i + p.size) = p := by
  have hp : p.data.toList.length = p.size := by simp
  unfold occB
  rw [Lib.occAt_iff_take _ _ _ (by rw [hp]; simpa using h), beq_iff_eq, hp]
  have e : (s.extract i (i + p.size)).data.toList = (s.data.toList.drop i).take p.size := by
    rw [ByteArray.data_extract, Array.toList_extract]
    show List.take (i + p.size - i) (List.drop i s.data.toList) = _
    rw [Nat.add_sub_cancel_left]
  constructor
  · intro h2
    apply ByteArray.ext
    apply Array.toList_inj.1
    rw [e, h2]
  · intro h2
    rw [← e, h2]
theorem occB_room {s p : ByteArray} {i : Nat} (h : occB s p i = true) : i + p.size ≤ s.size ∨ p.size = 0 := by
  have hp : p.data.toList.length = p.size := by simp
  have hl : s.data.toList.length = s.size := by simp
  rcases Lib.occAt_room h with h | h
  · left; omega
  · right; rw [h] at hp; simp at hp; omega
theorem placeV_bd (s p : ByteArray) (f : Int) : -1 ≤ placeV s p f ∧ placeV s p f ≤ s.size := by
  unfold placeV
  split
  · omega
  · split
    · omega
    · have hl : s.data.toList.length = s.size := by simp
      rcases plc_cases (s.data.toList.drop f.toNat) p.data.toList with ⟨h, _⟩ | ⟨i, hi, h, _⟩
      · omega
      · rw [List.length_drop] at hi
        omega
theorem plc_ne {m s : ByteArray} (h : ¬ m = s) : (m.toList == s.toList) = false := by
  rw [beq_eq_false_iff_ne]
  intro h2
  rw [ByteArray.toList_eq, ByteArray.toList_eq] at h2
  exact h (ByteArray.ext (Array.toList_inj.1 h2))
theorem plc_cut (x : ByteArray) (f : Nat) : (x.extract f x.size).data.toList = x.data.toList.drop f := by
  rw [ByteArray.data_extract, Array.toList_extract]
  show List.take (x.size - f) (List.drop f x.data.toList) = _
  refine List.take_of_length_le ?_
  rw [List.length_drop]
  simp
theorem plc_cutSize (x : ByteArray) (f : Nat) : (x.extract f x.size).size ≤ x.size := by simp
end Go.Proofs.Ytlgpkmgfcnhigaa
