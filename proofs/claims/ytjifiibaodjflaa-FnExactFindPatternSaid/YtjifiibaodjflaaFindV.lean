/- Where a pattern begins: plain facts. -/
import Derived.Test.YtjifiibaodjflaaArcOf
import Derived.Lib.Index
namespace Go.Proofs.Ytjifiibaodjflaa
open Go.RowKit
set_option linter.unusedVariables false
def trL (s p : ByteArray) : List UInt8 := arcL s 0 (s.size + p.size - 1)
def trS (s p : ByteArray) : ByteArray := ⟨(trL s p).toArray⟩
/-- Does the pattern begin at this place of the circle? -/
def fitB (s p : ByteArray) (i : Nat) : Bool := Lib.occAt (trL s p) p.data.toList i
def findR (s p : ByteArray) : Nat → List Int
  | 0 => []
  | k + 1 => if fitB s p k = true then findR s p k ++ [(k : Int)] else findR s p k
def findOk (s p : ByteArray) : Bool := validCells s && validCells p && decide (p.size ≤ s.size)
def findV (s p : ByteArray) : List Int := if findOk s p = true then findR s p s.size else []
theorem findR_len (s p : ByteArray) (k : Nat) : (findR s p k).length ≤ k := by
  induction k with
  | zero => simp [findR]
  | succ k ih =>
    unfold findR
    split
    · simp; omega
    · omega
theorem findR_yes (s p : ByteArray) (k : Nat) (h : fitB s p k = true) : findR s p (k + 1) = findR s p k ++ [(k : Int)] := by
  show (if fitB s p k = true then _ else _) = _
  rw [if_pos h]
theorem findR_no (s p : ByteArray) (k : Nat) (h : fitB s p k = false) : findR s p (k + 1) = findR s p k := by
  show (if fitB s p k = true then _ else _) = _
  rw [if_neg (by simp [h])]
theorem findR_skip (s p : ByteArray) (f d : Nat) (h : ∀ j, f ≤ j → j < f + d → fitB s p j = false) : findR s p (f + d) = findR s p f := by
  induction d with
  | zero => rfl
  | succ d ih => rw [← Nat.add_assoc, findR_no s p (f + d) (h _ (by omega) (by omega))]; exact ih fun j h1 h2 => h j h1 (by omega)
theorem arc0_get (s : ByteArray) (k j : Nat) (hk : k ≤ s.size + s.size) (hj : j < k) : (arcL s 0 k)[j]? = some (cycB s j) := by
  have hl : s.data.toList.length = s.size := by simp
  unfold arcL
  rw [List.drop_zero, List.getElem?_take_of_lt hj, ← cyc_toList s j (by omega)]
  by_cases h : j < s.size
  · rw [List.getElem?_append_left (by omega), Nat.mod_eq_of_lt h]
  · rw [List.getElem?_append_right (by omega), hl]
    congr 1
    rw [Nat.mod_eq_sub_mod (by omega), Nat.mod_eq_of_lt (by omega)]
theorem trL_len (s p : ByteArray) (h : p.size ≤ s.size) (h1 : 1 ≤ p.size) : (trL s p).length = s.size + p.size - 1 := by
  have hl : s.data.toList.length = s.size := by simp
  unfold trL arcL
  simp; omega
theorem fit_iff (s p : ByteArray) (i : Nat) (h : p.size ≤ s.size) (h1 : 1 ≤ p.size) (hi : i < s.size) : fitB s p i = true ↔ ∀ j (hj : j < p.size), cycB s (i + j) = p[j] := by
  have hl := trL_len s p h h1
  have hp : p.data.toList.length = p.size := by simp
  have hat : ∀ j, j < p.size → ((trL s p).drop i)[j]? = some (cycB s (i + j)) := by
    intro j hj
    rw [List.getElem?_drop]
    exact arc0_get s _ (i + j) (by omega) (by omega)
  unfold fitB
  rw [Lib.occAt_iff_take _ _ _ (by rw [hp]; omega), beq_iff_eq, hp]
  constructor
  · intro he j hj
    have := hat j hj
    have h2 : (((trL s p).drop i).take p.size)[j]? = some (cycB s (i + j)) := by rw [List.getElem?_take_of_lt hj]; exact this
    rw [he, List.getElem?_eq_getElem (by omega)] at h2
    have h3 := Option.some.inj h2
    rw [← h3]; rfl
  · intro he
    apply List.ext_getElem?
    intro j
    by_cases hj : j < p.size
    · rw [List.getElem?_take_of_lt hj, hat j hj, List.getElem?_eq_getElem (by omega), he j hj]; rfl
    · rw [List.getElem?_eq_none (by simp; omega), List.getElem?_eq_none (by omega)]
theorem fit_no (s p : ByteArray) (i j : Nat) (h : p.size ≤ s.size) (hi : i < s.size) (hj : j < p.size) (hne : ¬ cycB s (i + j) = p[j]) : fitB s p i = false := by
  cases hb : fitB s p i with
  | false => rfl
  | true => exact absurd ((fit_iff s p i h (by omega) hi).1 hb j hj) hne
theorem least_of (P : Nat → Bool) : ∀ n, (∃ i, i < n ∧ P i = true) → ∃ i, i < n ∧ P i = true ∧ ∀ j, j < i → P j = false
  | 0, ⟨i, h, _⟩ => by omega
  | n + 1, ⟨i, h, hp⟩ => by
    by_cases hx : ∃ i, i < n ∧ P i = true
    · obtain ⟨k, h1, h2, h3⟩ := least_of P n hx
      exact ⟨k, by omega, h2, h3⟩
    · obtain rfl : i = n := by
        by_cases he : i = n
        · exact he
        · exact absurd ⟨i, by omega, hp⟩ hx
      refine ⟨i, h, hp, ?_⟩
      intro j hj
      cases hb : P j with
      | false => rfl
      | true => exact absurd ⟨j, hj, hb⟩ hx
theorem index_cases (l q : List UInt8) : (Lib.index l q = -1 ∧ ∀ j, j ≤ l.length → Lib.occAt l q j = false) ∨ ∃ i, i ≤ l.length ∧ Lib.index l q = (i : Int) ∧ Lib.occAt l q i = true ∧ ∀ j, j < i → Lib.occAt l q j = false := by
  by_cases h : ∃ i, i < l.length + 1 ∧ Lib.occAt l q i = true
  · obtain ⟨i, h1, h2, h3⟩ := least_of (Lib.occAt l q) _ h
    exact .inr ⟨i, by omega, Lib.index_first (by omega) h2 h3, h2, h3⟩
  · have hn : ∀ j, j ≤ l.length → Lib.occAt l q j = false := by
      intro j hj
      cases hb : Lib.occAt l q j with
      | false => rfl
      | true => exact absurd ⟨j, by omega, hb⟩ h
    exact .inl ⟨Lib.index_none hn, hn⟩
theorem occ_drop (l q : List UInt8) (f j : Nat) : Lib.occAt (l.drop f) q j = Lib.occAt l q (f + j) := by
  unfold Lib.occAt
  rw [List.drop_drop]
/-- One step of the search from place f on. -/
theorem find_step (s p : ByteArray) (f : Nat) (h : p.size ≤ s.size) (h1 : 1 ≤ p.size) (hf : f ≤ s.size) :
    (Lib.index ((trL s p).drop f) p.data.toList = -1 ∧ findR s p s.size = findR s p f) ∨
    ∃ d : Nat, Lib.index ((trL s p).drop f) p.data.toList = (d : Int) ∧ f + d < s.size ∧ findR s p (f + d + 1) = findR s p f ++ [((f + d : Nat) : Int)] := by
  have hl := trL_len s p h h1
  have hp : p.data.toList.length = p.size := by simp
  rcases index_cases ((trL s p).drop f) p.data.toList with ⟨h2, h3⟩ | ⟨d, h2, h3, h4, h5⟩
  · refine .inl ⟨h2, ?_⟩
    obtain ⟨d, hd⟩ : ∃ d, s.size = f + d := ⟨s.size - f, by omega⟩
    rw [hd]
    refine findR_skip s p f d ?_
    intro j h6 h7
    obtain ⟨i, rfl⟩ : ∃ i, j = f + i := ⟨j - f, by omega⟩
    unfold fitB
    rw [← occ_drop]
    exact h3 i (by rw [List.length_drop]; omega)
  · refine .inr ⟨d, h3, ?_, ?_⟩
    · rcases Lib.occAt_room h4 with hr | hr
      · rw [List.length_drop, hp] at hr; omega
      · rw [hr] at hp; simp at hp; omega
    · rw [findR_yes s p (f + d) (by unfold fitB; rw [← occ_drop]; exact h4)]
      rw [findR_skip s p f d]
      intro j h6 h7
      obtain ⟨i, rfl⟩ : ∃ i, j = f + i := ⟨j - f, by omega⟩
      unfold fitB
      rw [← occ_drop]
      exact h5 i (by omega)
end Go.Proofs.Ytjifiibaodjflaa
