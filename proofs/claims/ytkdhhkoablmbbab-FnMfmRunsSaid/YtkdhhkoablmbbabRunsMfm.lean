/- The runs of MFM data; the mark is nowhere in it. -/
import Derived.Test.YtkdhhkoablmbbabRoundMfm
import Derived.Test.YtkdhhkoablmbbabRunsOf
namespace Go.Proofs.Ytkdhhkoablmbbab
open Go.RowKit
set_option linter.unusedVariables false
theorem befR_succ (s : ByteArray) (k : Nat) : befR s (k + 1) = if isOne s k = true then (k : Int) else befR s k := by
  show (if (s[k]?.getD 0).toNat = 49 then _ else _) = _
  unfold isOne
  simp
theorem runsR_succ (s : ByteArray) (k : Nat) : runsR s (k + 1) = if isOne s k = true ∧ 0 ≤ befR s k then runsR s k ++ [(k : Int) - befR s k] else runsR s k := by
  show (if (s[k]?.getD 0).toNat = 49 ∧ 0 ≤ befR s k then _ else _) = _
  unfold isOne
  simp
def RunsInv (E : ByteArray) (L : Bool) (m : Nat) : Prop :=
  (befR E (2 * m) = -1 ∨ (L = true ∧ befR E (2 * m) = 2 * (m : Int) - 1) ∨ (L = false ∧ (befR E (2 * m) = 2 * (m : Int) - 2 ∨ befR E (2 * m) = 2 * (m : Int) - 3))) ∧ ∀ r ∈ runsR E (2 * m), 2 ≤ r ∧ r ≤ 4
theorem runs_step {E : ByteArray} {L x : Bool} {m : Nat} (hc : isOne E (2 * m) = wantB true L x) (hd : isOne E (2 * m + 1) = x) (h : RunsInv E L m) : RunsInv E x (m + 1) := by
  obtain ⟨h1, h2⟩ := h
  have b1 := befR_succ E (2 * m)
  have b2 := befR_succ E (2 * m + 1)
  have r1 := runsR_succ E (2 * m)
  have r2 := runsR_succ E (2 * m + 1)
  have e : 2 * (m + 1) = 2 * m + 1 + 1 := by omega
  unfold RunsInv
  rw [e]
  rw [hc] at b1 r1
  rw [hd] at b2 r2
  have hbd := befR_bd E (2 * m)
  cases L <;> cases x <;> simp only [wantB] at b1 r1 b2 r2
  · -- no bit before, none now: a clock at 2m
    simp at b1 r1 b2 r2
    refine ⟨?_, ?_⟩
    · right; right; refine ⟨rfl, ?_⟩; left; rw [b2, b1]; omega
    · rw [r2, r1]
      split
      · next hb =>
        intro r hr
        rw [List.mem_append, List.mem_singleton] at hr
        rcases hr with hr | hr
        · exact h2 r hr
        · subst hr; simp at h1; omega
      · exact h2
  · simp at b1 r1 b2 r2
    refine ⟨?_, ?_⟩
    · right; left; refine ⟨rfl, ?_⟩; rw [b2]; omega
    · rw [r2, r1, b1]
      split
      · next hb =>
        intro r hr
        rw [List.mem_append, List.mem_singleton] at hr
        rcases hr with hr | hr
        · exact h2 r hr
        · subst hr; simp at h1; omega
      · exact h2
  · simp at b1 r1 b2 r2
    refine ⟨?_, ?_⟩
    · rw [b2, b1]
      rcases h1 with h1 | h1 | h1
      · left; exact h1
      · right; right; refine ⟨rfl, ?_⟩; right; omega
      · simp at h1
    · rw [r2, r1]; exact h2
  · simp at b1 r1 b2 r2
    refine ⟨?_, ?_⟩
    · right; left; refine ⟨rfl, ?_⟩; rw [b2]; omega
    · rw [r2, r1, b1]
      split
      · next hb =>
        intro r hr
        rw [List.mem_append, List.mem_singleton] at hr
        rcases hr with hr | hr
        · exact h2 r hr
        · subst hr; simp at h1; omega
      · exact h2
theorem runs_enc {s : ByteArray} (last : Bool) (h : s.size ≤ 500) (m : Nat) (hm : m ≤ 8 * s.size) : RunsInv (encV s last true) (lastS s last m) m := by
  induction m with
  | zero => exact ⟨.inl rfl, fun r hr => by simp [runsR] at hr⟩
  | succ m ih =>
    obtain ⟨h1, h2⟩ := enc_one_at last true h m (by omega)
    exact runs_step h1 h2 (ih (by omega))
theorem runsV_enc {s : ByteArray} (last : Bool) (h : s.size ≤ 500) : ∀ r ∈ runsV (encV s last true), 2 ≤ r ∧ r ≤ 4 := by
  have hz := encV_size last true h
  unfold runsV
  rw [if_pos (enc_cellStr last true h), hz]
  have := (runs_enc last h (8 * s.size) (Nat.le_refl _)).2
  have e : 16 * s.size = 2 * (8 * s.size) := by omega
  rw [e]
  exact this
/-- Four cells from one change to the next: from data to data. -/
theorem four_odd {s : ByteArray} (last : Bool) (h : s.size ≤ 500) (p : Nat) (hp : p + 4 < 16 * s.size) (h0 : isOne (encV s last true) p = true) (h2 : isOne (encV s last true) (p + 2) = false) (h3 : isOne (encV s last true) (p + 3) = false) : p % 2 = 1 := by
  by_cases e : p % 2 = 1
  · exact e
  · exfalso
    obtain ⟨m, rfl⟩ : ∃ m, p = 2 * m := ⟨p / 2, by omega⟩
    obtain ⟨a1, a2⟩ := enc_one_at last true h m (by omega)
    obtain ⟨b1, b2⟩ := enc_one_at last true h (m + 1) (by omega)
    rw [a1] at h0
    have e2 : 2 * m + 2 = 2 * (m + 1) := by omega
    have e3 : 2 * m + 3 = 2 * (m + 1) + 1 := by omega
    rw [e2, b1] at h2
    rw [e3, b2] at h3
    have hl : lastS s last (m + 1) = bitB s m := rfl
    rw [hl, h3] at h2
    revert h0 h2
    cases lastS s last m <;> cases bitB s m <;> simp [wantB]
theorem ext_at (E : ByteArray) (i j : Nat) (hj : j < 16) (hi : i + 16 ≤ E.size) : (E.extract i (i + 16))[j]?.getD 0 = E[i + j]?.getD 0 := by
  have hz : (E.extract i (i + 16)).size = 16 := by rw [ByteArray.size_extract]; omega
  rw [getElem?_pos _ j (by omega), getElem?_pos E (i + j) (by omega)]
  simp [ByteArray.getElem_extract]
theorem one_mark : isOne mfmMarkS 1 = true ∧ isOne mfmMarkS 3 = false ∧ isOne mfmMarkS 4 = false ∧ isOne mfmMarkS 8 = true ∧ isOne mfmMarkS 10 = false ∧ isOne mfmMarkS 11 = false := by decide
theorem no_mark {s : ByteArray} (last : Bool) (h : s.size ≤ 500) (i : Nat) (hi : i + 16 ≤ (encV s last true).size) : ¬ (encV s last true).extract i (i + 16) = mfmMarkS := by
  intro e
  have hz := encV_size last true h
  have g : ∀ j, j < 16 → isOne (encV s last true) (i + j) = isOne mfmMarkS j := by
    intro j hj
    have := ext_at (encV s last true) i j hj hi
    rw [e] at this
    unfold isOne
    rw [this]
  obtain ⟨m1, m3, m4, m8, m10, m11⟩ := one_mark
  have q1 := four_odd last h (i + 1) (by omega) ((g 1 (by omega)).trans m1) ((g 3 (by omega)).trans m3) ((g 4 (by omega)).trans m4)
  have q2 := four_odd last h (i + 8) (by omega) ((g 8 (by omega)).trans m8) ((g 10 (by omega)).trans m10) ((g 11 (by omega)).trans m11)
  omega
theorem mark_dec : decB mfmMarkS = true := by decide +kernel
theorem mark_fault : ∀ last, (faultsV mfmMarkS last true).length = 1 := by decide +kernel
end Go.Proofs.Ytkdhhkoablmbbab
