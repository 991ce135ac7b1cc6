/- Packing run after run, with what stands between them in parts of 64 bytes, is what spec.PackRuns packs. -/
import Derived.Test.YtogoklgppepbjaaPkVal
namespace Go.Proofs.Ytogoklgppepbjaa
open Go.RowKit
set_option linter.unusedVariables false
set_option linter.unusedSimpArgs false
/-- The bytes from place i to place e in parts of at most 64 that stand for themselves. -/
def plV (s : ByteArray) (i e : Nat) : List UInt8 :=
  if i < e then [(min 64 (e - i) - 1).toUInt8] ++ (s.extract i (i + min 64 (e - i))).data.toList ++ plV s (i + min 64 (e - i)) e else []
termination_by e - i
theorem plV_end {s : ByteArray} {i e : Nat} (h : ¬ i < e) : plV s i e = [] := by rw [plV, if_neg h]
theorem plV_step {s : ByteArray} {i e : Nat} (h : i < e) : plV s i e = [(min 64 (e - i) - 1).toUInt8] ++ (s.extract i (i + min 64 (e - i))).data.toList ++ plV s (i + min 64 (e - i)) e := by rw [plV, if_pos h]
/-- impl.pack's way: what is written from a place on, where the bytes from 'fr' on aren't written yet. -/
def ipk (s : ByteArray) (fr i : Nat) : List UInt8 :=
  if i < s.size then
    if 3 ≤ runV s i 64 then plV s fr i ++ [(61 + runV s i 64).toUInt8, byteAt s i] ++ ipk s (i + runV s i 64) (i + max 1 (runV s i 64))
    else ipk s fr (i + 1)
  else plV s fr s.size
termination_by s.size - i
theorem ipk_run {s : ByteArray} {fr i : Nat} (hi : i < s.size) (h : 3 ≤ runV s i 64) : ipk s fr i = plV s fr i ++ [(61 + runV s i 64).toUInt8, byteAt s i] ++ ipk s (i + runV s i 64) (i + runV s i 64) := by
  rw [ipk, if_pos hi, if_pos h, show max 1 (runV s i 64) = runV s i 64 by omega]
theorem ipk_skip {s : ByteArray} {fr i : Nat} (hi : i < s.size) (h : ¬ 3 ≤ runV s i 64) : ipk s fr i = ipk s fr (i + 1) := by
  rw [ipk, if_pos hi, if_neg h]
theorem ipk_end {s : ByteArray} {fr i : Nat} (hi : ¬ i < s.size) : ipk s fr i = plV s fr s.size := by
  rw [ipk, if_neg hi]
/-- From i on, no run begins before q; at q one begins, or the string ends. -/
def Till (s : ByteArray) (i q : Nat) : Prop := i ≤ q ∧ q ≤ s.size ∧ (∀ j, i ≤ j → j < q → ¬ 3 ≤ runV s j 64) ∧ (q = s.size ∨ 3 ≤ runV s q 64)
theorem till_ex (s : ByteArray) : ∀ k i, i ≤ s.size → s.size - i = k → ∃ q, Till s i q
  | 0, i, h, hk => ⟨i, Nat.le_refl _, h, fun j h1 h2 => by omega, .inl (by omega)⟩
  | k + 1, i, h, hk => by
    by_cases h3 : 3 ≤ runV s i 64
    · exact ⟨i, Nat.le_refl _, h, fun j h1 h2 => by omega, .inr h3⟩
    · obtain ⟨q, q1, q2, q3, q4⟩ := till_ex s k (i + 1) (by omega) (by omega)
      refine ⟨q, by omega, q2, fun j h1 h2 => ?_, q4⟩
      by_cases e : j = i
      · rw [e]; exact h3
      · exact q3 j (by omega) h2
theorem Till.from {s : ByteArray} {i j q : Nat} (h : Till s i q) (h1 : i ≤ j) (h2 : j ≤ q) : Till s j q := ⟨h2, h.2.1, fun k k1 k2 => h.2.2.1 k (by omega) k2, h.2.2.2⟩
theorem peV_till {s : ByteArray} {q : Nat} : ∀ f e, Till s e q → peV s f e = min (e + f) q
  | 0, e, h => by have := h.1; rw [peV]; omega
  | f + 1, e, h => by
    obtain ⟨h1, h2, h3, h4⟩ := h
    rw [peV]
    by_cases he : e < q
    · have hes : e < s.size := by omega
      rw [if_pos ⟨hes, (run_small hes).2 (by have := h3 e (Nat.le_refl _) he; omega)⟩]
      rw [peV_till f (e + 1) (Till.from ⟨h1, h2, h3, h4⟩ (by omega) (by omega))]
      omega
    · have : e = q := by omega
      subst this
      rw [if_neg ?_]
      · omega
      · rintro ⟨g1, g2⟩
        rcases h4 with h4 | h4
        · omega
        · have := (run_small g1).1 g2; omega
theorem pkV_till {s : ByteArray} {q : Nat} : ∀ k i, q - i = k → Till s i q → pkV s i = plV s i q ++ pkV s q := by
  intro k
  induction k using Nat.strongRecOn with
  | _ k ih =>
    intro i hk h
    by_cases he : i < q
    · have his : i < s.size := by have := h.2.1; omega
      have h3 := h.2.2.1 i (Nat.le_refl _) he
      have hpe := peV_till 64 i h
      rw [pkV_plain his h3, plV_step he, hpe]
      have e1 : min (i + 64) q = i + min 64 (q - i) := by omega
      rw [e1, show i + min 64 (q - i) - i - 1 = min 64 (q - i) - 1 by omega]
      rw [ih (q - (i + min 64 (q - i))) (by omega) (i + min 64 (q - i)) rfl (h.from (by omega) (by omega))]
      simp only [List.append_assoc]
    · have : i = q := by have := h.1; omega
      subst this
      rw [plV_end (by omega), List.nil_append]
theorem ipk_till {s : ByteArray} {fr q : Nat} : ∀ k i, q - i = k → Till s i q → ipk s fr i = ipk s fr q
  | 0, i, hk, h => by have := h.1; rw [show i = q by omega]
  | k + 1, i, hk, h => by
    have his : i < s.size := by have := h.2.1; omega
    rw [ipk_skip his (h.2.2.1 i (Nat.le_refl _) (by omega))]
    exact ipk_till k (i + 1) (by omega) (h.from (by omega) (by omega))
theorem ipk_pkV {s : ByteArray} : ∀ k i, s.size - i = k → i ≤ s.size → ipk s i i = pkV s i := by
  intro k
  induction k using Nat.strongRecOn with
  | _ k ih =>
    intro i hk hi
    obtain ⟨q, h⟩ := till_ex s _ i hi rfl
    rw [ipk_till _ i rfl h, pkV_till _ i rfl h]
    rcases h.2.2.2 with h4 | h4
    · rw [ipk_end (by omega), pkV_end (by omega), h4, List.append_nil]
    · by_cases hq : q < s.size
      · have hb := runV_bd (most := 64) hq (by omega)
        rw [ipk_run hq h4, pkV_run hq h4]
        have hiq := h.1
        rw [ih (s.size - (q + runV s q 64)) (by omega) (q + runV s q 64) rfl (by omega)]
        simp only [List.append_assoc]
      · rw [ipk_end hq, pkV_end hq, List.append_nil, show s.size = q by have := h.2.1; omega]
end Go.Proofs.Ytogoklgppepbjaa
