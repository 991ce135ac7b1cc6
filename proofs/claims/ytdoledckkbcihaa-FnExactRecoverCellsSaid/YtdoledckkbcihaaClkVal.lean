/- The clock over all gaps, as a function of numbers. -/
import Derived.Test.YtdoledckkbcihaaStepVal
import Derived.Test.YtdoledckkbcihaaValidFlux
import Derived.Test.YtdoledckkbcihaaSlices
namespace Go.Proofs.Ytdoledckkbcihaa
open Go.RowKit
set_option linter.unusedVariables false
set_option linter.unusedSimpArgs false
def off0 (c p f : Int) : Int := if p = 0 then 64 * (f.tmod c - c.tdiv 2) else 0
/-- The state before gap k. -/
def ckSt (c l h p s f : Int) (zs : List Int) : Nat → Int × Int
  | 0 => (c * 64, off0 c p f)
  | k + 1 => (stPer l h s (ckSt c l h p s f zs k).1 (ckSt c l h p s f zs k).2 (zs.getD k 0), stOff l h p s (ckSt c l h p s f zs k).1 (ckSt c l h p s f zs k).2 (zs.getD k 0))
def ckN (c l h p s f : Int) (zs : List Int) (k : Nat) : Int := stN (ckSt c l h p s f zs k).1 (ckSt c l h p s f zs k).2 (zs.getD k 0)
def ckE (c l h p s f : Int) (zs : List Int) (k : Nat) : Int := stE (ckSt c l h p s f zs k).1 (ckSt c l h p s f zs k).2 (zs.getD k 0)
def ckOk (c l h p s f : Int) (zs : List Int) : Nat → Bool
  | 0 => true
  | k + 1 => ckOk c l h p s f zs k && decide (ckN c l h p s f zs k ≤ 100)
def ckNs (c l h p s f : Int) (zs : List Int) (k : Nat) : List Int := (List.range k).map (ckN c l h p s f zs)
def ckEs (c l h p s f : Int) (zs : List Int) (k : Nat) : List Int := (List.range k).map (ckE c l h p s f zs)
theorem ckNs_succ (c l h p s f : Int) (zs : List Int) (k : Nat) : ckNs c l h p s f zs (k + 1) = ckNs c l h p s f zs k ++ [ckN c l h p s f zs k] := by unfold ckNs; rw [List.range_succ, List.map_append]; rfl
theorem ckEs_succ (c l h p s f : Int) (zs : List Int) (k : Nat) : ckEs c l h p s f zs (k + 1) = ckEs c l h p s f zs k ++ [ckE c l h p s f zs k] := by unfold ckEs; rw [List.range_succ, List.map_append]; rfl
theorem ckNs_len (c l h p s f : Int) (zs : List Int) (k : Nat) : (ckNs c l h p s f zs k).length = k := by simp [ckNs]
theorem ckEs_len (c l h p s f : Int) (zs : List Int) (k : Nat) : (ckEs c l h p s f zs k).length = k := by simp [ckEs]
theorem ckOk_mono {c l h p s f : Int} {zs : List Int} {k m : Nat} (hkm : k ≤ m) (h0 : ckOk c l h p s f zs k = false) : ckOk c l h p s f zs m = false := by
  induction m with
  | zero =>
    obtain rfl : k = 0 := by omega
    exact h0
  | succ m ih =>
    by_cases e : k = m + 1
    · rw [← e]; exact h0
    · rw [ckOk, ih (by omega)]; rfl
theorem ckOk_bd {c l h p s f : Int} {zs : List Int} : ∀ {k : Nat}, ckOk c l h p s f zs k = true → ∀ j, j < k → ckN c l h p s f zs j ≤ 100
  | 0, _, j, hj => by omega
  | k + 1, h0, j, hj => by
    rw [ckOk, Bool.and_eq_true] at h0
    by_cases e : j = k
    · subst e; exact of_decide_eq_true h0.2
    · exact ckOk_bd h0.1 j (by omega)
theorem off0_bd {c p f : Int} (h4 : 4 ≤ c) (h5 : c ≤ 200) (hf : 0 ≤ f) : -(c * 64) ≤ off0 c p f ∧ off0 c p f ≤ c * 64 := by
  unfold off0
  split
  · rw [Int.tmod_eq_emod_of_nonneg hf, Int.tdiv_eq_ediv_of_nonneg (by omega)]
    have h1 := Int.emod_nonneg f (show c ≠ 0 by omega)
    have h2 := Int.emod_lt_of_pos f (show 0 < c by omega)
    omega
  · omega
/-- The bounds of the state. -/
theorem ckSt_bd {c l h p s f : Int} {zs : List Int} (hc : clockOk c l h p s = true) (hf : 0 ≤ f) : ∀ k, (l * 64 ≤ (ckSt c l h p s f zs k).1 ∧ (ckSt c l h p s f zs k).1 ≤ h * 64) ∧ (-((ckSt c l h p s f zs k).1) ≤ (ckSt c l h p s f zs k).2 ∧ (ckSt c l h p s f zs k).2 ≤ (ckSt c l h p s f zs k).1) := by
  obtain ⟨a1, a2, a3, a4, a5⟩ := clockOk_iff.1 hc
  intro k
  induction k with
  | zero =>
    have := off0_bd (p := p) a1.1 a1.2 hf
    simp only [ckSt]
    omega
  | succ k ih =>
    simp only [ckSt]
    have h1 : l * 64 ≤ h * 64 := by omega
    generalize (ckSt c l h p s f zs k).1 = P at *
    generalize (ckSt c l h p s f zs k).2 = o at *
    generalize zs.getD k 0 = g at *
    have h2 := clampI_bd (n := stPer0 s P (stN P o g) (stE P o g)) h1
    have h3 : l * 64 ≤ stPer l h s P o g ∧ stPer l h s P o g ≤ h * 64 := h2
    have h4 := clampI_bd (n := stOff0 p (stE P o g)) (lo := -(stPer l h s P o g)) (hi := stPer l h s P o g) (by omega)
    exact ⟨h3, h4⟩
theorem ckSt_w {c l h p s f : Int} {zs : List Int} (hc : clockOk c l h p s = true) (hf : 0 ≤ f) (k : Nat) : 128 ≤ (ckSt c l h p s f zs k).1 ∧ (ckSt c l h p s f zs k).1 ≤ 25600 ∧ -25600 ≤ (ckSt c l h p s f zs k).2 ∧ (ckSt c l h p s f zs k).2 ≤ 25600 := by
  obtain ⟨a1, a2, a3, a4, a5⟩ := clockOk_iff.1 hc
  obtain ⟨⟨b1, b2⟩, b3, b4⟩ := ckSt_bd (zs := zs) hc hf k
  omega
theorem ckN_bd {c l h p s f : Int} {zs : List Int} (hc : clockOk c l h p s = true) (hf : 0 ≤ f) {k : Nat} {g : Int} (hg : zs[k]? = some g) (g1 : 1 ≤ g) (g2 : g ≤ 2000000) : 1 ≤ ckN c l h p s f zs k ∧ ckN c l h p s f zs k ≤ 2000000 := by
  obtain ⟨b1, b2, b3, b4⟩ := ckSt_w (zs := zs) hc hf k
  unfold ckN
  rw [List.getD_eq_getElem?_getD, hg, Option.getD_some]
  have := st_bd b1 b2 b3 b4 g1 g2
  exact ⟨this.1, this.2.1⟩
end Go.Proofs.Ytdoledckkbcihaa
