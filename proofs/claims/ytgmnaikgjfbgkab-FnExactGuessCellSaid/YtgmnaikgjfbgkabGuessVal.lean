/- The values of impl.GuessCell and spec.GuessCell. -/
import Derived.Test.YtgmnaikgjfbgkabSpecOk
namespace Go.Proofs.Ytgmnaikgjfbgkab
open Go.RowKit
set_option linter.unusedVariables false
/-- How far a gap is from the nearest positive multiple of a cell. -/
def gdist (c g : Int) : Int := if g < c then c - g else min (g % c) (c - g % c)
def farTo (zs : List Int) (c : Int) (k : Nat) : Int := ((zs.take k).map (gdist c)).sum
def farOf (zs : List Int) (c : Int) : Int := farTo zs c zs.length
theorem gdist_bd {c g : Int} (hc : 4 ≤ c) (hc2 : c ≤ 200) (hg : 1 ≤ g) : 0 ≤ gdist c g ∧ gdist c g ≤ 200 := by
  unfold gdist
  have h1 := Int.emod_nonneg g (show c ≠ 0 by omega)
  have h2 := Int.emod_lt_of_pos g (show 0 < c by omega)
  split <;> omega
theorem farTo_zero (zs : List Int) (c : Int) : farTo zs c 0 = 0 := by simp [farTo]
theorem farTo_succ {zs : List Int} {c : Int} {k : Nat} {g : Int} (h : zs[k]? = some g) : farTo zs c (k + 1) = farTo zs c k + gdist c g := by
  unfold farTo
  rw [List.take_add_one, h]; simp
theorem farTo_bd {zs : List Int} {c : Int} (hc : 4 ≤ c) (hc2 : c ≤ 200) (hz : zs.all (inB 1 2000000) = true) (k : Nat) : k ≤ zs.length → 0 ≤ farTo zs c k ∧ farTo zs c k ≤ 200 * (k : Int) := by
  induction k with
  | zero => intro _; rw [farTo_zero]; omega
  | succ k ih =>
    intro hk
    have h := ih (by omega)
    have hx : zs[k]? = some zs[k] := List.getElem?_eq_getElem (by omega)
    have hb := bd_of_all hz hx
    have hd := gdist_bd hc hc2 hb.1
    rw [farTo_succ hx]
    omega
/-- Of the lengths from lo to hi, b fits best, and of those that fit alike it is the greatest one. -/
structure BestCell (D : Int → Int) (lo hi b : Int) : Prop where
  lo_le : lo ≤ b
  le_hi : b ≤ hi
  best : ∀ c, lo ≤ c → c ≤ hi → D b * c ≤ D c * b
  last : ∀ c, b < c → c ≤ hi → D b * c < D c * b
theorem BestCell.unique {D : Int → Int} {lo hi a b : Int} (ha : BestCell D lo hi a) (hb : BestCell D lo hi b) : a = b := by
  rcases Int.lt_trichotomy a b with h | h | h
  · have h1 := ha.last b h hb.le_hi
    have h2 := hb.best a ha.lo_le ha.le_hi
    omega
  · exact h
  · have h1 := hb.last a h ha.le_hi
    have h2 := ha.best b hb.lo_le hb.le_hi
    omega
theorem BestCell.one (D : Int → Int) (b : Int) : BestCell D b b b := by
  refine ⟨Int.le_refl _, Int.le_refl _, fun c h1 h2 => ?_, fun c h1 h2 => by omega⟩
  obtain rfl : c = b := by omega
  exact Int.le_refl _
/-- From x to y to z: proportions are compared as products. -/
theorem ratio_le {a b c x y z : Int} (hy : 0 < y) (hx : 0 < x) (hz : 0 < z) (h1 : a * y ≤ b * x) (h2 : b * z ≤ c * y) : a * z ≤ c * x := by
  have e1 := Int.mul_le_mul_of_nonneg_right h1 (Int.le_of_lt hz)
  have e2 := Int.mul_le_mul_of_nonneg_right h2 (Int.le_of_lt hx)
  have e3 : (a * z) * y ≤ (c * x) * y := by
    calc (a * z) * y = a * y * z := by rw [Int.mul_assoc, Int.mul_comm z y, ← Int.mul_assoc]
      _ ≤ b * x * z := e1
      _ = b * z * x := by rw [Int.mul_assoc, Int.mul_comm x z, ← Int.mul_assoc]
      _ ≤ c * y * x := e2
      _ = (c * x) * y := by rw [Int.mul_assoc, Int.mul_comm y x, ← Int.mul_assoc]
  exact Int.le_of_mul_le_mul_right e3 hy
theorem ratio_lt {a b c x y z : Int} (hy : 0 < y) (hx : 0 < x) (hz : 0 < z) (h1 : a * y ≤ b * x) (h2 : b * z < c * y) : a * z < c * x := by
  have e1 := Int.mul_le_mul_of_nonneg_right h1 (Int.le_of_lt hz)
  have e2 := Int.mul_lt_mul_of_pos_right h2 hx
  have e3 : (a * z) * y < (c * x) * y := by
    calc (a * z) * y = a * y * z := by rw [Int.mul_assoc, Int.mul_comm z y, ← Int.mul_assoc]
      _ ≤ b * x * z := e1
      _ = b * z * x := by rw [Int.mul_assoc, Int.mul_comm x z, ← Int.mul_assoc]
      _ < c * y * x := e2
      _ = (c * x) * y := by rw [Int.mul_assoc, Int.mul_comm y x, ← Int.mul_assoc]
  exact Int.lt_of_mul_lt_mul_right e3 (Int.le_of_lt hy)
theorem ratio_lt' {a b c x y z : Int} (hy : 0 < y) (hx : 0 < x) (hz : 0 < z) (h1 : a * y < b * x) (h2 : b * z ≤ c * y) : a * z < c * x := by
  have e1 := Int.mul_lt_mul_of_pos_right h1 hz
  have e2 := Int.mul_le_mul_of_nonneg_right h2 (Int.le_of_lt hx)
  have e3 : (a * z) * y < (c * x) * y := by
    calc (a * z) * y = a * y * z := by rw [Int.mul_assoc, Int.mul_comm z y, ← Int.mul_assoc]
      _ < b * x * z := e1
      _ = b * z * x := by rw [Int.mul_assoc, Int.mul_comm x z, ← Int.mul_assoc]
      _ ≤ c * y * x := e2
      _ = (c * x) * y := by rw [Int.mul_assoc, Int.mul_comm y x, ← Int.mul_assoc]
  exact Int.lt_of_mul_lt_mul_right e3 (Int.le_of_lt hy)
/-- Upwards: a further length replaces the best one if it fits no worse. -/
theorem BestCell.up_new {D : Int → Int} {lo k b : Int} (hlo : 0 < lo) (h : BestCell D lo (k - 1) b) (hk : D k * b ≤ D b * k) : BestCell D lo k k := by
  have h1 := h.lo_le
  have h2 := h.le_hi
  refine ⟨by omega, Int.le_refl _, fun c hc1 hc2 => ?_, fun c hc1 hc2 => by omega⟩
  by_cases e : c = k
  · subst e; exact Int.le_refl _
  · exact ratio_le (y := b) (by omega) (by omega) (by omega) hk (h.best c hc1 (by omega))
theorem BestCell.up_old {D : Int → Int} {lo k b : Int} (h : BestCell D lo (k - 1) b) (hk : ¬ D k * b ≤ D b * k) : BestCell D lo k b := by
  have h2 := h.le_hi
  refine ⟨h.lo_le, by omega, fun c hc1 hc2 => ?_, fun c hc1 hc2 => ?_⟩
  · by_cases e : c = k
    · subst e; omega
    · exact h.best c hc1 (by omega)
  · by_cases e : c = k
    · subst e; omega
    · exact h.last c hc1 (by omega)
/-- Downwards: a further length replaces the best one if it fits better. -/
theorem BestCell.down_new {D : Int → Int} {k hi b : Int} (hk0 : 0 < k) (h : BestCell D (k + 1) hi b) (hk : D k * b < D b * k) : BestCell D k hi k := by
  have h1 := h.lo_le
  have h2 := h.le_hi
  refine ⟨Int.le_refl _, by omega, fun c hc1 hc2 => ?_, fun c hc1 hc2 => ?_⟩
  · by_cases e : c = k
    · subst e; exact Int.le_refl _
    · exact Int.le_of_lt (ratio_lt' (y := b) (by omega) (by omega) (by omega) hk (h.best c (by omega) hc2))
  · exact ratio_lt' (y := b) (by omega) (by omega) (by omega) hk (h.best c (by omega) hc2)
theorem BestCell.down_old {D : Int → Int} {k hi b : Int} (h : BestCell D (k + 1) hi b) (hk : ¬ D k * b < D b * k) : BestCell D k hi b := by
  have h1 := h.lo_le
  refine ⟨by omega, h.le_hi, fun c hc1 hc2 => ?_, fun c hc1 hc2 => h.last c hc1 hc2⟩
  by_cases e : c = k
  · subst e; omega
  · exact h.best c (by omega) hc2
/-- The best of the lengths from 4 to 4 + n. -/
def bestTo (D : Int → Int) : Nat → Int
  | 0 => 4
  | n + 1 => if D (4 + (n + 1 : Nat)) * bestTo D n ≤ D (bestTo D n) * (4 + (n + 1 : Nat)) then 4 + (n + 1 : Nat) else bestTo D n
theorem bestTo_is (D : Int → Int) (n : Nat) : BestCell D 4 (4 + n) (bestTo D n) := by
  induction n with
  | zero => exact BestCell.one D 4
  | succ n ih =>
    have e : (4 + ((n + 1 : Nat) : Int)) - 1 = 4 + n := by omega
    unfold bestTo
    split
    · exact BestCell.up_new (by omega) (by rw [e]; exact ih) (by assumption)
    · exact BestCell.up_old (by rw [e]; exact ih) (by assumption)
def guessBest (zs : List Int) : Int := bestTo (farOf zs) 196
theorem guessBest_eq {zs : List Int} {b : Int} (h : BestCell (farOf zs) 4 200 b) : b = guessBest zs := h.unique (bestTo_is (farOf zs) 196)
end Go.Proofs.Ytgmnaikgjfbgkab
