/- The clock's step, as a function of numbers. -/
import Derived.Test.YtdoledckkbcihaaClockOk
namespace Go.Proofs.Ytdoledckkbcihaa
open Go.RowKit
set_option linter.unusedVariables false
def clampI (n lo hi : Int) : Int := max lo (min n hi)
def stN (P o gap : Int) : Int := max ((gap * 64 + o + P.tdiv 2).tdiv P) 1
def stE (P o gap : Int) : Int := gap * 64 + o - stN P o gap * P
def stOff0 (ph e : Int) : Int := if ph = 0 then e else e - e.tdiv ph
def stPer0 (sp P n e : Int) : Int := if sp = 0 then P else P + e.tdiv (n * sp)
def stPer (l h sp P o gap : Int) : Int := clampI (stPer0 sp P (stN P o gap) (stE P o gap)) (l * 64) (h * 64)
def stOff (l h ph sp P o gap : Int) : Int := clampI (stOff0 ph (stE P o gap)) (-(stPer l h sp P o gap)) (stPer l h sp P o gap)
theorem clampI_bd {n lo hi : Int} (h : lo ≤ hi) : lo ≤ clampI n lo hi ∧ clampI n lo hi ≤ hi := by unfold clampI; omega
theorem clampI_in {n lo hi : Int} (h1 : lo ≤ n) (h2 : n ≤ hi) : clampI n lo hi = n := by unfold clampI; omega
theorem clampI_eq {n lo hi : Int} (h : lo ≤ hi) : clampI n lo hi = n ↔ lo ≤ n ∧ n ≤ hi := by unfold clampI; omega
theorem tdiv_bd {e d : Int} (hd : 1 ≤ d) (h1 : -100000 ≤ e) (h2 : e ≤ 100000) : -100000 ≤ e.tdiv d ∧ e.tdiv d ≤ 100000 := by
  by_cases h : 0 ≤ e
  · rw [Int.tdiv_eq_ediv_of_nonneg h]
    have h3 := Int.ediv_nonneg h (show 0 ≤ d by omega)
    have h4 := Int.ediv_le_self d h
    omega
  · obtain ⟨m, rfl⟩ : ∃ m, e = -m := ⟨-e, by omega⟩
    rw [Int.neg_tdiv, Int.tdiv_eq_ediv_of_nonneg (by omega)]
    have h3 := Int.ediv_nonneg (show 0 ≤ m by omega) (show 0 ≤ d by omega)
    have h4 := Int.ediv_le_self d (show 0 ≤ m by omega)
    omega
/-- The bounds of a step. -/
theorem st_bd {P o gap : Int} (p1 : 128 ≤ P) (p2 : P ≤ 25600) (o1 : -25600 ≤ o) (o2 : o ≤ 25600) (g1 : 1 ≤ gap) (g2 : gap ≤ 2000000) :
    1 ≤ stN P o gap ∧ stN P o gap ≤ 2000000 ∧ -60000 ≤ stE P o gap ∧ stE P o gap ≤ 60000 ∧ 0 ≤ stN P o gap * P ∧ stN P o gap * P ≤ 200000000 := by
  have hp2 : P.tdiv 2 = P / 2 := Int.tdiv_eq_ediv_of_nonneg (by omega)
  unfold stE stN
  rw [hp2]
  by_cases hx : 0 ≤ gap * 64 + o + P / 2
  · rw [Int.tdiv_eq_ediv_of_nonneg hx]
    have h1 := Int.emod_nonneg (gap * 64 + o + P / 2) (show P ≠ 0 by omega)
    have h2 := Int.emod_lt_of_pos (gap * 64 + o + P / 2) (show 0 < P by omega)
    have h3 := Int.mul_ediv_add_emod (gap * 64 + o + P / 2) P
    have h4 := Int.ediv_nonneg hx (show 0 ≤ P by omega)
    have h5 : (gap * 64 + o + P / 2) / P ≤ (gap * 64 + o + P / 2) / 128 := by
      apply Int.le_ediv_of_mul_le (by omega)
      have h6 : (gap * 64 + o + P / 2) / P * 128 ≤ (gap * 64 + o + P / 2) / P * P := Int.mul_le_mul_of_nonneg_left p1 h4
      have h7 : (gap * 64 + o + P / 2) / P * P = P * ((gap * 64 + o + P / 2) / P) := Int.mul_comm _ _
      omega
    generalize (gap * 64 + o + P / 2) / P = q at *
    by_cases hq : q < 1
    · have hq0 : q = 0 := by omega
      subst hq0
      rw [show max (0 : Int) 1 = 1 by omega, Int.one_mul]
      omega
    · have hc : q * P = P * q := Int.mul_comm _ _
      have h8 : 0 ≤ P * q := Int.mul_nonneg (by omega) h4
      rw [show max q 1 = q by omega, hc]
      omega
  · obtain ⟨m, hm⟩ : ∃ m, gap * 64 + o + P / 2 = -m := ⟨-(gap * 64 + o + P / 2), by omega⟩
    rw [hm, Int.neg_tdiv, Int.tdiv_eq_ediv_of_nonneg (by omega)]
    have h4 := Int.ediv_nonneg (show 0 ≤ m by omega) (show 0 ≤ P by omega)
    rw [show max (-(m / P)) 1 = 1 by omega, Int.one_mul]
    omega
theorem stPer0_bd {sp P n e : Int} (hs : 0 ≤ sp) (hn : 1 ≤ n) (p1 : 128 ≤ P) (p2 : P ≤ 25600) (e1 : -60000 ≤ e) (e2 : e ≤ 60000) : -100000 ≤ stPer0 sp P n e ∧ stPer0 sp P n e ≤ 200000 := by
  unfold stPer0
  split
  · omega
  · rename_i h
    have h1 : 1 ≤ n * sp := by
      have := Int.mul_le_mul hn (show 1 ≤ sp by omega) (by omega) (by omega)
      omega
    have := tdiv_bd h1 (e := e) (by omega) (by omega)
    omega
theorem stOff0_bd {ph e : Int} (hp : 0 ≤ ph) (e1 : -60000 ≤ e) (e2 : e ≤ 60000) : -200000 ≤ stOff0 ph e ∧ stOff0 ph e ≤ 200000 := by
  unfold stOff0
  split
  · omega
  · have := tdiv_bd (show 1 ≤ ph by omega) (e := e) (by omega) (by omega)
    omega
end Go.Proofs.Ytdoledckkbcihaa
