/- The values of impl.RotateFlux and spec.RotateFlux. -/
import Derived.Test.YtjilcobagmelgaaTimesFlux
import Derived.Test.YtjilcobagmelgaaFluxVal
import Derived.Test.YtjilcobagmelgaaChangesOf
namespace Go.Proofs.Ytjilcobagmelgaa
open Go.RowKit
set_option linter.unusedVariables false
/-- Change k is the first one that is not ahead of b; k = length: there is none. -/
structure IsStart (b f : Int) (zs : List Int) (k : Nat) : Prop where
  le : k ≤ zs.length
  before : ∀ j, j < k → tAt f zs j < b
  from_ : k < zs.length → b ≤ tAt f zs k
theorem tAt_le {f : Int} {zs : List Int} (hz : zs.all (inB 1 2000000) = true) {i j : Nat} (h : i ≤ j) : tAt f zs i ≤ tAt f zs j := by
  induction j with
  | zero =>
    obtain rfl : i = 0 := by omega
    exact Int.le_refl _
  | succ j ih =>
    by_cases e : i = j + 1
    · subst e; exact Int.le_refl _
    · have h1 := ih (by omega)
      have h2 : tAt f zs j ≤ tAt f zs (j + 1) := by
        by_cases hj : j < zs.length
        · have hx : zs[j]? = some zs[j] := List.getElem?_eq_getElem hj
          have := bd_of_all hz hx
          rw [tAt_succ hx]; omega
        · unfold tAt
          rw [List.take_of_length_le (by omega), List.take_of_length_le (by omega)]
          exact Int.le_refl _
      omega
/-- The time of change m behind the new index. -/
def rotAt (b f all : Int) (zs : List Int) (m : Nat) : Int := if tAt f zs m - b < 0 then tAt f zs m - b + all else tAt f zs m - b
def rotTimes (b f all : Int) (zs : List Int) (k : Nat) : List Int := (List.range zs.length).map fun i => rotAt b f all zs ((k + i) % zs.length)
theorem rotTimes_length (b f all : Int) (zs : List Int) (k : Nat) : (rotTimes b f all zs k).length = zs.length := by simp [rotTimes]
theorem rotTimes_at (b f all : Int) (zs : List Int) (k i : Nat) (h : i < zs.length) : (rotTimes b f all zs k)[i]? = some (rotAt b f all zs ((k + i) % zs.length)) := by simp [rotTimes, h]
theorem rotAt_before {b f all : Int} {zs : List Int} {k m : Nat} (h : IsStart b f zs k) (hm : m < k) : rotAt b f all zs m = tAt f zs m - b + all := by
  unfold rotAt; rw [if_pos (by have := h.before m hm; omega)]
theorem rotAt_from {b f all : Int} {zs : List Int} {k m : Nat} (hz : zs.all (inB 1 2000000) = true) (h : IsStart b f zs k) (hm : k ≤ m) (hn : m < zs.length) : rotAt b f all zs m = tAt f zs m - b := by
  unfold rotAt
  have h1 := h.from_ (by omega)
  have h2 := tAt_le (f := f) hz hm
  rw [if_neg (by omega)]
theorem mod_lt2 {x n : Nat} (h : x < n + n) : x % n = if x < n then x else x - n := by
  split
  · exact Nat.mod_eq_of_lt (by assumption)
  · rw [show x = (x - n) + n by omega, Nat.add_mod_right, Nat.mod_eq_of_lt (by omega)]; omega
theorem tAt_zero (f : Int) (zs : List Int) : tAt f zs 0 = f := by simp [tAt]
theorem tAt_last (f : Int) (zs : List Int) : tAt f zs zs.length = f + zs.sum := by simp [tAt]
/-- The gap behind change m. -/
theorem gap_of {f : Int} {zs : List Int} {m : Nat} (h : m < zs.length) : zs[m]? = some (tAt f zs (m + 1) - tAt f zs m) := by
  have hx : zs[m]? = some zs[m] := List.getElem?_eq_getElem h
  rw [tAt_succ hx, hx]
  congr 1; omega
theorem rot_gap {b f : Int} {zs : List Int} {k i : Nat} (hz : zs.all (inB 1 2000000) = true) (h : IsStart b f zs k) (hi : i < zs.length) :
    some (gapAt (rotTimes b f zs.sum zs k) zs.sum i) = zs[(k + i) % zs.length]? := by
  have hk := h.le
  have hm1 := mod_lt2 (x := k + i) (n := zs.length) (by omega)
  have t0 := tAt_zero f zs
  have tn := tAt_last f zs
  by_cases hl : i + 1 < zs.length
  · have hm2 := mod_lt2 (x := k + (i + 1)) (n := zs.length) (by omega)
    rw [gapAt_mid (rotTimes_at b f zs.sum zs k i hi) (rotTimes_at b f zs.sum zs k (i + 1) hl)]
    rw [hm1, hm2]
    by_cases c1 : k + i < zs.length
    · rw [if_pos c1, gap_of (f := f) c1, rotAt_from hz h (by omega) c1]
      by_cases c2 : k + (i + 1) < zs.length
      · rw [if_pos c2, rotAt_from hz h (by omega) c2]
        congr 1
        rw [show k + i + 1 = k + (i + 1) by omega]; omega
      · rw [if_neg c2, show k + (i + 1) - zs.length = 0 by omega, rotAt_before h (by omega), show k + i + 1 = zs.length by omega, tn, t0]
        congr 1; omega
    · rw [if_neg c1, if_neg (by omega), gap_of (f := f) (by omega), rotAt_before h (by omega), rotAt_before h (by omega)]
      congr 1
      rw [show k + (i + 1) - zs.length = k + i - zs.length + 1 by omega]; omega
  · have h0 : 0 < zs.length := by omega
    rw [gapAt_end (rotTimes_at b f zs.sum zs k i hi) (rotTimes_at b f zs.sum zs k 0 h0) (by rw [rotTimes_length]; exact hl)]
    have hm0 := mod_lt2 (x := k + 0) (n := zs.length) (by omega)
    rw [hm1, hm0, Nat.add_zero]
    by_cases ck : k < zs.length
    · rw [if_pos ck, rotAt_from hz h (Nat.le_refl _) ck]
      by_cases c0 : k = 0
      · subst c0
        rw [if_pos (by omega), gap_of (f := f) (by omega), rotAt_from hz h (by omega) (by omega), show 0 + i + 1 = zs.length by omega, tn, t0]
        congr 1; omega
      · rw [if_neg (by omega), gap_of (f := f) (by omega), rotAt_before h (by omega), show k + i - zs.length + 1 = k by omega]
        congr 1; omega
    · obtain rfl : k = zs.length := by omega
      rw [if_neg ck, Nat.sub_self, rotAt_before h (by omega), if_neg (by omega), gap_of (f := f) (by omega), rotAt_before h (by omega), show zs.length + i - zs.length + 1 = zs.length by omega, tn, t0]
      congr 1; omega
theorem rot_list_at (zs : List Int) (s i : Nat) (hs : s < zs.length) (hi : i < zs.length) : (zs.drop s ++ zs.take s)[i]? = zs[(s + i) % zs.length]? := by
  rw [mod_lt2 (by omega)]
  by_cases h : s + i < zs.length
  · rw [if_pos h, List.getElem?_append_left (by simp; omega), List.getElem?_drop]
  · rw [if_neg h, List.getElem?_append_right (by simp; omega), List.length_drop, List.getElem?_take_of_lt (by omega)]
    congr 1; omega
/-- The gaps of the rotated times are the rotated gaps. -/
theorem rot_gaps {b f : Int} {zs : List Int} {k : Nat} (hz : zs.all (inB 1 2000000) = true) (hn : 0 < zs.length) (h : IsStart b f zs k) :
    gapsOf (rotTimes b f zs.sum zs k) zs.sum = zs.drop (k % zs.length) ++ zs.take (k % zs.length) := by
  have hs : k % zs.length < zs.length := Nat.mod_lt _ hn
  apply List.ext_getElem?
  intro i
  by_cases hi : i < zs.length
  · rw [gapsOf_at _ _ i (by rw [rotTimes_length]; exact hi), rot_gap hz h hi, rot_list_at zs _ i hs hi, Nat.mod_add_mod]
  · rw [List.getElem?_eq_none (by rw [gapsOf_length, rotTimes_length]; omega), List.getElem?_eq_none (by simp; omega)]
def rotFirst (b f : Int) (zs : List Int) (k : Nat) : Int := if k < zs.length then tAt f zs k - b else zs.sum + f - b
theorem rot_first {b f : Int} {zs : List Int} {k : Nat} (hz : zs.all (inB 1 2000000) = true) (hn : 0 < zs.length) (h : IsStart b f zs k) : (rotTimes b f zs.sum zs k)[0]? = some (rotFirst b f zs k) := by
  have hk := h.le
  rw [rotTimes_at _ _ _ _ _ 0 hn, Nat.add_zero]
  unfold rotFirst
  by_cases c : k < zs.length
  · rw [if_pos c, Nat.mod_eq_of_lt c, rotAt_from hz h (Nat.le_refl _) c]
  · obtain rfl : k = zs.length := by omega
    rw [if_neg c, Nat.mod_self, rotAt_before h hn, tAt_zero]
    congr 1; omega
/-- The first change that is not ahead of b. -/
def rotStart (b f : Int) (zs : List Int) : Nat := (List.range zs.length).findIdx fun k => decide (b ≤ tAt f zs k)
theorem rotStart_eq {b f : Int} {zs : List Int} {k : Nat} (h : IsStart b f zs k) : rotStart b f zs = k := by
  unfold rotStart
  by_cases c : k < zs.length
  · rw [List.findIdx_eq (by simpa using c)]
    refine ⟨by simpa using h.from_ c, fun j hj => ?_⟩
    have := h.before j hj
    simp; omega
  · obtain rfl : k = zs.length := by have := h.le; omega
    have : (List.range zs.length).findIdx (fun k => decide (b ≤ tAt f zs k)) = (List.range zs.length).length := by
      rw [List.findIdx_eq_length]
      intro x hx
      have := h.before x (List.mem_range.1 hx)
      simp; omega
    rw [this, List.length_range]
theorem rotStart_is (b f : Int) (zs : List Int) (hz : zs.all (inB 1 2000000) = true) : ∃ k, IsStart b f zs k := by
  have : ∀ n, n ≤ zs.length → (∀ j, j < n → tAt f zs j < b) ∨ ∃ k, IsStart b f zs k := by
    intro n
    induction n with
    | zero => exact fun _ => .inl fun j hj => by omega
    | succ n ih =>
      intro hn
      rcases ih (by omega) with h | h
      · by_cases c : tAt f zs n < b
        · left
          intro j hj
          by_cases e : j = n
          · subst e; exact c
          · exact h j (by omega)
        · exact .inr ⟨n, by omega, h, fun _ => by omega⟩
      · exact .inr h
  rcases this zs.length (Nat.le_refl _) with h | h
  · exact ⟨zs.length, Nat.le_refl _, h, fun c => by omega⟩
  · exact h
def rotVal (c f : Int) (zs : List Int) (b : Int) : FluxVal :=
  if fluxOk c f zs = true then
    if inB 0 (zs.sum - 1) b = true then ⟨c, rotFirst b f zs (rotStart b f zs), zs.drop (rotStart b f zs % zs.length) ++ zs.take (rotStart b f zs % zs.length), 0⟩
    else .none 2
  else .none 1
theorem rotVal_len (c f : Int) (zs : List Int) (b : Int) (hl : zs.length ≤ 1048576) : (rotVal c f zs b).gaps.length ≤ 1048576 := by
  unfold rotVal
  split
  · split
    · simp; omega
    · simp [FluxVal.none]
  · simp [FluxVal.none]
end Go.Proofs.Ytjilcobagmelgaa
