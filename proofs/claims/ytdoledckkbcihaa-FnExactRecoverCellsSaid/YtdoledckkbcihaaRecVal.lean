/- The cells that a clock recovers. -/
import Derived.Test.YtdoledckkbcihaaClkErr
import Derived.Test.YtdoledckkbcihaaSum64
namespace Go.Proofs.Ytdoledckkbcihaa
open Go.RowKit
set_option linter.unusedVariables false
set_option linter.unusedSimpArgs false
def rcZ (lead : Int) (ns : List Int) (k : Nat) : List Int := lead :: (ns.take k).map (· - 1)
theorem rcZ_succ {lead : Int} {ns : List Int} {k : Nat} {x : Int} (h : ns[k]? = some x) : rcZ lead ns (k + 1) = rcZ lead ns k ++ [x - 1] := by
  unfold rcZ; rw [List.take_add_one, h]; simp
theorem rcZ_len {lead : Int} {ns : List Int} {k : Nat} (h : k ≤ ns.length) : (rcZ lead ns k).length = k + 1 := by simp [rcZ]; omega
theorem rcZ_at {lead : Int} {ns : List Int} {k j : Nat} {x : Int} (h : ns[j]? = some x) (hj : j < k) : (rcZ lead ns k)[j + 1]? = some (x - 1) := by
  unfold rcZ
  rw [List.getElem?_cons_succ, List.getElem?_map, List.getElem?_take_of_lt hj, h]; rfl
def rcTail (lead : Int) (ns : List Int) : Int := max (ns.getD (ns.length - 1) 0 - 1 - lead) 0
def rcSum (lead : Int) (ns : List Int) : Int := (rcZ lead ns (ns.length - 1)).sum + ns.length + rcTail lead ns
def oneZ (z : Int) : List UInt8 := List.replicate z.toNat 48 ++ [49]
def rcB (l : List Int) : List UInt8 := l.flatMap oneZ
theorem rcB_snoc (l : List Int) (z : Int) : rcB (l ++ [z]) = rcB l ++ oneZ z := by simp [rcB]
def rcOut (lead : Int) (ns : List Int) : ByteArray := ⟨(rcB (rcZ lead ns (ns.length - 1)) ++ List.replicate (rcTail lead ns).toNat 48).toArray⟩
/-- All of them are 0 to 500000. -/
def zB (l : List Int) : Bool := l.all (inB 0 500000)
theorem zB_rc {lead : Int} {ns : List Int} (h0 : 0 ≤ lead) (h1 : lead ≤ 500000) (hn : ∀ x ∈ ns, 1 ≤ x ∧ x ≤ 100) (k : Nat) : zB (rcZ lead ns k) = true := by
  unfold zB rcZ
  rw [List.all_eq_true]
  intro x hx
  rw [inB_iff]
  rcases List.mem_cons.1 hx with rfl | hx
  · exact ⟨h0, h1⟩
  · obtain ⟨y, hy, rfl⟩ := List.mem_map.1 hx
    have := hn y (List.mem_of_mem_take hy)
    omega
theorem rcB_len {l : List Int} (h : zB l = true) (k : Nat) : (rcB (l.take k)).length ≤ 500001 * k := by
  induction k with
  | zero => simp [rcB]
  | succ k ih =>
    cases hx : l[k]? with
    | none => rw [List.take_add_one, hx]; simp only [Option.toList_none, List.append_nil]; omega
    | some x =>
      have := inB_iff.1 (List.all_eq_true.1 h x (List.mem_of_getElem? hx))
      rw [List.take_add_one, hx, Option.toList_some, rcB_snoc, List.length_append]
      have e : (oneZ x).length = x.toNat + 1 := by simp [oneZ]
      omega
theorem sumZ_bd {zs : List Int} (h : zB zs = true) (k : Nat) : 0 ≤ (zs.take k).sum ∧ (zs.take k).sum ≤ 500000 * (k : Int) := by
  induction k with
  | zero => simp
  | succ k ih =>
    by_cases hk : k < zs.length
    · obtain ⟨x, hx⟩ := getOf hk
      have := inB_iff.1 (List.all_eq_true.1 h x (List.mem_of_getElem? hx))
      rw [sum_snoc hx]; omega
    · rw [List.take_of_length_le (by omega), ← List.take_of_length_le (i := k) (by omega : zs.length ≤ k)]
      omega
theorem sum_map_pred (l : List Int) : (l.map (· - 1)).sum = l.sum - l.length := by
  induction l with
  | nil => rfl
  | cons x l ih => simp only [List.map_cons, List.sum_cons, ih, List.length_cons]; omega
theorem rcSum_eq {lead : Int} {ns : List Int} (h : 0 < ns.length) : rcSum lead ns = lead + 1 + rcTail lead ns + (ns.take (ns.length - 1)).sum := by
  unfold rcSum rcZ
  rw [List.sum_cons, sum_map_pred, List.length_take]
  omega
def rcCode (cl f : Int) (zs : List Int) (c l h p s : Int) : Int := if ckCode cl f zs c l h p s = 0 then (if 8000 < rcSum (f.tdiv c) (ckNs c l h p s f zs zs.length) then 5 else 0) else ckCode cl f zs c l h p s
def rcV (cl f : Int) (zs : List Int) (c l h p s : Int) : ByteArray := if rcCode cl f zs c l h p s = 0 then rcOut (f.tdiv c) (ckNs c l h p s f zs zs.length) else ByteArray.empty
theorem rc_bad {cl f : Int} {zs : List Int} {c l h p s : Int} (h0 : ¬ ckCode cl f zs c l h p s = 0) : rcCode cl f zs c l h p s = ckCode cl f zs c l h p s ∧ rcV cl f zs c l h p s = ByteArray.empty := by simp [rcV, rcCode, h0]
theorem rc_full {cl f : Int} {zs : List Int} {c l h p s : Int} (h0 : ckCode cl f zs c l h p s = 0) (h1 : 8000 < rcSum (f.tdiv c) (ckNs c l h p s f zs zs.length)) : rcCode cl f zs c l h p s = 5 ∧ rcV cl f zs c l h p s = ByteArray.empty := by simp [rcV, rcCode, h0, h1]
theorem rc_good {cl f : Int} {zs : List Int} {c l h p s : Int} (h0 : ckCode cl f zs c l h p s = 0) (h1 : ¬ 8000 < rcSum (f.tdiv c) (ckNs c l h p s f zs zs.length)) : rcCode cl f zs c l h p s = 0 ∧ rcV cl f zs c l h p s = rcOut (f.tdiv c) (ckNs c l h p s f zs zs.length) := by simp [rcV, rcCode, h0, h1]
theorem ck_good {cl f : Int} {zs : List Int} {c l h p s : Int} (h0 : ckCode cl f zs c l h p s = 0) : fluxOk cl f zs = true ∧ clockOk c l h p s = true ∧ ckOk c l h p s f zs zs.length = true := by
  unfold ckCode at h0
  split at h0
  · next h1 =>
    rw [Bool.and_eq_true] at h1
    split at h0
    · next h2 => exact ⟨h1.1, h1.2, h2⟩
    · omega
  · omega
/-- The bounds of the cells of gaps. -/
theorem ckNs_bd {cl f : Int} {zs : List Int} {c l h p s : Int} (h0 : ckCode cl f zs c l h p s = 0) : (∀ x ∈ ckNs c l h p s f zs zs.length, 1 ≤ x ∧ x ≤ 100) ∧ 0 ≤ f.tdiv c ∧ f.tdiv c ≤ 500000 ∧ 1 ≤ zs.length ∧ zs.length ≤ 4000 ∧ 0 ≤ f ∧ 4 ≤ c := by
  obtain ⟨h1, h2, h3⟩ := ck_good h0
  obtain ⟨_, hn, hz, hsum, hf0, hf1⟩ := fluxOk_iff.1 h1
  have hc := (clockOk_iff.1 h2).1
  have hf2 : f ≤ 2000000 := by
    obtain ⟨x, hx⟩ := getOf (zs := zs) (k := zs.length - 1) (by omega)
    have h9 := inB_iff.1 (List.all_eq_true.1 hz x (List.mem_of_getElem? hx))
    rw [hx] at hf1
    simp at hf1
    omega
  refine ⟨?_, ?_, ?_, hn.1, hn.2, hf0, hc.1⟩
  · intro x hx
    obtain ⟨k, hk, rfl⟩ := List.mem_map.1 hx
    have hk' : k < zs.length := List.mem_range.1 hk
    have h9 := inB_iff.1 (List.all_eq_true.1 hz zs[k] (by simp))
    exact ⟨(ckN_bd h2 hf0 (show zs[k]? = some zs[k] by simp) h9.1 h9.2).1, ckOk_bd h3 k hk'⟩
  · rw [Int.tdiv_eq_ediv_of_nonneg hf0]; exact Int.ediv_nonneg hf0 (by omega)
  · rw [Int.tdiv_eq_ediv_of_nonneg hf0]
    have : f / c ≤ f / 4 := by
      apply Int.le_ediv_of_mul_le (by omega)
      have h6 := Int.ediv_mul_le f (show c ≠ 0 by omega)
      have h7 := Int.ediv_nonneg hf0 (show 0 ≤ c by omega)
      have h8 : f / c * 4 ≤ f / c * c := Int.mul_le_mul_of_nonneg_left hc.1 h7
      omega
    omega
end Go.Proofs.Ytdoledckkbcihaa
