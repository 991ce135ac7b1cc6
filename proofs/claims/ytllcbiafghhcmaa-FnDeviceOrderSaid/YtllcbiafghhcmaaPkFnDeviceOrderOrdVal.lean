/- The order of the sectors of a device: as data. -/
import Derived.Test.YtllcbiafghhcmaaPkFnDeviceOrderDevWr
namespace Go.Proofs.Ytllcbiafghhcmaa
open Go.RowKit
set_option linter.unusedVariables false
def ordAt (c sk k : Nat) : Nat := k / c * c + (k % c + k / c * sk) % c
theorem ordAt_lt {a c sk k : Nat} (hc : 0 < c) (hk : k < a * c) : ordAt c sk k < a * c := by
  unfold ordAt
  have h1 : k / c < a := (Nat.div_lt_iff_lt_mul hc).2 hk
  have h2 := Nat.mod_lt (k % c + k / c * sk) hc
  have h3 : (k / c + 1) * c ≤ a * c := Nat.mul_le_mul_right _ h1
  rw [Nat.add_mul, Nat.one_mul] at h3
  omega
theorem ordAt_tj {c sk t j : Nat} (hj : j < c) : ordAt c sk (t * c + j) = t * c + (j + t * sk) % c := by
  unfold ordAt
  have e1 : (t * c + j) / c = t := by rw [Nat.mul_comm, Nat.mul_add_div (by omega), Nat.div_eq_of_lt hj, Nat.add_zero]
  have e2 : (t * c + j) % c = j := by rw [Nat.mul_comm, Nat.mul_add_mod, Nat.mod_eq_of_lt hj]
  rw [e1, e2]
/-- The first n sectors in the order of a disc. -/
def ordL (c sk n : Nat) : List Int := (List.range n).map fun k => ((ordAt c sk k : Nat) : Int)
theorem ordL_len (c sk n : Nat) : (ordL c sk n).length = n := by simp [ordL]
theorem ordL_succ (c sk n : Nat) : ordL c sk (n + 1) = ordL c sk n ++ [((ordAt c sk n : Nat) : Int)] := by simp [ordL, List.range_succ]
theorem ordL_get {c sk n k : Nat} (h : k < n) : (ordL c sk n)[k]? = some ((ordAt c sk k : Nat) : Int) := by simp [ordL, h]
theorem len_le_of_sub : ∀ (l m : List Int), l.Nodup → (∀ x ∈ l, x ∈ m) → l.length ≤ m.length
  | [], m, _, _ => Nat.zero_le _
  | x :: t, m, hn, hs => by
    have hx := hs x (by simp)
    have ht := len_le_of_sub t (m.erase x) (List.nodup_cons.1 hn).2 (fun y hy => (List.mem_erase_of_ne (fun (e : y = x) => (List.nodup_cons.1 hn).1 (by rw [← e]; exact hy))).2 (hs y (by simp [hy])))
    rw [List.length_erase_of_mem hx] at ht
    have : 0 < m.length := List.length_pos_of_mem hx
    simp only [List.length_cons]; omega
/-- Numbers below n, as many as n and each once: all of them. -/
theorem all_in {zs : List Int} {n : Nat} (hl : zs.length = n) (hz : ∀ z ∈ zs, 0 ≤ z ∧ z < (n : Int)) (hn : zs.Nodup) {i : Nat} (hi : i < n) : (i : Int) ∈ zs := by
  apply Classical.byContradiction
  intro h
  have := len_le_of_sub ((i : Int) :: zs) ((List.range n).map fun (k : Nat) => (k : Int)) (List.nodup_cons.2 ⟨h, hn⟩) (by
    intro x hx
    rcases List.mem_cons.1 hx with rfl | hx
    · exact List.mem_map.2 ⟨i, List.mem_range.2 hi, rfl⟩
    · obtain ⟨a, b⟩ := hz x hx
      exact List.mem_map.2 ⟨x.toNat, List.mem_range.2 (by omega), by omega⟩)
  simp at this; omega
/-- The first sector of the first n in the order of a disc that is none of zs. -/
def freeK (c sk : Nat) (zs : List Int) (n : Nat) : Option Int := (ordL c sk n).find? fun z => !decide (z ∈ zs)
theorem freeK_succ (c sk : Nat) (zs : List Int) (n : Nat) (h : freeK c sk zs n = none) : freeK c sk zs (n + 1) = if (((ordAt c sk n : Nat) : Int)) ∈ zs then none else some ((ordAt c sk n : Nat) : Int) := by
  unfold freeK at *
  rw [ordL_succ, List.find?_append, h]
  by_cases hm : (((ordAt c sk n : Nat) : Int)) ∈ zs <;> simp [hm]
theorem freeK_more {c sk : Nat} {zs : List Int} {n m : Nat} {z : Int} (h : freeK c sk zs n = some z) (hm : n ≤ m) : freeK c sk zs m = some z := by
  unfold freeK at *
  obtain ⟨d, rfl⟩ : ∃ d, m = n + d := ⟨m - n, by omega⟩
  unfold ordL at *
  rw [List.range_add, List.map_append, List.find?_append, h]
  rfl
theorem freeK_none {c sk a : Nat} {zs : List Int} (hc : 0 < c) (hl : zs.length = a * c) (hz : ∀ z ∈ zs, 0 ≤ z ∧ z < ((a * c : Nat) : Int)) (hn : zs.Nodup) : freeK c sk zs (a * c) = none := by
  unfold freeK
  rw [List.find?_eq_none]
  intro x hx
  obtain ⟨k, hk, rfl⟩ := List.mem_map.1 hx
  simp [all_in hl hz hn (ordAt_lt (sk := sk) hc (List.mem_range.1 hk))]
theorem freeK_some {c sk a : Nat} {zs : List Int} {z : Int} (hc : 0 < c) (h : freeK c sk zs (a * c) = some z) : ∃ i : Nat, z = (i : Int) ∧ i < a * c ∧ z ∉ zs := by
  have h1 := List.find?_some h
  obtain ⟨k, hk, rfl⟩ := List.mem_map.1 (List.mem_of_find?_eq_some h)
  exact ⟨_, rfl, ordAt_lt hc (List.mem_range.1 hk), by simpa using h1⟩
theorem wrap64_le {x : Int} (h0 : 0 ≤ x) (h1 : x ≤ 1000000) : wrap64 x = x := by unfold wrap64; omega
theorem ord_facts {t C S j T : Nat} (hltj : j < C) (hT16 : T ≤ 16) (hlt : t < T) (hC8 : 1 ≤ C ∧ C ≤ 8) (hS : S ≤ 7) :
    wrap64 ((t : Int) * (S : Int)) = (t : Int) * (S : Int) ∧ wrap64 ((j : Int) + (t : Int) * (S : Int)) = (j : Int) + (t : Int) * (S : Int) ∧
    wrap64 ((t : Int) * (C : Int)) = (t : Int) * (C : Int) ∧ wrap64 ((t : Int) * (C : Int) + ((j : Int) + (t : Int) * (S : Int)) % (C : Int)) = (t : Int) * (C : Int) + ((j : Int) + (t : Int) * (S : Int)) % (C : Int) ∧
    ((j : Int) + (t : Int) * (S : Int)).tmod (C : Int) = ((j : Int) + (t : Int) * (S : Int)) % (C : Int) ∧
    ((ordAt C S (t * C + j) : Nat) : Int) = (t : Int) * (C : Int) + ((j : Int) + (t : Int) * (S : Int)) % (C : Int) ∧
    wrap64 (((j : Int) + (t : Int) * (S : Int)) % (C : Int)) = ((j : Int) + (t : Int) * (S : Int)) % (C : Int) ∧ 0 ≤ (t : Int) * (S : Int) ∧ (t : Int) * (S : Int) ≤ 112 ∧ 0 ≤ ((j : Int) + (t : Int) * (S : Int)) % (C : Int) ∧ ((j : Int) + (t : Int) * (S : Int)) % (C : Int) < (C : Int) := by
  have u1 : (t : Int) * (S : Int) ≤ 112 := by have := Int.mul_le_mul (show (t : Int) ≤ 16 by omega) (show (S : Int) ≤ 7 by omega) (by omega) (by omega); omega
  have u0 : 0 ≤ (t : Int) * (S : Int) := Int.mul_nonneg (by omega) (by omega)
  have u2 : (t : Int) * (C : Int) ≤ 128 := by have := Int.mul_le_mul (show (t : Int) ≤ 16 by omega) (show (C : Int) ≤ 8 by omega) (by omega) (by omega); omega
  have u3 : 0 ≤ (t : Int) * (C : Int) := Int.mul_nonneg (by omega) (by omega)
  have r0 : 0 ≤ ((j : Int) + (t : Int) * (S : Int)) % (C : Int) := Int.emod_nonneg _ (by omega)
  have r1 : ((j : Int) + (t : Int) * (S : Int)) % (C : Int) < (C : Int) := Int.emod_lt_of_pos _ (by omega)
  refine ⟨wrap64_le u0 (by omega), wrap64_le (by omega) (by omega), wrap64_le u3 (by omega), wrap64_le (by omega) (by omega), Int.tmod_eq_emod_of_nonneg (by omega), ?_, wrap64_le r0 (by omega), u0, u1, r0, r1⟩
  rw [ordAt_tj hltj]
  push_cast
  rfl
/-- The first k of n numbers. -/
def rndsO (n k : Nat) : List (Fin n) := (List.finRange n).take k
theorem rndsO_succ {n k : Nat} (h : k < n) : rndsO n (k + 1) = rndsO n k ++ [⟨k, h⟩] := by
  unfold rndsO
  rw [List.take_succ_eq_append_getElem (by simpa using h)]
  simp
theorem rndsO_length {n k : Nat} (h : k ≤ n) : (rndsO n k).length = k := by simp [rndsO]; omega
theorem rndsO_map (c sk : Nat) {n : Nat} : ∀ k, k ≤ n → (rndsO n k).map (fun x => ((ordAt c sk x.val : Nat) : Int)) = ordL c sk k
  | 0, _ => by simp [rndsO, ordL]
  | k + 1, h => by rw [rndsO_succ (by omega), List.map_append, rndsO_map c sk k (by omega), ordL_succ]; simp
abbrev ordEnc (c sk : Nat) {N : Nat} (x : Fin N) : Array Value := #[.int .i64 ((ordAt c sk x.val : Nat) : Int)]
/-- Block b lies as it lay. -/
def KBo (b : Nat) (w w' : World) : Prop := w'.heap[b]? = w.heap[b]?
theorem KBo.trans {b : Nat} {x y z : World} (h : KBo b x y) (k : KBo b y z) : KBo b x z := Eq.trans k h
/-- A new device's code and value. -/
def ndC (x : DiscV) (sk sp : Int) : Int := if discB x = true then (if (inB 0 7 sk && inB 0 ((x.f4.length : Int) - 1) sp) = true then 0 else 2) else 1
def ndV (x : DiscV) (sk sp : Int) : DeviceV := if ndC x sk sp = 0 then ⟨x, sk, sp, ordL x.f2.toNat sk.toNat (x.f4.length - sp.toNat)⟩ else devZ
theorem ndV_len (x : DiscV) (sk sp : Int) (h : x.f4.length ≤ 1048576) : LenDevice 1048576 (ndV x sk sp) := by
  unfold ndV
  split
  · exact ⟨h, by rw [ordL_len]; omega⟩
  · exact ⟨by simp [devZ], by simp [devZ]⟩
/-- A block moved to a spare sector: the code and the device. -/
def rpF (x : DeviceV) : Option Int := freeK x.f0.f2.toNat x.f1.toNat x.f3 x.f0.f4.length
def rpC (x : DeviceV) (k : Int) : Int := if secC x k = 0 then (match rpF x with | none => 5 | some _ => 0) else secC x k
def rpV (x : DeviceV) (k : Int) : DeviceV := if secC x k = 0 then (match rpF x with | none => devZ | some z => { setS x z.toNat ⟨contV (secE x k), 1⟩ with f3 := x.f3.set k.toNat z }) else devZ
theorem rpV_len (x : DeviceV) (k : Int) (h : LenDevice 1048576 x) : LenDevice 1048576 (rpV x k) := by
  unfold rpV
  split
  · split
    · exact ⟨by simp [devZ], by simp [devZ]⟩
    · exact ⟨by unfold setS; simpa using h.1, by simpa using h.2⟩
  · exact ⟨by simp [devZ], by simp [devZ]⟩
end Go.Proofs.Ytllcbiafghhcmaa
