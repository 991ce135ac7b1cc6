/- A new device, as data: it is valid, and its blocks lie on their tracks. -/
import Derived.Test.YtllcbiafghhcmaaPkFnDeviceOrderNewDevIm
namespace Go.Proofs.Ytllcbiafghhcmaa
open Go.RowKit
set_option linter.unusedVariables false
theorem ordAt_div {c sk k : Nat} (hc : 0 < c) : ordAt c sk k / c = k / c := by
  unfold ordAt
  rw [Nat.mul_comm, Nat.mul_add_div hc, Nat.div_eq_of_lt (Nat.mod_lt _ hc), Nat.add_zero]
theorem ordAt_mod {c sk k : Nat} (hc : 0 < c) : ordAt c sk k % c = (k % c + k / c * sk) % c := by
  unfold ordAt
  rw [Nat.mul_comm (k / c) c, Nat.mul_add_mod, Nat.mod_mod]
theorem addmod_cancel {r r' s c : Nat} (h1 : r < c) (h2 : r' < c) (h : (r + s) % c = (r' + s) % c) : r = r' := by
  have hs := Nat.mod_lt s (show 0 < c by omega)
  rw [Nat.add_mod r s, Nat.add_mod r' s, Nat.mod_eq_of_lt h1, Nat.mod_eq_of_lt h2] at h
  have key : ∀ x, x < c → (x + s % c) % c = if x + s % c < c then x + s % c else x + s % c - c := by
    intro x hx
    split
    · exact Nat.mod_eq_of_lt ‹_›
    · rw [Nat.mod_eq_sub_mod (by omega), Nat.mod_eq_of_lt (by omega)]
  rw [key r h1, key r' h2] at h
  split at h <;> split at h <;> omega
theorem ordAt_inj {c sk j k : Nat} (hc : 0 < c) (h : ordAt c sk j = ordAt c sk k) : j = k := by
  have h1 : j / c = k / c := by rw [← ordAt_div (sk := sk) hc, h, ordAt_div hc]
  have h2 : (j % c + j / c * sk) % c = (k % c + k / c * sk) % c := by rw [← ordAt_mod hc, h, ordAt_mod hc]
  rw [h1] at h2
  have h3 : j % c = k % c := addmod_cancel (Nat.mod_lt _ hc) (Nat.mod_lt _ hc) h2
  rw [← Nat.div_add_mod j c, ← Nat.div_add_mod k c, h1, h3]
theorem ordL_nodup {c sk : Nat} (hc : 0 < c) : ∀ n, (ordL c sk n).Nodup
  | 0 => by simp [ordL]
  | n + 1 => by
    rw [ordL_succ, List.nodup_append]
    refine ⟨ordL_nodup hc n, by simp, ?_⟩
    intro a ha b hb he
    rw [List.mem_singleton] at hb
    subst hb
    subst he
    obtain ⟨k, hk, e⟩ := List.mem_map.1 ha
    have : k = n := ordAt_inj hc (Int.ofNat.inj e)
    have := List.mem_range.1 hk
    omega
theorem ndV_ok {x : DiscV} {sk sp : Int} (h : ndC x sk sp = 0) : devB (ndV x sk sp) = true ∧ devN (ndV x sk sp) = (x.f4.length : Int) - sp ∧ (0 ≤ sp ∧ sp ≤ (x.f4.length : Int) - 1) ∧ 1 ≤ x.f2 ∧ x.f2 ≤ 1000 ∧ x.f4.length ≤ 128 ∧
    ∀ b : Nat, (b : Int) < (x.f4.length : Int) - sp → secC (ndV x sk sp) (b : Int) = 0 ∧ 0 ≤ secV (ndV x sk sp) (b : Int) ∧ (secV (ndV x sk sp) (b : Int)).tdiv x.f2 = (b : Int).tdiv x.f2 := by
  have hV : ndV x sk sp = ⟨x, sk, sp, ordL x.f2.toNat sk.toNat (x.f4.length - sp.toNat)⟩ := by unfold ndV; rw [if_pos h]
  unfold ndC at h
  split at h
  case isFalse => simp at h
  rename_i hd
  split at h
  case isFalse => simp at h
  rename_i hi
  simp only [Bool.and_eq_true] at hi
  obtain ⟨h1, h2⟩ := hi
  have h1' := inB_iff.1 h1
  have h2' := inB_iff.1 h2
  obtain ⟨f0, f1, f2, f3, es⟩ := x
  obtain ⟨T, C, hC, hT, hl, hl1, hl2, hg⟩ := disc_nums hd
  obtain ⟨g0, g1, g2, g3⟩ := geoB_iff.1 hg
  simp only at *
  subst hC
  rw [Int.toNat_natCast] at hV
  have hc : 0 < C := by omega
  have hlen : (ordL C sk.toNat (es.length - sp.toNat)).length = es.length - sp.toNat := ordL_len _ _ _
  have hB : devB (ndV ⟨f0, f1, (C : Int), f3, es⟩ sk sp) = true := by
    rw [hV]
    unfold devB
    simp only [Bool.and_eq_true, decide_eq_true_eq]
    refine ⟨hd, h1, h2, by rw [hlen]; omega, ?_, ordL_nodup hc _⟩
    rw [List.all_eq_true]
    intro z hz
    obtain ⟨k, hk, rfl⟩ := List.mem_map.1 hz
    have := List.mem_range.1 hk
    have := ordAt_lt (a := T) (sk := sk.toNat) hc (k := k) (by omega)
    exact inB_iff.2 (by omega)
  have hN : devN (ndV ⟨f0, f1, (C : Int), f3, es⟩ sk sp) = (es.length : Int) - sp := by
    unfold devN
    rw [if_pos hB, hV]
    simp only
    rw [hlen]; omega
  refine ⟨hB, hN, by omega, by omega, by omega, hl2, fun b hb => ?_⟩
  have hS : secC (ndV ⟨f0, f1, (C : Int), f3, es⟩ sk sp) (b : Int) = 0 := by
    unfold secC
    rw [if_pos hB, hV]
    simp only
    rw [hlen, if_pos (inB_iff.2 (by omega))]
  have hv : secV (ndV ⟨f0, f1, (C : Int), f3, es⟩ sk sp) (b : Int) = ((ordAt C sk.toNat b : Nat) : Int) := by
    unfold secV
    rw [if_pos hS, hV]
    simp only [Int.toNat_natCast]
    rw [List.getD_eq_getElem?_getD, ordL_get (by omega)]
    rfl
  refine ⟨hS, by rw [hv]; omega, ?_⟩
  rw [hv, ← Int.ofNat_tdiv, ← Int.ofNat_tdiv, ordAt_div hc]
end Go.Proofs.Ytllcbiafghhcmaa
