import Derived.Test.YteldnfamfjldpaaDraw3
import Derived.Test.YteldnfamfjldpaaSpliceCells
import Derived.Test.YteldnfamfjldpaaRotateCells
import Derived.Test.YteldnfamfjldpaaWFnBits
namespace Go.Proofs.Yteldnfamfjldpaa.fnSplice
open Go.RowKit
set_option linter.unusedVariables false
theorem cell_iff (c : UInt8) : isCell c = true ↔ c.toNat = 48 ∨ c.toNat = 49 := by
  unfold isCell
  rw [Bool.or_eq_true, beq_iff_eq, beq_iff_eq, ← UInt8.toNat_inj, ← UInt8.toNat_inj]
  exact Iff.rfl
theorem valid_of {y : ByteArray} (h1 : 1 ≤ y.size) (h2 : y.size ≤ 8000) (h : ∀ j (hj : j < y.size), y[j].toNat = 48 ∨ y[j].toNat = 49) : validCells y = true := by
  have hb : inB 1 8000 (y.size : Int) = true := by rw [inB_iff]; omega
  unfold validCells
  rw [hb, Bool.and_true]
  unfold cellsL
  rw [List.all_eq_true]
  intro c hc
  obtain ⟨j, hj, rfl⟩ := List.getElem_of_mem hc
  have hj2 : j < y.size := by rw [Array.length_toList] at hj; exact hj
  have := h j hj2
  have e : y.data.toList[j] = y[j] := rfl
  rw [e]
  exact (cell_iff _).2 this
theorem valid_each {y : ByteArray} (h : validCells y = true) (j : Nat) (hj : j < y.size) : y[j].toNat = 48 ∨ y[j].toNat = 49 := by
  unfold validCells at h
  rw [Bool.and_eq_true] at h
  have h1 := h.1
  unfold cellsL at h1
  rw [List.all_eq_true] at h1
  have := h1 y[j] (Array.getElem_mem_toList (xs := y.data) hj)
  exact (cell_iff _).1 this
theorem spC_zero {s p : ByteArray} {a : Int} (h : spC s p a = 0) : validCells s = true ∧ validCells p = true ∧ inB 0 ((s.size : Int) - 1) a = true ∧ p.size ≤ s.size := by
  unfold spC at h
  split at h
  · omega
  · rename_i h1
    split at h
    · omega
    · rename_i h2
      simp only [not_or, Bool.not_eq_false] at h1 h2
      exact ⟨h1.1, h1.2, h2.1, by omega⟩
theorem splice_valid {s p : ByteArray} {a : Nat} (h1 : validCells s = true) (h2 : validCells p = true) : validCells (splice s p a) = true := by
  obtain ⟨b1, b2⟩ := validCells_bd h1
  have hz := splice_size s p a
  refine valid_of (by omega) (by omega) fun j hj => ?_
  rw [splice_at s p a j hj]
  unfold spAt
  split
  · rename_i hlt
    have := valid_each h2 _ hlt
    rw [getElem?_pos p _ hlt]
    exact this
  · have hj2 : j < s.size := by omega
    have := valid_each h1 j hj2
    rw [getElem?_pos s j hj2]
    exact this
theorem rot_valid {x : ByteArray} {k : Nat} (hk : k < x.size) (h : validCells x = true) : validCells (rotS x k) = true := by
  obtain ⟨b1, b2⟩ := validCells_bd h
  have hz := rotS_size x k (by omega)
  refine valid_of (by omega) (by omega) fun j hj => ?_
  rw [rotS_at x k j (by omega) hj (Nat.mod_lt _ (by omega))]
  exact valid_each h _ _
theorem rot_back {x : ByteArray} {a : Nat} (ha : a < x.size) : rotS (rotS x a) (rotK (-(a : Int)) x.size) = x := by
  rw [rotK_neg a _ ha]
  have hz := rotS_size x a (by omega)
  obtain ⟨b, hb, hb1, hb2⟩ : ∃ b, (if a = 0 then 0 else x.size - a) = b ∧ b < x.size ∧ (b + a = x.size ∨ (a = 0 ∧ b = 0)) := by
    refine ⟨_, rfl, ?_⟩
    split <;> omega
  rw [hb]
  have hz2 := rotS_size (rotS x a) b (by omega)
  apply ByteArray.ext_getElem (by omega)
  intro j h1 h2
  have hm1 : (j + b) % x.size < x.size := Nat.mod_lt _ (by omega)
  rw [rotS_at (rotS x a) b j (by omega) h1 (by rw [hz]; exact hm1)]
  have e1 : (j + b) % (rotS x a).size = (j + b) % x.size := by rw [hz]
  simp only [e1]
  rw [rotS_at x a _ (by omega) (by omega) (Nat.mod_lt _ (by omega))]
  congr 1
  rw [Nat.mod_add_mod]
  rcases hb2 with h | ⟨h, h'⟩
  · rw [Nat.add_assoc, h, Nat.add_mod_right]; exact Nat.mod_eq_of_lt h2
  · subst h; subst h'; exact Nat.mod_eq_of_lt h2
set_option maxHeartbeats 4000000 in
theorem walk (a0 : Option Addr) (len0 cap0 : Nat) (z0 : List Int) (w : World) (w0 : IsRow .u8 w a0 len0 cap0 z0) :
    Calls Try.prog 4 #[.slice a0 len0 cap0] w fun e w' => e = .returned (.bool true) ∧ Below w.heap.size w w' := by
  obtain ⟨hca, hcl⟩ := fnBits.code_of w0
  by_cases hl : 1048576 < len0
  · go_enter Try.func4, Try.ntmps4
    go_wp2
    go_ret
    exact ⟨rfl, Below.refl _ _⟩
  · have D := Lib.hid (drawSpliceCells_any a0 len0 cap0 w (by omega) hcl hca)
    clear hca hcl w0
    go_enter Try.func4, Try.ntmps4
    go_wp2_with fail
    refine (fnBits.b10Long_no a0 len0 cap0 w (by omega)).mono ?_
    rintro e w' ⟨rfl, rfl⟩
    go_wp2_with fail
    refine D.out.mono ?_
    rintro e w1 ⟨s, at', t, rfl, hs, ht, ha0, ha1, hb1⟩
    have hs9 : s.size ≤ maxLen := by simp only [maxLen]; omega
    have ht9 : t.size ≤ maxLen := by simp only [maxLen]; omega
    have S1 := Lib.hid (fun w' => spliceCells_any s t at' w' hs9 ht9)
    obtain ⟨c, hc⟩ : ∃ c, spC s t at' = c := ⟨_, rfl⟩
    rw [hc] at S1
    have HB1 := Lib.hid hb1; clear hb1 D
    by_cases h0 : c = 0
    · subst h0
      obtain ⟨v1, v2, v3, v4⟩ := spC_zero hc
      have v3' := inB_iff.1 v3
      obtain ⟨a, rfl⟩ : ∃ a : Nat, at' = a := ⟨at'.toNat, by omega⟩
      have ha : a < s.size := by omega
      have hx : spS s t a = splice s t a := by unfold spS; rw [if_pos hc]; rfl
      have hxz := splice_size s t a
      have hxat := fun j hj => splice_at s t a j hj
      have hv := splice_valid (a := a) v1 v2
      rw [hx] at S1
      clear hx
      generalize splice s t a = x at S1 hv hxz hxat
      have hk := rotK_nat a x.size (by omega)
      have R1 := Lib.hid (fun w' => rotateCells_yes x (a : Int) w' (by simp only [maxLen]; omega) hv)
      have hvr := rot_valid (k := a) (by omega) hv
      have hrz := rotS_size x a (by omega)
      have R2 := Lib.hid (fun w' => rotateCells_yes (rotS x a) (-(a : Int)) w' (by simp only [maxLen]; omega) hvr)
      rw [hk] at R1
      rw [hrz, rot_back (by omega)] at R2
      have HX := Lib.hid (And.intro hxat (And.intro hv (And.intro hvr v4)))
      clear hc v1 v2 v3 hxat hv hvr hk hrz
      generalize rotS x a = y at R1 R2
      have e1 : (0 : Int) ≤ (a : Int) := by omega
      have e2 : (a : Int) < (s.size : Int) := by omega
      have e3 : IntKind.i64.wrap (-(a : Int)) = -(a : Int) := IntWalk.i64_in _ (by omega)
      have hxz2 : (x.size : Int) = (s.size : Int) := by omega
      have hs1 : (s.size : Int) ≤ 101 := by omega
      go_wp2_with fail
      refine (S1.out _).mono ?_
      rintro e w2 ⟨rfl, hb2⟩
      have HB2 := Lib.hid (HB1.out.trans (hb2.mono HB1.out.size)); clear hb2 HB1 S1
      go_wp2
      go_loopw [8, 9, 10] (fun i _ _ wr => ∃ k : Nat, k ≤ s.size ∧ i = .int .i64 (k : Int) ∧ wr = w2) (fun i _ _ _ => s.size - (intOf i).toNat)
      case atStart => exact ⟨0, Nat.zero_le _, rfl, rfl⟩
      case round =>
        obtain ⟨k, hk, rfl, rfl⟩ := hrel
        by_cases hlt : k < s.size
        · have f1 : (k : Int) < (s.size : Int) := by omega
          have hkx : k < x.size := by omega
          obtain ⟨m, hm⟩ : ∃ m, (k + s.size - a) % s.size = m := ⟨_, rfl⟩
          have hxk := HX.out.1 k hkx
          unfold spAt at hxk
          rw [hm] at hxk
          have hms : m < s.size := by rw [← hm]; exact Nat.mod_lt _ (by omega)
          have hmi : ((k : Int) - (a : Int) + (s.size : Int)) % (s.size : Int) = (m : Int) := by
            rw [show (k : Int) - (a : Int) + (s.size : Int) = ((k + s.size - a : Nat) : Int) by omega, ← hm]
            rfl
          have hmt : ((k : Int) - (a : Int) + (s.size : Int)).tmod (s.size : Int) = (m : Int) := by
            rw [Int.tmod_eq_emod_of_nonneg (by omega)]; exact hmi
          have hw1 : IntKind.i64.wrap ((k : Int) - (a : Int)) = (k : Int) - (a : Int) := IntWalk.i64_in _ (by omega)
          have hw2 : IntKind.i64.wrap ((k : Int) - (a : Int) + (s.size : Int)) = (k : Int) - (a : Int) + (s.size : Int) := IntWalk.i64_in _ (by omega)
          have hs0 : ((s.size : Int) == 0) = false := by rw [beq_eq_false_iff_ne]; omega
          have hs0' : ¬ (s.size : Int) = 0 := by omega
          have HM := Lib.hid hm; clear hm
          by_cases hmt2 : m < t.size
          · rw [if_pos hmt2, getElem?_pos t m hmt2] at hxk
            have f2 : (m : Int) < (t.size : Int) := by omega
            obtain ⟨u, hu⟩ : ∃ u, t[m].toNat = u := ⟨_, rfl⟩
            have hxu : x[k].toNat = u := by rw [hxk]; exact hu
            clear hxk
            go_wp2
            go_roundw
            case rel => exact ⟨k + 1, by omega, by go_num, trivial⟩
            case measure => simp [intOf]; omega
          · rw [if_neg hmt2, getElem?_pos s k hlt] at hxk
            have f2 : ¬ (m : Int) < (t.size : Int) := by omega
            obtain ⟨u, hu⟩ : ∃ u, s[k].toNat = u := ⟨_, rfl⟩
            have hxu : x[k].toNat = u := by rw [hxk]; exact hu
            clear hxk
            go_wp2
            go_roundw
            case rel => exact ⟨k + 1, by omega, by go_num, trivial⟩
            case measure => simp [intOf]; omega
        · obtain rfl : k = s.size := by omega
          go_wp2_with fail
          refine (R1.out _).mono ?_
          rintro e w3 ⟨rfl, hb3⟩
          have HB3 := Lib.hid (HB2.out.trans (hb3.mono HB2.out.size)); clear hb3
          go_wp2_with fail
          refine (R2.out _).mono ?_
          rintro e w4 ⟨rfl, hb4⟩
          have HB4 := Lib.hid (HB3.out.trans (hb4.mono HB3.out.size)); clear hb4
          go_wp2
          go_ret
          exact ⟨rfl, HB4.out⟩
    · have hn : (c != 0) = true := by rw [bne_iff_ne]; exact h0
      go_wp2_with fail
      refine (S1.out _).mono ?_
      rintro e w2 ⟨rfl, hb2⟩
      have HB2 := Lib.hid (HB1.out.trans (hb2.mono HB1.out.size)); clear hb2 HB1
      go_wp2
      go_ret
      exact ⟨rfl, HB2.out⟩
end Go.Proofs.Yteldnfamfjldpaa.fnSplice
