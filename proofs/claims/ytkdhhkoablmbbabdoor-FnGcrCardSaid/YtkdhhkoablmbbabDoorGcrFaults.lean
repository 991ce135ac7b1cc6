/- impl.isGroupString, spec.l06At, spec.GcrFaults -/
import Derived.Test.YtkdhhkoablmbbabDoorGcrValue
import Derived.Test.YtkdhhkoablmbbabDoorSlRes
namespace Go.Proofs.YtkdhhkoablmbbabDoor
open Go.RowKit
set_option linter.unusedVariables false
/-- Group k of cells. -/
def subS (s : ByteArray) (k : Nat) : ByteArray := s.extract (5 * k) (5 * k + 5)
theorem subS_size (s : ByteArray) (k : Nat) (h : 5 * k + 5 ≤ s.size) : (subS s k).size = 5 := by unfold subS; rw [ByteArray.size_extract]; omega
theorem subS_at (s : ByteArray) (k j : Nat) (hj : j < 5) (h : 5 * k + 5 ≤ s.size) : (subS s k)[j]'(by rw [subS_size s k h]; exact hj) = s[5 * k + j] := by
  unfold subS
  simp [ByteArray.getElem_extract]
theorem subS_ok {s : ByteArray} (hc : cellStr s = true) (k : Nat) (h : 5 * k + 5 ≤ s.size) : grpOk (subS s k) = true := by
  have hz := subS_size s k h
  unfold grpOk
  have : decide ((subS s k).size = 5) = true := by simp [hz]
  rw [this, Bool.true_and]
  unfold cellsL
  rw [List.all_eq_true]
  intro c hcm
  obtain ⟨j, hj, rfl⟩ := List.getElem_of_mem hcm
  have hj2 : j < (subS s k).size := by rw [Array.length_toList] at hj; exact hj
  have e : (subS s k).data.toList[j] = (subS s k)[j] := rfl
  rw [e, subS_at s k j (by omega) h]
  exact (isCell_iff _).2 (cellStr_cell hc _ _)
def gfR (s : ByteArray) : Nat → List Int
  | 0 => []
  | k + 1 => if gcrVV (subS s k) < 0 then gfR s k ++ [(k : Int)] else gfR s k
theorem gfR_len (s : ByteArray) (k : Nat) : (gfR s k).length ≤ k := by
  induction k with
  | zero => simp [gfR]
  | succ k ih =>
    unfold gfR
    split
    · simp; omega
    · omega
def gfV (s : ByteArray) : List Int := if cellStr s = true ∧ s.size % 5 = 0 then gfR s (s.size / 5) else []
theorem gfV_len (s : ByteArray) (h : s.size ≤ 1048576) : (gfV s).length ≤ 1048576 := by
  unfold gfV
  split
  · exact Nat.le_trans (gfR_len s _) (by omega)
  · simp
set_option maxHeartbeats 1000000 in
theorem isGroupString_any (s : ByteArray) (h : s.size ≤ 1048576) (w : World) :
    Calls Tryd.prog 46 #[.string s] w fun e w' => e = .returned (.bool (cellStr s && decide (s.size % 5 = 0))) ∧ Below w.heap.size w w' := by
  have hv := fun w => isCellString_any s w (by unfold maxLen; omega)
  by_cases hc : cellStr s = true
  · rw [hc] at hv ⊢
    have HV := Lib.hid hv; clear hv hc
    by_cases h5 : s.size % 5 = 0
    · have h5' : (s.size : Int) % 5 = 0 := by omega
      have e : decide (s.size % 5 = 0) = true := by simp [h5]
      rw [e]
      clear h5 e
      go_enter Tryd.func46, Tryd.ntmps46
      go_wp2_with (go_at_call 55; refine (HV.out _).mono ?_; rintro e w1 ⟨rfl, hb1⟩)
      go_ret
      exact ⟨rfl, hb1⟩
    · have h5' : ((s.size : Int) % 5 == 0) = false := by rw [beq_eq_false_iff_ne]; omega
      have e : decide (s.size % 5 = 0) = false := by simp [h5]
      rw [e]
      clear h5 e
      go_enter Tryd.func46, Tryd.ntmps46
      go_wp2_with (go_at_call 55; refine (HV.out _).mono ?_; rintro e w1 ⟨rfl, hb1⟩)
      go_ret
      exact ⟨rfl, hb1⟩
  · have hc0 : cellStr s = false := by simpa using hc
    rw [hc0] at hv ⊢
    have HV := Lib.hid hv; clear hv hc hc0
    go_enter Tryd.func46, Tryd.ntmps46
    go_wp2_with (go_at_call 55; refine (HV.out _).mono ?_; rintro e w1 ⟨rfl, hb1⟩)
    go_ret
    exact ⟨rfl, hb1⟩
theorem l06At_any (s : ByteArray) (k : Nat) (h : s.size ≤ 1048576) (hk : 5 * k + 5 ≤ s.size) (w : World) :
    Calls Tryd.prog 45 #[.string s, .int .i64 (k : Int)] w fun e w' => e = .returned (.string (subS s k)) ∧ w = w' := by
  have e1 : (0 : Int) ≤ 5 * (k : Int) := by omega
  have e2 : 5 * ((k : Int) + 1) ≤ s.size := by omega
  have e3 : (5 * (k : Int)).toNat = 5 * k := by omega
  have e4 : (5 * ((k : Int) + 1)).toNat = 5 * k + 5 := by omega
  have e5 : 5 * (k : Int) ≤ 5 * ((k : Int) + 1) := by omega
  go_enter Tryd.func45, Tryd.ntmps45
  go_wp2
  go_ret
  exact ⟨rfl, rfl⟩
set_option maxHeartbeats 1000000 in
theorem l06Groups_any (s : ByteArray) (h : s.size ≤ 1048576) (w : World) :
    Calls Tryd.prog 50 #[.string s] w fun e w' => e = .returned (.bool (cellStr s && decide (s.size % 5 = 0))) ∧ w = w' := by
  have hv := fun w => l05Cells_any s w (by unfold maxLen; omega)
  by_cases hc : cellStr s = true
  · rw [hc] at hv ⊢
    have HV := Lib.hid hv; clear hv hc
    by_cases h5 : s.size % 5 = 0
    · have h5' : (s.size : Int) % 5 = 0 := by omega
      have e : decide (s.size % 5 = 0) = true := by simp [h5]
      rw [e]
      clear h5 e
      go_enter Tryd.func50, Tryd.ntmps50
      go_wp2_with (go_at_call 44; refine (HV.out _).mono ?_; rintro e w1 ⟨rfl, rfl⟩)
      go_ret
      exact ⟨rfl, rfl⟩
    · have h5' : ((s.size : Int) % 5 == 0) = false := by rw [beq_eq_false_iff_ne]; omega
      have e : decide (s.size % 5 = 0) = false := by simp [h5]
      rw [e]
      clear h5 e
      go_enter Tryd.func50, Tryd.ntmps50
      go_wp2_with (go_at_call 44; refine (HV.out _).mono ?_; rintro e w1 ⟨rfl, rfl⟩)
      go_ret
      exact ⟨rfl, rfl⟩
  · have hc0 : cellStr s = false := by simpa using hc
    rw [hc0] at hv ⊢
    have HV := Lib.hid hv; clear hv hc hc0
    go_enter Tryd.func50, Tryd.ntmps50
    go_wp2_with (go_at_call 44; refine (HV.out _).mono ?_; rintro e w1 ⟨rfl, rfl⟩)
    go_ret
    exact ⟨rfl, rfl⟩
theorem gfV_yes {s : ByteArray} (hc : cellStr s = true) (h5 : s.size % 5 = 0) : gfV s = gfR s (s.size / 5) := by unfold gfV; rw [if_pos ⟨hc, h5⟩]
theorem gfV_no {s : ByteArray} (h : (cellStr s && decide (s.size % 5 = 0)) = false) : gfV s = [] := by
  unfold gfV
  rw [if_neg]
  rintro ⟨h1, h2⟩
  rw [h1] at h
  simp [h2] at h
set_option maxHeartbeats 2000000 in
theorem specGcrFaults_any (s : ByteArray) (h : s.size ≤ 1048576) (w : World) :
    Calls Tryd.prog 20 #[.string s] w (SlRes (gfV s) w) := by
  have hg := fun w => l06Groups_any s h w
  obtain ⟨ok, hok⟩ : ∃ ok, (cellStr s && decide (s.size % 5 = 0)) = ok := ⟨_, rfl⟩
  rw [hok] at hg
  have HG := Lib.hid hg; clear hg
  cases ok with
  | false =>
    rw [gfV_no hok]
    clear hok
    go_enter Tryd.func20, Tryd.ntmps20
    go_wp2_with (go_at_call 50; refine (HG.out _).mono ?_; rintro e w1 ⟨rfl, rfl⟩)
    go_ret
    exact ⟨_, _, rfl, .inl rfl, Below.refl _ _⟩
  | true =>
    simp only [Bool.and_eq_true, decide_eq_true_eq] at hok
    obtain ⟨hc, h5⟩ := hok
    rw [gfV_yes hc h5]
    have hs8 := cellStr_size hc
    have H5 := Lib.hid (And.intro hc h5); clear hc h5
    obtain ⟨N, hN⟩ : ∃ N, s.size / 5 = N := ⟨_, rfl⟩
    have hN8 : N ≤ 1600 := by omega
    have HN := Lib.hid (show s.size = 5 * N by have := H5.out.2; omega)
    have hq : (s.size : Int) / 5 = (N : Int) := by omega
    rw [hN]
    clear hN
    go_enter Tryd.func20, Tryd.ntmps20
    go_wp2_with (go_at_call 50; refine (HG.out _).mono ?_; rintro e w1 ⟨rfl, rfl⟩)
    go_loopw [3, 4] (fun v i wr => ∃ k : Nat, k ≤ N ∧ i = .int .i64 k ∧ OwnI wr w.heap.size v (gfR s k) ∧ Below w.heap.size w wr) (fun _ i _ => N - (intOf i).toNat)
    case atStart => exact ⟨0, Nat.zero_le _, rfl, OwnI.empty w _ (Nat.le_refl _), (Below.refl _ _).alloc (Nat.le_refl _) _⟩
    case round =>
      obtain ⟨k, hk, rfl, hown, hbr⟩ := hrel
      have hsz := hbr.size
      by_cases hlt : k < N
      · have e1 : (k : Int) < N := by omega
        have hk5 : 5 * k + 5 ≤ s.size := by have := HN.out; omega
        have HA := Lib.hid (fun w => l06At_any s k h hk5 w)
        have HV := Lib.hid (fun w => specGcrValue_any (subS s k) (by rw [subS_size s k hk5]; omega) w)
        have HS := Lib.hid (show gfR s (k + 1) = if gcrVV (subS s k) < 0 then gfR s k ++ [(k : Int)] else gfR s k from rfl)
        have hl4 : (gfR s k).length < 1073741824 := by have := gfR_len s k; omega
        generalize gcrVV (subS s k) = g at *
        generalize subS s k = S at *
        generalize gfR s k = l at *
        clear hk5
        go_wp2_with fail
        refine (HA.out _).mono ?_
        rintro e w2 ⟨rfl, rfl⟩
        go_wp2_with fail
        refine (HV.out _).mono ?_
        rintro e w3 ⟨rfl, hb3⟩
        have hown3 := hown.below' hb3
        have hbr3 := hbr.trans (hb3.mono hsz)
        have hsz3 := hbr3.size
        clear hown hbr hb3
        by_cases hneg : g < 0
        · have HNEG := Lib.hid hneg
          go_wp2_with (at_builtin; refine wpList_appendI 28 Tryd.underlying28 rfl _ _ rfl rfl (hown3.alloc _) (k : Int) ⟨w3.heap.size, 0, none⟩ 1 rfl (World.news_of_block (cs := #[.int .i64 (k : Int)]) (t := 2) (fr := (0, 0)) (heap_alloc_new w3 _)) hl4 (by simp; omega) ?_; intro g4 cap4 w4 hown4 hb4 _)
          go_roundw
          case rel => exact ⟨k + 1, by omega, by go_num, by rw [HS.out, if_pos HNEG.out]; exact hown4, (hbr3.alloc hsz3 _).trans hb4⟩
          case measure => simp [intOf] <;> omega
        · have HNEG := Lib.hid hneg
          go_wp2
          go_roundw
          case rel => exact ⟨k + 1, by omega, by go_num, by rw [HS.out, if_neg (by have := HNEG.out; omega)]; exact hown3, hbr3⟩
          case measure => simp [intOf] <;> omega
      · obtain rfl : k = N := by omega
        obtain ⟨a, c, rfl, hs⟩ := hown.slO
        have HS := Lib.hid hs; clear hs hown
        go_wp2
        go_ret
        exact ⟨_, _, rfl, HS.out, hbr⟩
end Go.Proofs.YtkdhhkoablmbbabDoor
