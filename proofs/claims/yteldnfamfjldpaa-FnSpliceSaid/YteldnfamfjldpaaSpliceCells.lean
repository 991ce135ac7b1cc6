/- impl.SpliceCells -/
import Derived.Test.YteldnfamfjldpaaValidCells
import Derived.Test.YteldnfamfjldpaaSplice
import Derived.Test.YteldnfamfjldpaaConv
import Derived.BigRegion
namespace Go.Proofs.Yteldnfamfjldpaa
open Go.RowKit
set_option linter.unusedVariables false
theorem valid_bd {s : ByteArray} (h : validCells s = true) : 0 < s.size ∧ s.size ≤ 8000 := by
  unfold validCells at h
  simp only [Bool.and_eq_true, inB_iff] at h
  omega
/-- Which cells the row has when k places are laid. -/
def SRow (cells part : ByteArray) (a k cap : Nat) (C : Array Value) : Prop :=
  C.size = cap ∧ cells.size ≤ cap ∧ ∀ j, j < cells.size → C[j]? = some (.int .u8 ((spAt cells part a k j).toNat : Int))
theorem SRow.next {cells part : ByteArray} {a k cap : Nat} {C : Array Value} (h : SRow cells part a k cap C) (ha : a < cells.size) (hk : k < part.size) (hm : part.size ≤ cells.size) :
    SRow cells part a (k + 1) cap (C.setIfInBounds ((a + k) % cells.size) (.int .u8 (part[k].toNat : Int))) := by
  obtain ⟨h1, h2, h3⟩ := h
  refine ⟨by simpa using h1, h2, ?_⟩
  intro j hj
  have hml : (a + k) % cells.size < cells.size := Nat.mod_lt _ (by omega)
  rw [Array.getElem?_setIfInBounds, spAt_succ cells part hj ha (by omega)]
  by_cases e : j = (a + k) % cells.size
  · rw [if_pos e, if_pos e.symm, if_pos (by omega)]
    simp [hk]
  · rw [if_neg e, if_neg (Ne.symm e)]; exact h3 j hj
theorem SRow.start (cells part : ByteArray) (a cap : Nat) (h1 : (bytesRow cells cap).size = cap) (h2 : cells.size ≤ cap) : SRow cells part a 0 cap (bytesRow cells cap) := by
  refine ⟨h1, h2, fun j hj => ?_⟩
  rw [bytesRow_at cells cap j hj]
  simp only [spAt]
  rw [if_neg (by omega)]
  have : cells[j]?.getD 0 = cells[j] := by simp [hj]
  rw [this]; rfl

set_option maxHeartbeats 1000000 in
theorem spliceCells_yes (s : ByteArray) (a : Nat) (p : ByteArray) (w : World) (h1 : validCells s = true) (h2 : validCells p = true) (ha : a < s.size) (hm : p.size ≤ s.size) :
    Calls Try.prog 19 #[.string s, .int .i64 a, .string p] w fun e w' => e = .returned (.tuple #[.string (splice s p a), .int .i64 0]) ∧ Below w.heap.size w w' := by
  obtain ⟨s0, s1⟩ := valid_bd h1
  obtain ⟨p0, p1⟩ := valid_bd h2
  have H1 := Lib.hid h1; clear h1
  have H2 := Lib.hid h2; clear h2
  have hin : inB 0 ((s.size : Int) - 1) a = true := by rw [inB_iff]; omega
  have hcv2 := fun w s => run_bytes_of_string (P := Try.prog) w 9 22 5 s Try.underlying9 Try.underlying22 Try.underlying5
  have c1 : ∀ w, Calls Try.prog 35 #[.string s] w fun e w' => e = .returned (.bool true) ∧ Below w.heap.size w w' := fun w => (validCells_any s w (by unfold maxLen; omega)).mono fun _ _ ⟨he, hw⟩ => ⟨by rw [he, H1.out], hw⟩
  have c2 : ∀ w, Calls Try.prog 35 #[.string p] w fun e w' => e = .returned (.bool true) ∧ Below w.heap.size w w' := fun w => (validCells_any p w (by unfold maxLen; omega)).mono fun _ _ ⟨he, hw⟩ => ⟨by rw [he, H2.out], hw⟩
  have C1 := Lib.hid c1; clear c1
  have C2 := Lib.hid c2; clear c2
  go_enter Try.func19, Try.ntmps19
  go_wp2_with fail
  refine (C1.out _).mono ?_
  rintro e w1 ⟨rfl, hb1⟩
  go_wp2_with fail
  refine (C2.out _).mono ?_
  rintro e w2 ⟨rfl, hb2⟩
  go_wp2_with (go_at_call 31; refine (within_new _ _ _ _ _).mono ?_; rintro e w' ⟨rfl, rfl⟩)
  clear hcv2
  have hbs := hb1.trans (hb2.mono hb1.size)
  have hsz2 := hbs.size
  have hcap1 : ∀ ww : World, s.size ≤ grownCap ww s.size 0 5 ∧ (bytesRow s (grownCap ww s.size 0 5)).size = grownCap ww s.size 0 5 := by
    intro ww
    have h1 : s.size ≤ grownCap ww s.size 0 5 := grownCap_ge _ _ _ _
    refine ⟨h1, ?_⟩
    have : s.data.size = s.size := rfl
    simp [bytesRow]; omega
  have hcap2 := Lib.hid (hcap1 (w2.alloc (.cells #[.int .i64 a] 2))); clear hcap1
  obtain ⟨cap, hcap⟩ : ∃ cap, grownCap (w2.alloc (.cells #[.int .i64 a] 2)) s.size 0 5 = cap := ⟨_, rfl⟩
  rw [hcap] at hcap2 ⊢
  clear hcap
  go_loopw [9, 36] (fun _ i wr => ∃ k : Nat, k ≤ p.size ∧ i = .int .i64 k ∧ (∃ C, wr.heap[w2.heap.size + 1]? = some (.cells C 5 (cap, cap + 1)) ∧ SRow s p a k cap C) ∧ Below w.heap.size w wr) (fun _ i _ => p.size - (intOf i).toNat)
  case atStart =>
    refine ⟨0, Nat.zero_le _, rfl, ⟨bytesRow s cap, ?_, SRow.start s p a cap hcap2.out.2 hcap2.out.1⟩, ((hbs.alloc hsz2 _).alloc (by simp; omega) _).drew⟩
    rw [hcap2.out.2]
    show (((w2.heap.push _).push _))[w2.heap.size + 1]? = _
    rw [show w2.heap.size + 1 = (w2.heap.push (Obj.cells #[Value.int .i64 a] 2)).size by simp]
    exact Array.getElem?_push_size
  case round =>
    obtain ⟨k, hk, rfl, ⟨C, hC, hX⟩, hb⟩ := hrel
    by_cases hlt : k < p.size
    · obtain ⟨idx, hidx⟩ : ∃ idx, (a + k) % s.size = idx := ⟨_, rfl⟩
      have hil : idx < s.size := by rw [← hidx]; exact Nat.mod_lt _ (by omega)
      have hrr : ((a : Int) + k) % s.size = (idx : Int) := by rw [← hidx]; exact_mod_cast rfl
      have hX2 := hX.next ha hlt hm
      rw [hidx] at hX2
      have hcell : wr.cell? ⟨w2.heap.size + 1, idx, none⟩ = some (.int .u8 ((spAt s p a k idx).toNat : Int)) := by simp [World.cell?, hC, hX.2.2 idx hil]
      have hfz : wr.frozen? ⟨w2.heap.size + 1, idx, none⟩ = false := by
        have := hX.1; have := hX.2.1
        simp [World.frozen?, hC]; omega
      have HC := Lib.hid hC; clear hC
      have HX := Lib.hid hX2; clear hX2 hX hidx
      have e0 : (0 : Int) ≤ idx := by omega
      have e1 : (idx : Int) < s.size := by omega
      have e2 : (k : Int) < p.size := by omega
      go_wp2
      go_region
      all_goals go_wp2
      all_goals go_roundw
      case rel =>
        refine ⟨k + 1, by omega, by go_num, ⟨_, ?_, HX.out⟩, (hb.setCell (by simp; omega) _).drew⟩
        exact heap_set_marked wr (w2.heap.size + 1) idx C _ _ _ HC.out
      case measure => simp [intOf]; omega
    · have hkk : k = p.size := by omega
      have hcv : (convert 22 9 (.slice (some ⟨w2.heap.size + 1, 0, none⟩) s.size cap)).run Try.prog wr = .ok (.string (splice s p a)) wr := by
        have hl : (splice s p a).data.toList.length = s.size := by have := splice_size s p a; simpa using this
        have h0 := conv_of wr ⟨w2.heap.size + 1, 0, none⟩ cap (splice s p a).data.toList (by
          intro j hj
          rw [add0]
          have hj2 : j < s.size := by omega
          have h3 := hX.2.2 j hj2
          rw [hkk] at h3
          have h4 : (splice s p a).data.toList[j] = spAt s p a p.size j := by simp [splice]
          rw [h4]
          simp [World.cell?, hC, h3])
        rw [hl] at h0
        exact h0
      have HC := Lib.hid hC; clear hC hX hkk
      go_wp2
      go_ret2
      exact ⟨rfl, hb⟩

def spC (s p : ByteArray) (a : Int) : Int := if validCells s = false ∨ validCells p = false then 1 else if inB 0 ((s.size : Int) - 1) a = false ∨ s.size < p.size then 2 else 0
def spS (s p : ByteArray) (a : Int) : ByteArray := if spC s p a = 0 then splice s p a.toNat else ⟨#[]⟩
theorem sp_invalid {s p : ByteArray} (a : Int) (h : validCells s = false ∨ validCells p = false) : spC s p a = 1 ∧ spS s p a = ⟨#[]⟩ := by
  have e : spC s p a = 1 := by unfold spC; rw [if_pos h]
  refine ⟨e, ?_⟩
  unfold spS; rw [e]; rfl
theorem sp_range {s p : ByteArray} {a : Int} (h1 : validCells s = true) (h2 : validCells p = true) (h : inB 0 ((s.size : Int) - 1) a = false ∨ s.size < p.size) : spC s p a = 2 ∧ spS s p a = ⟨#[]⟩ := by
  have e : spC s p a = 2 := by unfold spC; rw [if_neg (by simp [h1, h2]), if_pos h]
  refine ⟨e, ?_⟩
  unfold spS; rw [e]; rfl
theorem sp_ok {s p : ByteArray} {a : Nat} (h1 : validCells s = true) (h2 : validCells p = true) (ha : a < s.size) (hm : p.size ≤ s.size) : spC s p a = 0 ∧ spS s p a = splice s p a := by
  have e : spC s p a = 0 := by
    unfold spC
    rw [if_neg (by simp [h1, h2]), if_neg]
    have : inB 0 ((s.size : Int) - 1) (a : Int) = true := by rw [inB_iff]; omega
    rw [this]; simp; omega
  refine ⟨e, ?_⟩
  unfold spS; rw [e]; simp
theorem sp_ret {x y : ByteArray} {a b : Int} (h1 : x = y) (h2 : a = b) : Ending.returned (.tuple #[.string x, .int .i64 a]) = .returned (.tuple #[.string y, .int .i64 b]) := by rw [h1, h2]

set_option maxHeartbeats 400000 in
theorem spliceCells_any (s p : ByteArray) (a : Int) (w : World) (hs : s.size ≤ maxLen) (hp : p.size ≤ maxLen) :
    Calls Try.prog 19 #[.string s, .int .i64 a, .string p] w fun e w' => e = .returned (.tuple #[.string (spS s p a), .int .i64 (spC s p a)]) ∧ Below w.heap.size w w' := by
  by_cases h1 : validCells s = true
  · by_cases h2 : validCells p = true
    · by_cases h3 : inB 0 ((s.size : Int) - 1) a = true
      · by_cases h4 : p.size ≤ s.size
        · rw [inB_iff] at h3
          obtain ⟨k, rfl⟩ : ∃ k : Nat, a = k := ⟨a.toNat, by omega⟩
          have e := sp_ok (a := k) h1 h2 (by omega) h4
          refine (spliceCells_yes s k p w h1 h2 (by omega) h4).mono fun _ _ ⟨he, hb⟩ => ⟨?_, hb⟩
          rw [he, e.1, e.2]
        · obtain ⟨e1, e2⟩ := sp_range (a := a) h1 h2 (.inr (by omega))
          have E1 := Lib.hid e1; have E2 := Lib.hid e2; clear e1 e2
          obtain ⟨s0, s1⟩ := valid_bd h1
          obtain ⟨p0, p1⟩ := valid_bd h2
          have c1 : ∀ w, Calls Try.prog 35 #[.string s] w fun e w' => e = .returned (.bool true) ∧ Below w.heap.size w w' := fun w => (validCells_any s w hs).mono fun _ _ ⟨he, hw⟩ => ⟨by rw [he, h1], hw⟩
          have c2 : ∀ w, Calls Try.prog 35 #[.string p] w fun e w' => e = .returned (.bool true) ∧ Below w.heap.size w w' := fun w => (validCells_any p w hp).mono fun _ _ ⟨he, hw⟩ => ⟨by rw [he, h2], hw⟩
          have C1 := Lib.hid c1; have C2 := Lib.hid c2; clear c1 c2 h1 h2
          go_enter Try.func19, Try.ntmps19
          go_wp2_with fail
          refine (C1.out _).mono ?_
          rintro e w1 ⟨rfl, hb1⟩
          go_wp2_with fail
          refine (C2.out _).mono ?_
          rintro e w2 ⟨rfl, hb2⟩
          go_wp2_with (go_at_call 31; refine (within_new _ _ _ _ _).mono ?_; rintro e w' ⟨rfl, rfl⟩)
          go_ret2
          have hbs := hb1.trans (hb2.mono hb1.size)
          exact ⟨sp_ret E2.out.symm E1.out.symm, hbs.alloc hbs.size _⟩
      · have h3 : inB 0 ((s.size : Int) - 1) a = false := by simpa using h3
        obtain ⟨e1, e2⟩ := sp_range (a := a) h1 h2 (.inl h3)
        have E1 := Lib.hid e1; have E2 := Lib.hid e2; clear e1 e2
        obtain ⟨s0, s1⟩ := valid_bd h1
        obtain ⟨p0, p1⟩ := valid_bd h2
        have c1 : ∀ w, Calls Try.prog 35 #[.string s] w fun e w' => e = .returned (.bool true) ∧ Below w.heap.size w w' := fun w => (validCells_any s w hs).mono fun _ _ ⟨he, hw⟩ => ⟨by rw [he, h1], hw⟩
        have c2 : ∀ w, Calls Try.prog 35 #[.string p] w fun e w' => e = .returned (.bool true) ∧ Below w.heap.size w w' := fun w => (validCells_any p w hp).mono fun _ _ ⟨he, hw⟩ => ⟨by rw [he, h2], hw⟩
        have C1 := Lib.hid c1; have C2 := Lib.hid c2; clear c1 c2 h1 h2
        go_enter Try.func19, Try.ntmps19
        go_wp2_with fail
        refine (C1.out _).mono ?_
        rintro e w1 ⟨rfl, hb1⟩
        go_wp2_with fail
        refine (C2.out _).mono ?_
        rintro e w2 ⟨rfl, hb2⟩
        go_wp2_with (go_at_call 31; refine (within_new _ _ _ _ _).mono ?_; rintro e w' ⟨rfl, rfl⟩)
        go_ret2
        have hbs := hb1.trans (hb2.mono hb1.size)
        exact ⟨sp_ret E2.out.symm E1.out.symm, hbs.alloc hbs.size _⟩
    · have h2 : validCells p = false := by simpa using h2
      obtain ⟨e1, e2⟩ := sp_invalid (s := s) (p := p) a (.inr h2)
      have E1 := Lib.hid e1; have E2 := Lib.hid e2; clear e1 e2
      have c1 : ∀ w, Calls Try.prog 35 #[.string s] w fun e w' => e = .returned (.bool true) ∧ Below w.heap.size w w' := fun w => (validCells_any s w hs).mono fun _ _ ⟨he, hw⟩ => ⟨by rw [he, h1], hw⟩
      have c2 : ∀ w, Calls Try.prog 35 #[.string p] w fun e w' => e = .returned (.bool false) ∧ Below w.heap.size w w' := fun w => (validCells_any p w hp).mono fun _ _ ⟨he, hw⟩ => ⟨by rw [he, h2], hw⟩
      have C1 := Lib.hid c1; have C2 := Lib.hid c2; clear c1 c2 h1 h2
      go_enter Try.func19, Try.ntmps19
      go_wp2_with fail
      refine (C1.out _).mono ?_
      rintro e w1 ⟨rfl, hb1⟩
      go_wp2_with fail
      refine (C2.out _).mono ?_
      rintro e w2 ⟨rfl, hb2⟩
      go_wp2
      go_ret2
      exact ⟨sp_ret E2.out.symm E1.out.symm, hb1.trans (hb2.mono hb1.size)⟩
  · have h1 : validCells s = false := by simpa using h1
    obtain ⟨e1, e2⟩ := sp_invalid (s := s) (p := p) a (.inl h1)
    have E1 := Lib.hid e1; have E2 := Lib.hid e2; clear e1 e2
    have c1 : ∀ w, Calls Try.prog 35 #[.string s] w fun e w' => e = .returned (.bool false) ∧ Below w.heap.size w w' := fun w => (validCells_any s w hs).mono fun _ _ ⟨he, hw⟩ => ⟨by rw [he, h1], hw⟩
    have C1 := Lib.hid c1; clear c1 h1
    go_enter Try.func19, Try.ntmps19
    go_wp2_with fail
    refine (C1.out _).mono ?_
    rintro e w1 ⟨rfl, hb1⟩
    go_wp2
    go_ret2
    exact ⟨sp_ret E2.out.symm E1.out.symm, hb1⟩
end Go.Proofs.Yteldnfamfjldpaa
