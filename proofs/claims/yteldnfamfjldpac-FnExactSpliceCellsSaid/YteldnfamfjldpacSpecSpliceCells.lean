/- spec.SpliceCells -/
import Derived.Test.YteldnfamfjldpacSpliceCells
import Derived.Test.YteldnfamfjldpacSpecValidCells
import Derived.Test.YteldnfamfjldpacSpecRotate
namespace Go.Proofs.Yteldnfamfjldpac
open Go.RowKit
set_option linter.unusedVariables false
set_option maxHeartbeats 400000 in
theorem specSpliceCells_yes (s : ByteArray) (a : Nat) (p : ByteArray) (w : World) (h1 : validCells s = true) (h2 : validCells p = true) (ha : a < s.size) (hm : p.size ≤ s.size) :
    Calls Try.prog 12 #[.string s, .int .i64 a, .string p] w fun e w' => e = .returned (.tuple #[.string (splice s p a), .int .i64 0]) ∧ Below w.heap.size w w' := by
  obtain ⟨s0, s1⟩ := valid_bd h1
  obtain ⟨p0, p1⟩ := valid_bd h2
  have hin : inB 0 ((s.size : Int) - 1) a = true := by rw [inB_iff]; omega
  have c1 : ∀ w, Calls Try.prog 29 #[.string s] w fun e w' => e = .returned (.bool true) ∧ w = w' := fun w => (l02Cells_any s w (by unfold maxLen; omega)).mono fun _ _ ⟨he, hw⟩ => ⟨by rw [he, h1], hw⟩
  have c2 : ∀ w, Calls Try.prog 29 #[.string p] w fun e w' => e = .returned (.bool true) ∧ w = w' := fun w => (l02Cells_any p w (by unfold maxLen; omega)).mono fun _ _ ⟨he, hw⟩ => ⟨by rw [he, h2], hw⟩
  have hrs : (rotS s (rotK (a : Int) s.size)).size = s.size := rotS_size _ _ (Nat.le_of_lt (rotK_lt _ _ s0))
  have hps : (p ++ (rotS s (rotK (a : Int) s.size)).extract p.size (rotS s (rotK (a : Int) s.size)).size).size = s.size := by
    rw [ByteArray.size_append, ByteArray.size_extract, hrs]; omega
  have hfin := splice_spec s p a ha hm
  have c3 : ∀ w, Calls Try.prog 30 #[.string s, .int .i64 a] w fun e w' => e = .returned (.string (rotS s (rotK (a : Int) s.size))) ∧ Below w.heap.size w w' := fun w => l02Rotate_any s a w s0 s1
  have c4 : ∀ w, Calls Try.prog 30 #[.string (p ++ (rotS s (rotK (a : Int) s.size)).extract p.size (rotS s (rotK (a : Int) s.size)).size), .int .i64 (-(a : Int))] w fun e w' => e = .returned (.string (splice s p a)) ∧ Below w.heap.size w w' := fun w =>
    (l02Rotate_any _ _ w (by omega) (by omega)).mono fun _ _ ⟨he, hw⟩ => ⟨by rw [he, hps, hfin], hw⟩
  obtain ⟨t, ht⟩ : ∃ t, rotS s (rotK (a : Int) s.size) = t := ⟨_, rfl⟩
  rw [ht] at hrs c3 c4
  have e1 : p.size ≤ t.size := by omega
  have e3 : t.size ≤ 8000 := by omega
  have HX := Lib.hid (And.intro hps (And.intro hfin ht)); clear hps hfin ht hrs
  have C1 := Lib.hid c1; have C2 := Lib.hid c2; have C3 := Lib.hid c3; have C4 := Lib.hid c4; clear c1 c2 c3 c4 h1 h2
  go_enter Try.func12, Try.ntmps12
  go_wp2_with fail
  refine (C1.out _).mono ?_
  rintro e w1 ⟨rfl, rfl⟩
  go_wp2_with fail
  refine (C2.out _).mono ?_
  rintro e w1 ⟨rfl, rfl⟩
  go_wp2_with fail
  refine (l00In_any _ _ _ _).mono ?_
  rintro e w1 ⟨rfl, rfl⟩
  go_wp2_with fail
  refine (C3.out _).mono ?_
  rintro e w1 ⟨rfl, hb1⟩
  go_wp2_with fail
  refine (C4.out _).mono ?_
  rintro e w2 ⟨rfl, hb2⟩
  go_wp2
  go_ret2
  exact ⟨rfl, hb1.trans (hb2.mono hb1.size)⟩
set_option maxHeartbeats 400000 in
theorem specSpliceCells_any (s p : ByteArray) (a : Int) (w : World) (hs : s.size ≤ maxLen) (hp : p.size ≤ maxLen) :
    Calls Try.prog 12 #[.string s, .int .i64 a, .string p] w fun e w' => e = .returned (.tuple #[.string (spS s p a), .int .i64 (spC s p a)]) ∧ Below w.heap.size w w' := by
  by_cases h1 : validCells s = true
  · by_cases h2 : validCells p = true
    · by_cases h3 : inB 0 ((s.size : Int) - 1) a = true
      · by_cases h4 : p.size ≤ s.size
        · rw [inB_iff] at h3
          obtain ⟨k, rfl⟩ : ∃ k : Nat, a = k := ⟨a.toNat, by omega⟩
          have e := sp_ok (a := k) h1 h2 (by omega) h4
          refine (specSpliceCells_yes s k p w h1 h2 (by omega) h4).mono fun _ _ ⟨he, hb⟩ => ⟨?_, hb⟩
          rw [he, e.1, e.2]
        · obtain ⟨e1, e2⟩ := sp_range (a := a) h1 h2 (.inr (by omega))
          have E1 := Lib.hid e1; have E2 := Lib.hid e2; clear e1 e2
          obtain ⟨s0, s1⟩ := valid_bd h1
          obtain ⟨p0, p1⟩ := valid_bd h2
          have c1 : ∀ w, Calls Try.prog 29 #[.string s] w fun e w' => e = .returned (.bool true) ∧ w = w' := fun w => (l02Cells_any s w hs).mono fun _ _ ⟨he, hw⟩ => ⟨by rw [he, h1], hw⟩
          have c2 : ∀ w, Calls Try.prog 29 #[.string p] w fun e w' => e = .returned (.bool true) ∧ w = w' := fun w => (l02Cells_any p w hp).mono fun _ _ ⟨he, hw⟩ => ⟨by rw [he, h2], hw⟩
          have C1 := Lib.hid c1; have C2 := Lib.hid c2; clear c1 c2 h1 h2
          go_enter Try.func12, Try.ntmps12
          go_wp2_with fail
          refine (C1.out _).mono ?_
          rintro e w1 ⟨rfl, rfl⟩
          go_wp2_with fail
          refine (C2.out _).mono ?_
          rintro e w1 ⟨rfl, rfl⟩
          go_wp2_with fail
          refine (l00In_any _ _ _ _).mono ?_
          rintro e w1 ⟨rfl, rfl⟩
          go_wp2
          go_ret2
          exact ⟨sp_ret E2.out.symm E1.out.symm, Below.refl _ _⟩
      · have h3 : inB 0 ((s.size : Int) - 1) a = false := by simpa using h3
        obtain ⟨e1, e2⟩ := sp_range (a := a) h1 h2 (.inl h3)
        have E1 := Lib.hid e1; have E2 := Lib.hid e2; clear e1 e2
        obtain ⟨s0, s1⟩ := valid_bd h1
        have c1 : ∀ w, Calls Try.prog 29 #[.string s] w fun e w' => e = .returned (.bool true) ∧ w = w' := fun w => (l02Cells_any s w hs).mono fun _ _ ⟨he, hw⟩ => ⟨by rw [he, h1], hw⟩
        have c2 : ∀ w, Calls Try.prog 29 #[.string p] w fun e w' => e = .returned (.bool true) ∧ w = w' := fun w => (l02Cells_any p w hp).mono fun _ _ ⟨he, hw⟩ => ⟨by rw [he, h2], hw⟩
        have C1 := Lib.hid c1; have C2 := Lib.hid c2; clear c1 c2 h1 h2
        go_enter Try.func12, Try.ntmps12
        go_wp2_with fail
        refine (C1.out _).mono ?_
        rintro e w1 ⟨rfl, rfl⟩
        go_wp2_with fail
        refine (C2.out _).mono ?_
        rintro e w1 ⟨rfl, rfl⟩
        go_wp2_with fail
        refine (l00In_any _ _ _ _).mono ?_
        rintro e w1 ⟨rfl, rfl⟩
        go_wp2
        go_ret2
        exact ⟨sp_ret E2.out.symm E1.out.symm, Below.refl _ _⟩
    · have h2 : validCells p = false := by simpa using h2
      obtain ⟨e1, e2⟩ := sp_invalid (s := s) (p := p) a (.inr h2)
      have E1 := Lib.hid e1; have E2 := Lib.hid e2; clear e1 e2
      have c1 : ∀ w, Calls Try.prog 29 #[.string s] w fun e w' => e = .returned (.bool true) ∧ w = w' := fun w => (l02Cells_any s w hs).mono fun _ _ ⟨he, hw⟩ => ⟨by rw [he, h1], hw⟩
      have c2 : ∀ w, Calls Try.prog 29 #[.string p] w fun e w' => e = .returned (.bool false) ∧ w = w' := fun w => (l02Cells_any p w hp).mono fun _ _ ⟨he, hw⟩ => ⟨by rw [he, h2], hw⟩
      have C1 := Lib.hid c1; have C2 := Lib.hid c2; clear c1 c2 h1 h2
      go_enter Try.func12, Try.ntmps12
      go_wp2_with fail
      refine (C1.out _).mono ?_
      rintro e w1 ⟨rfl, rfl⟩
      go_wp2_with fail
      refine (C2.out _).mono ?_
      rintro e w1 ⟨rfl, rfl⟩
      go_wp2
      go_ret2
      exact ⟨sp_ret E2.out.symm E1.out.symm, Below.refl _ _⟩
  · have h1 : validCells s = false := by simpa using h1
    obtain ⟨e1, e2⟩ := sp_invalid (s := s) (p := p) a (.inl h1)
    have E1 := Lib.hid e1; have E2 := Lib.hid e2; clear e1 e2
    have c1 : ∀ w, Calls Try.prog 29 #[.string s] w fun e w' => e = .returned (.bool false) ∧ w = w' := fun w => (l02Cells_any s w hs).mono fun _ _ ⟨he, hw⟩ => ⟨by rw [he, h1], hw⟩
    have C1 := Lib.hid c1; clear c1 h1
    go_enter Try.func12, Try.ntmps12
    go_wp2_with fail
    refine (C1.out _).mono ?_
    rintro e w1 ⟨rfl, rfl⟩
    go_wp2
    go_ret2
    exact ⟨sp_ret E2.out.symm E1.out.symm, Below.refl _ _⟩
end Go.Proofs.Yteldnfamfjldpac
