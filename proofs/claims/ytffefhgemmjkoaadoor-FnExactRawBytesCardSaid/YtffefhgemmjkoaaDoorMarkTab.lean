/- The bytes of marks: the tables; impl.isFormat, impl.isKind, impl.MarkByte, spec.l07Format, spec.l07Byte, spec.MarkByte -/
import Derived.Test.YtffefhgemmjkoaaDoorSliceCells
namespace Go.Proofs.YtffefhgemmjkoaaDoor
open Go.RowKit
set_option maxRecDepth 20000
set_option linter.unusedVariables false
def clkL : List Nat := [0, 254, 251, 248]
def gpbL : List Nat := [0, 8, 7, 6]
def clkRow : Array Value := (clkL.map fun (x : Nat) => Value.int .i64 (x : Int)).toArray
def gpbRow : Array Value := (gpbL.map fun (x : Nat) => Value.int .i64 (x : Int)).toArray
/-- The tables' blocks. -/
def ClkTab (w : World) : Prop := ∃ T fr, w.heap[2]? = some (.cells clkRow T fr)
def GpbTab (w : World) : Prop := ∃ T fr, w.heap[1]? = some (.cells gpbRow T fr)
theorem clkRow_at : ∀ k, k < 4 → clkRow[k]? = some (.int .i64 ((clkL[k]?.getD 0 : Nat) : Int)) := by
  intro k hk
  match k, hk with
  | 0, _ => rfl
  | 1, _ => rfl
  | 2, _ => rfl
  | 3, _ => rfl
theorem gpbRow_at : ∀ k, k < 4 → gpbRow[k]? = some (.int .i64 ((gpbL[k]?.getD 0 : Nat) : Int)) := by
  intro k hk
  match k, hk with
  | 0, _ => rfl
  | 1, _ => rfl
  | 2, _ => rfl
  | 3, _ => rfl
theorem ClkTab.cell {w : World} (h : ClkTab w) (k : Nat) (hk : k < 4) : w.cell? ⟨2, k, none⟩ = some (.int .i64 ((clkL[k]?.getD 0 : Nat) : Int)) := by
  obtain ⟨T, fr, hc⟩ := h
  simp only [World.cell?, hc]
  exact clkRow_at k hk
theorem GpbTab.cell {w : World} (h : GpbTab w) (k : Nat) (hk : k < 4) : w.cell? ⟨1, k, none⟩ = some (.int .i64 ((gpbL[k]?.getD 0 : Nat) : Int)) := by
  obtain ⟨T, fr, hc⟩ := h
  simp only [World.cell?, hc]
  exact gpbRow_at k hk
theorem ClkTab.below {w w' : World} {n : Nat} (h : ClkTab w) (hb : Below n w w') (hn : 2 < n) : ClkTab w' := by
  obtain ⟨T, fr, hc⟩ := h
  exact ⟨T, fr, by rw [hb.block _ hn]; exact hc⟩
theorem GpbTab.below {w w' : World} {n : Nat} (h : GpbTab w) (hb : Below n w w') (hn : 1 < n) : GpbTab w' := by
  obtain ⟨T, fr, hc⟩ := h
  exact ⟨T, fr, by rw [hb.block _ hn]; exact hc⟩
/-- Both tables stand, and lie below the blocks of the call. -/
structure MkTabs (w : World) : Prop where
  c : ClkTab w
  g : GpbTab w
  lc : 2 < w.heap.size
  lg : 1 < w.heap.size
theorem MkTabs.below {w w' : World} (h : MkTabs w) (hb : Below w.heap.size w w') : MkTabs w' :=
  ⟨h.c.below hb h.lc, h.g.below hb h.lg, Nat.lt_of_lt_of_le h.lc hb.size, Nat.lt_of_lt_of_le h.lg hb.size⟩
theorem MkTabs.of {w : World} (h1 : 2 < w.heap.size) (h2 : ClkTab w) (h3 : 1 < w.heap.size) (h4 : GpbTab w) : MkTabs w := ⟨h2, h4, h1, h3⟩
def markOk (f k : Int) : Bool := inB 1 3 f && inB 1 3 k
def mkByteN (f k : Int) : Nat := if f = 3 then gpbL[k.toNat]?.getD 0 else clkL[k.toNat]?.getD 0
def markB (f k : Int) : Int := if markOk f k = true then (mkByteN f k : Int) else 0
set_option maxHeartbeats 400000 in
theorem isFormat_any (f : Int) (w : World) :
    Calls Tryd.prog 41 #[.int .i64 f] w fun e w' => e = .returned (.bool (inB 1 3 f)) ∧ Below w.heap.size w w' := by
  go_enter Tryd.func41, Tryd.ntmps41
  go_wp2_with (go_at_call 88; refine (within_b _ _ _ _ _ _ (by simp)).mono ?_; rintro e w' ⟨rfl, hb⟩)
  go_ret
  exact ⟨rfl, hb⟩
set_option maxHeartbeats 400000 in
theorem isKind_any (f : Int) (w : World) :
    Calls Tryd.prog 74 #[.int .i64 f] w fun e w' => e = .returned (.bool (inB 1 3 f)) ∧ Below w.heap.size w w' := by
  go_enter Tryd.func74, Tryd.ntmps74
  go_wp2_with (go_at_call 88; refine (within_b _ _ _ _ _ _ (by simp)).mono ?_; rintro e w' ⟨rfl, hb⟩)
  go_ret
  exact ⟨rfl, hb⟩
set_option maxHeartbeats 1000000 in
theorem markByte_any (f k : Int) (w : World) (h : MkTabs w) :
    Calls Tryd.prog 33 #[.int .i64 f, .int .i64 k] w fun e w' => e = .returned (.int .i64 (markB f k)) ∧ Below w.heap.size w w' := by
  have hf := fun w => isFormat_any f w
  have hk := fun w => isKind_any k w
  by_cases h1 : inB 1 3 f = true
  · rw [h1] at hf
    by_cases h2 : inB 1 3 k = true
    · rw [h2] at hk
      have hB : markB f k = (mkByteN f k : Int) := by unfold markB; rw [if_pos (by unfold markOk; rw [h1, h2]; rfl)]
      rw [hB]
      obtain ⟨f0, f1⟩ := inB_iff.1 h1
      obtain ⟨k0, k1⟩ := inB_iff.1 h2
      obtain ⟨j, rfl⟩ : ∃ j : Nat, k = j := ⟨k.toNat, by omega⟩
      have HF := Lib.hid hf; have HK := Lib.hid hk
      have ht : ∀ w2, Below w.heap.size w w2 → w2.cell? ⟨2, j, none⟩ = some (.int .i64 ((clkL[j]?.getD 0 : Nat) : Int)) ∧ w2.cell? ⟨1, j, none⟩ = some (.int .i64 ((gpbL[j]?.getD 0 : Nat) : Int)) := fun w2 hb => ⟨(h.below hb).c.cell j (by omega), (h.below hb).g.cell j (by omega)⟩
      have HT := Lib.hid ht
      clear hf hk h1 h2 hB ht
      have ej : ((j : Int)).toNat = j := by omega
      by_cases h3 : f = 3
      · have eN : mkByteN f j = gpbL[j]?.getD 0 := by unfold mkByteN; rw [if_pos h3, ej]
        rw [eN]
        clear eN ej
        subst h3
        generalize gpbL[j]?.getD 0 = x at *
        go_enter Tryd.func33, Tryd.ntmps33
        go_wp2_with (first | (go_at_call 41; refine (HF.out _).mono ?_; rintro e w1 ⟨rfl, hb1⟩) | (go_at_call 74; refine (HK.out _).mono ?_; rintro e w2 ⟨rfl, hb2⟩; have hb3 := hb1.trans (hb2.mono hb1.size); obtain ⟨t1, t2⟩ := HT.out _ hb3))
        go_ret
        exact ⟨rfl, hb3⟩
      · have eN : mkByteN f j = clkL[j]?.getD 0 := by unfold mkByteN; rw [if_neg h3, ej]
        rw [eN]
        have e3 : (f == 3) = false := by simp [h3]
        clear eN ej
        generalize clkL[j]?.getD 0 = x at *
        go_enter Tryd.func33, Tryd.ntmps33
        go_wp2_with (first | (go_at_call 41; refine (HF.out _).mono ?_; rintro e w1 ⟨rfl, hb1⟩) | (go_at_call 74; refine (HK.out _).mono ?_; rintro e w2 ⟨rfl, hb2⟩; have hb3 := hb1.trans (hb2.mono hb1.size); obtain ⟨t1, t2⟩ := HT.out _ hb3))
        go_ret
        exact ⟨rfl, hb3⟩
    · have h20 : inB 1 3 k = false := by simpa using h2
      rw [h20] at hk
      have hB : markB f k = 0 := by unfold markB; rw [if_neg (by unfold markOk; rw [h20]; simp)]
      rw [hB]
      have HF := Lib.hid hf; have HK := Lib.hid hk; clear hf hk h1 h2 h20 hB
      go_enter Tryd.func33, Tryd.ntmps33
      go_wp2_with (first | (go_at_call 41; refine (HF.out _).mono ?_; rintro e w1 ⟨rfl, hb1⟩) | (go_at_call 74; refine (HK.out _).mono ?_; rintro e w2 ⟨rfl, hb2⟩))
      go_ret
      exact ⟨rfl, hb1.trans (hb2.mono hb1.size)⟩
  · have h10 : inB 1 3 f = false := by simpa using h1
    rw [h10] at hf
    have hB : markB f k = 0 := by unfold markB; rw [if_neg (by unfold markOk; rw [h10]; simp)]
    rw [hB]
    have HF := Lib.hid hf; clear hf hk h1 h10 hB
    go_enter Tryd.func33, Tryd.ntmps33
    go_wp2_with (first | (go_at_call 41; refine (HF.out _).mono ?_; rintro e w1 ⟨rfl, hb1⟩))
    go_ret
    exact ⟨rfl, hb1⟩
set_option maxHeartbeats 400000 in
theorem l07Format_any (f : Int) (w : World) :
    Calls Tryd.prog 30 #[.int .i64 f] w fun e w' => e = .returned (.bool (inB 1 3 f)) ∧ w = w' := by
  go_enter Tryd.func30, Tryd.ntmps30
  go_wp2_with (go_at_call 31; refine (l00In_any _ _ _ _).mono ?_; rintro e w' ⟨rfl, rfl⟩)
  go_ret
  exact ⟨rfl, rfl⟩
set_option maxHeartbeats 1000000 in
theorem l07Byte_any (f k : Int) (w : World) (h : markOk f k = true) :
    Calls Tryd.prog 69 #[.int .i64 f, .int .i64 k] w fun e w' => e = .returned (.int .i64 (mkByteN f k : Int)) ∧ Below w.heap.size w w' := by
  unfold markOk at h
  simp only [Bool.and_eq_true, inB_iff] at h
  obtain ⟨⟨f0, f1⟩, k0, k1⟩ := h
  have hk : k = 1 ∨ k = 2 ∨ k = 3 := by omega
  have hf : f = 1 ∨ f = 2 ∨ f = 3 := by omega
  clear f0 f1 k0 k1
  rcases hk with rfl | rfl | rfl <;> rcases hf with rfl | rfl | rfl
  all_goals
    go_enter Tryd.func69, Tryd.ntmps69
    go_wp2
    go_ret
    exact ⟨rfl, by go_grown⟩
end Go.Proofs.YtffefhgemmjkoaaDoor
