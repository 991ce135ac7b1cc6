import Derived.Test.YteldnfamfjldpacSpecSpliceCells
namespace Go.Proofs.Yteldnfamfjldpac.fnExactSpliceCells
open Go.RowKit
set_option linter.unusedVariables false
set_option maxHeartbeats 400000 in
theorem walk (a0 : ByteArray) (a1 : Int) (a2 : ByteArray) (w : World) (w0 : a0.size ≤ maxLen) (w1 : (Lit.int .i64 a1).wf = true) (w2 : a2.size ≤ maxLen) :
    Calls Try.prog 4 #[.string a0, .int .i64 a1, .string a2] w fun e w' => e = .returned (.bool true) ∧ Below w.heap.size w w' := by
  have hs0 := w0
  have hs2 := w2
  unfold maxLen at hs0 hs2
  by_cases hl : 1048576 < a0.size
  · go_enter Try.func4, Try.ntmps4
    go_wp2
    go_ret
    exact ⟨rfl, Below.refl _ _⟩
  · by_cases hl2 : 1048576 < a2.size
    · go_enter Try.func4, Try.ntmps4
      go_wp2
      go_ret
      exact ⟨rfl, Below.refl _ _⟩
    · obtain ⟨r, hr⟩ : ∃ r, spS a0 a2 a1 = r := ⟨_, rfl⟩
      obtain ⟨c, hc⟩ : ∃ c, spC a0 a2 a1 = c := ⟨_, rfl⟩
      have c1 := fun w => specSpliceCells_any a0 a2 a1 w w0 w2
      have c2 := fun w => spliceCells_any a0 a2 a1 w w0 w2
      rw [hr, hc] at c1 c2
      clear hr hc
      have C1 := Lib.hid c1; have C2 := Lib.hid c2; clear c1 c2
      go_enter Try.func4, Try.ntmps4
      go_wp2_with (first | (go_at_call 12; refine (C1.out _).mono ?_; rintro e w1 ⟨rfl, hb1⟩) | (go_at_call 13; refine (C2.out _).mono ?_; rintro e w2 ⟨rfl, hb2⟩))
      go_ret
      exact ⟨rfl, hb1.trans (hb2.mono hb1.size)⟩
end Go.Proofs.Yteldnfamfjldpac.fnExactSpliceCells
