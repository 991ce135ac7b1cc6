/- spec.l08Sector, spec.ValidSectorSpec -/
import Derived.Test.YtffefhgemmjkoaaDoorSectorOk
import Derived.Test.YtffefhgemmjkoaaDoorSlRes
namespace Go.Proofs.YtffefhgemmjkoaaDoor
open Go.RowKit
set_option maxRecDepth 20000
set_option linter.unusedVariables false
/-- The block of a described sector. -/
def SecAt (w : World) (p : Nat) (c h n z : Int) (d : ByteArray) (de bi bd : Bool) : Prop := BoxAt w p #[.int .i64 c, .int .i64 h, .int .i64 n, .int .i64 z, .string d, .bool de, .bool bi, .bool bd]
set_option maxHeartbeats 2000000 in
theorem l08Sector_any (c h n z : Int) (d : ByteArray) (de bi bd : Bool) (p : Nat) (w : World) (hd : d.size ≤ maxLen) (hp : SecAt w p c h n z d de bi bd) :
    Calls Tryd.prog 39 #[.pointer (some ⟨p, 0, none⟩)] w fun e w' => e = .returned (.bool (secB c h n z d)) ∧ Below w.heap.size w w' := by
  unfold maxLen at hd
  have c0 := hp 0 _ rfl
  have c1 := hp 1 _ rfl
  have c2 := hp 2 _ rfl
  have c3 := hp 3 _ rfl
  have c4 := hp 4 _ rfl
  clear hp
  have IC := Lib.hid (fun w => l00In_any c 0 255 w)
  have IH := Lib.hid (fun w => l00In_any h 0 255 w)
  have IN := Lib.hid (fun w => l00In_any n 0 255 w)
  have IZ := Lib.hid (fun w => l00In_any z 0 2 w)
  unfold secB
  by_cases hz : inB 0 2 z = true
  · obtain ⟨h0, h1⟩ := inB_iff.1 hz
    have hz3 : z = 0 ∨ z = 1 ∨ z = 2 := by omega
    rw [hz] at IZ ⊢
    obtain ⟨x1, h1⟩ : ∃ x, inB 0 255 c = x := ⟨_, rfl⟩
    obtain ⟨x2, h2⟩ : ∃ x, inB 0 255 h = x := ⟨_, rfl⟩
    obtain ⟨x3, h3⟩ : ∃ x, inB 0 255 n = x := ⟨_, rfl⟩
    rw [h1] at IC ⊢
    rw [h2] at IH ⊢
    rw [h3] at IN ⊢
    clear h1 h2 h3 hz
    rcases hz3 with rfl | rfl | rfl
    all_goals
      simp only [secN]
      cases x1 <;> cases x2 <;> cases x3
      all_goals
        go_enter Tryd.func39, Tryd.ntmps39
        go_wp2
        go_quiet ((go_at_call 31; first | (with_reducible exact Calls.quiet_of_same ((IC.out _).mono fun _ _ ⟨he, hw⟩ => ⟨he, hw.symm⟩)) | (with_reducible exact Calls.quiet_of_same ((IH.out _).mono fun _ _ ⟨he, hw⟩ => ⟨he, hw.symm⟩)) | (with_reducible exact Calls.quiet_of_same ((IN.out _).mono fun _ _ ⟨he, hw⟩ => ⟨he, hw.symm⟩)) | (with_reducible exact Calls.quiet_of_same ((IZ.out _).mono fun _ _ ⟨he, hw⟩ => ⟨he, hw.symm⟩))))
        go_wp2
        go_ret
        exact ⟨ret_bool (by first | rfl | simp), below_drewN (Below.refl _ _) _⟩
  · have hz0 : inB 0 2 z = false := by simpa using hz
    rw [hz0] at IZ ⊢
    obtain ⟨x1, h1⟩ : ∃ x, inB 0 255 c = x := ⟨_, rfl⟩
    obtain ⟨x2, h2⟩ : ∃ x, inB 0 255 h = x := ⟨_, rfl⟩
    obtain ⟨x3, h3⟩ : ∃ x, inB 0 255 n = x := ⟨_, rfl⟩
    rw [h1] at IC ⊢
    rw [h2] at IH ⊢
    rw [h3] at IN ⊢
    clear h1 h2 h3 hz hz0
    cases x1 <;> cases x2 <;> cases x3
    all_goals
      go_enter Tryd.func39, Tryd.ntmps39
      go_wp2
      go_quiet ((go_at_call 31; first | (with_reducible exact Calls.quiet_of_same ((IC.out _).mono fun _ _ ⟨he, hw⟩ => ⟨he, hw.symm⟩)) | (with_reducible exact Calls.quiet_of_same ((IH.out _).mono fun _ _ ⟨he, hw⟩ => ⟨he, hw.symm⟩)) | (with_reducible exact Calls.quiet_of_same ((IN.out _).mono fun _ _ ⟨he, hw⟩ => ⟨he, hw.symm⟩)) | (with_reducible exact Calls.quiet_of_same ((IZ.out _).mono fun _ _ ⟨he, hw⟩ => ⟨he, hw.symm⟩))))
      go_wp2
      go_ret
      exact ⟨rfl, below_drewN (Below.refl _ _) _⟩
end Go.Proofs.YtffefhgemmjkoaaDoor
