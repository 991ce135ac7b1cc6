/- impl.areBytes, impl.isSize, impl.bytesInSector, impl.isSectorData -/
import Derived.Test.YtkihkcdlbpkmcaaGreatDoorPkEntryAtSliceCells
namespace Go.Proofs.YtkihkcdlbpkmcaaGreatDoor
open Go.RowKit
set_option maxRecDepth 20000
set_option linter.unusedVariables false
/-- The bytes of a sector of a size that exists. -/
def secN (z : Int) : Int := if z = 0 then 8 else if z = 1 then 16 else 32
def secDataB (z : Int) (d : ByteArray) : Bool := inB 0 2 z && decide ((d.size : Int) = secN z)
theorem areBytes_list (zs : List Int) (b off c : Nat) (w : World) (hl : zs.length ≤ maxLen) (hc : Ints w b off zs) :
    Calls Tryz.prog 58 #[.slice (some ⟨b, off, none⟩) zs.length c] w fun e w' => e = .returned (.bool (zs.all (inB 0 255))) ∧ w = w' := by
  have WI := Lib.hid (within_list 0 255 zs b off c w hl hc)
  go_enter Tryz.func58, Tryz.ntmps58
  go_wp2_with (go_at_call 22; refine WI.out.mono ?_; rintro e w' ⟨rfl, rfl⟩)
  go_ret
  exact ⟨rfl, rfl⟩
theorem areBytes_4 (x0 x1 x2 x3 : Int) (w : World) (T : TypeId) (b : Nat) (hb : w.heap.size = b) :
    Calls Tryz.prog 58 #[.slice (some ⟨b, 0, none⟩) 4 4] (w.alloc (.cells #[.int .i64 x0, .int .i64 x1, .int .i64 x2, .int .i64 x3] T)) fun e w' => e = .returned (.bool ([x0, x1, x2, x3].all (inB 0 255))) ∧ Below w.heap.size w w' := by
  subst hb
  refine (areBytes_list [x0, x1, x2, x3] w.heap.size 0 4 _ (by simp [maxLen]) (by
    intro i v hv
    match i, hv with
    | 0, hv => simp at hv; subst hv; simp [go_sem]
    | 1, hv => simp at hv; subst hv; simp [go_sem]
    | 2, hv => simp at hv; subst hv; simp [go_sem]
    | 3, hv => simp at hv; subst hv; simp [go_sem]
    | i + 4, hv => simp at hv)).mono ?_
  rintro e w' ⟨rfl, rfl⟩
  exact ⟨rfl, (Below.refl _ _).alloc (Nat.le_refl _) _⟩
theorem areBytes_3 (x0 x1 x2 : Int) (w : World) (T : TypeId) (b : Nat) (hb : w.heap.size = b) :
    Calls Tryz.prog 58 #[.slice (some ⟨b, 0, none⟩) 3 3] (w.alloc (.cells #[.int .i64 x0, .int .i64 x1, .int .i64 x2] T)) fun e w' => e = .returned (.bool ([x0, x1, x2].all (inB 0 255))) ∧ Below w.heap.size w w' := by
  subst hb
  refine (areBytes_list [x0, x1, x2] w.heap.size 0 3 _ (by simp [maxLen]) (by
    intro i v hv
    match i, hv with
    | 0, hv => simp at hv; subst hv; simp [go_sem]
    | 1, hv => simp at hv; subst hv; simp [go_sem]
    | 2, hv => simp at hv; subst hv; simp [go_sem]
    | i + 3, hv => simp at hv)).mono ?_
  rintro e w' ⟨rfl, rfl⟩
  exact ⟨rfl, (Below.refl _ _).alloc (Nat.le_refl _) _⟩
theorem empty_no {s : ByteArray} (h : ¬ s = ⟨#[]⟩) : (s.toList == (⟨#[]⟩ : ByteArray).toList) = false ∧ (s.toList == []) = false := by
  have h2 : ¬ s.toList = [] := by
    intro e
    apply h
    rw [ByteArray.toList_eq] at e
    apply ByteArray.ext
    exact Array.toList_eq_nil_iff.1 e
  have e1 : (⟨#[]⟩ : ByteArray).toList = [] := by rw [ByteArray.toList_eq]
  rw [e1]
  exact ⟨beq_eq_false_iff_ne.2 h2, beq_eq_false_iff_ne.2 h2⟩
end Go.Proofs.YtkihkcdlbpkmcaaGreatDoor
