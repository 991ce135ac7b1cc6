/- impl.areBytes, impl.isSize, impl.bytesInSector, impl.isSectorData -/
import Derived.Test.YtllcbiafghhcmaaPkFnDeviceOrderSliceCells
namespace Go.Proofs.Ytllcbiafghhcmaa
open Go.RowKit
set_option linter.unusedVariables false
/-- The bytes of a sector of a size that exists. -/
def secN (z : Int) : Int := if z = 0 then 8 else if z = 1 then 16 else 32
def secDataB (z : Int) (d : ByteArray) : Bool := inB 0 2 z && decide ((d.size : Int) = secN z)
set_option maxHeartbeats 1000000 in
theorem isSize_any (z : Int) (w : World) :
    Calls Try.prog 80 #[.int .i64 z] w fun e w' => e = .returned (.bool (inB 0 2 z)) ∧ Below w.heap.size w w' := by
  go_enter Try.func80, Try.ntmps80
  go_wp2_with (go_at_call 69; refine (within_b _ _ _ _ _ _ (by simp)).mono ?_; rintro e w' ⟨rfl, hb⟩)
  go_ret
  exact ⟨rfl, hb⟩
set_option maxHeartbeats 1000000 in
theorem bytesIn_any (z : Int) (w : World) (h : inB 0 2 z = true) :
    Calls Try.prog 57 #[.int .i64 z] w fun e w' => e = .returned (.int .i64 (secN z)) ∧ w = w' := by
  obtain ⟨h0, h1⟩ := inB_iff.1 h
  have hz : z = 0 ∨ z = 1 ∨ z = 2 := by omega
  clear h h0 h1
  rcases hz with rfl | rfl | rfl
  all_goals
    go_enter Try.func57, Try.ntmps57
    go_wp2
    go_ret
    exact ⟨rfl, rfl⟩
set_option maxHeartbeats 1000000 in
theorem isSectorData_any (z : Int) (d : ByteArray) (w : World) (hd : d.size ≤ maxLen) :
    Calls Try.prog 61 #[.int .i64 z, .string d] w fun e w' => e = .returned (.bool (secDataB z d)) ∧ Below w.heap.size w w' := by
  unfold maxLen at hd
  have IZ := Lib.hid (fun w => isSize_any z w)
  unfold secDataB
  by_cases hz : inB 0 2 z = true
  · have BI := Lib.hid (fun w => bytesIn_any z w hz)
    rw [hz] at IZ ⊢
    have hn : 8 ≤ secN z ∧ secN z ≤ 32 := by unfold secN; split <;> (try split) <;> omega
    obtain ⟨n, hnn⟩ : ∃ n, secN z = n := ⟨_, rfl⟩
    rw [hnn] at BI ⊢
    clear hz hnn hn
    have hq : ((d.size : Int) == n) = decide ((d.size : Int) = n) := rfl
    obtain ⟨q, hqq⟩ : ∃ q, decide ((d.size : Int) = n) = q := ⟨_, rfl⟩
    rw [hqq] at hq ⊢
    clear hqq
    go_enter Try.func61, Try.ntmps61
    go_wp2_with fail
    refine (IZ.out _).mono ?_
    rintro e w1 ⟨rfl, hb1⟩
    go_wp2_with fail
    refine (BI.out _).mono ?_
    rintro e w2 ⟨rfl, rfl⟩
    go_wp2
    go_ret
    exact ⟨by cases q <;> rfl, hb1⟩
  · have hz0 : inB 0 2 z = false := by simpa using hz
    rw [hz0] at IZ ⊢
    clear hz hz0
    go_enter Try.func61, Try.ntmps61
    go_wp2_with fail
    refine (IZ.out _).mono ?_
    rintro e w1 ⟨rfl, hb1⟩
    go_wp2
    go_ret
    exact ⟨rfl, hb1⟩
theorem empty_no {s : ByteArray} (h : ¬ s = ⟨#[]⟩) : (s.toList == (⟨#[]⟩ : ByteArray).toList) = false ∧ (s.toList == []) = false := by
  have h2 : ¬ s.toList = [] := by
    intro e
    apply h
    rw [ByteArray.toList_eq] at e
    apply ByteArray.ext
    exact Array.toList_eq_nil_iff.1 e
  have e1 : (⟨#[]⟩ : ByteArray).toList = [] := by rw [ByteArray.toList_eq]
  rw [e1]
  exact ⟨beq_eq_false_iff_ne.2 h2, beq_eq_false_iff_ne.2 h2⟩
end Go.Proofs.Ytllcbiafghhcmaa
