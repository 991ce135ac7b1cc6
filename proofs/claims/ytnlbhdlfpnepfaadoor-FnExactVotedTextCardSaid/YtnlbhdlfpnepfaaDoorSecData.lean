/- impl.areBytes, impl.isSize, impl.bytesInSector, impl.isSectorData -/
import Derived.Test.YtnlbhdlfpnepfaaDoorSliceCells
namespace Go.Proofs.YtnlbhdlfpnepfaaDoor
open Go.RowKit
set_option linter.unusedVariables false
/-- The bytes of a sector of a size that exists. -/
def secN (z : Int) : Int := if z = 0 then 8 else if z = 1 then 16 else 32
def secDataB (z : Int) (d : ByteArray) : Bool := inB 0 2 z && decide ((d.size : Int) = secN z)
theorem areBytes_list (zs : List Int) (b off c : Nat) (w : World) (hl : zs.length ≤ maxLen) (hc : Ints w b off zs) :
    Calls Tryd.prog 20 #[.slice (some ⟨b, off, none⟩) zs.length c] w fun e w' => e = .returned (.bool (zs.all (inB 0 255))) ∧ w = w' := by
  have WI := Lib.hid (within_list 0 255 zs b off c w hl hc)
  go_enter Tryd.func20, Tryd.ntmps20
  go_wp2_with (go_at_call 22; refine WI.out.mono ?_; rintro e w' ⟨rfl, rfl⟩)
  go_ret
  exact ⟨rfl, rfl⟩
theorem areBytes_4 (x0 x1 x2 x3 : Int) (w : World) (T : TypeId) (b : Nat) (hb : w.heap.size = b) :
    Calls Tryd.prog 20 #[.slice (some ⟨b, 0, none⟩) 4 4] (w.alloc (.cells #[.int .i64 x0, .int .i64 x1, .int .i64 x2, .int .i64 x3] T)) fun e w' => e = .returned (.bool ([x0, x1, x2, x3].all (inB 0 255))) ∧ Below w.heap.size w w' := by
  subst hb
  refine (areBytes_list [x0, x1, x2, x3] w.heap.size 0 4 _ (by simp [maxLen]) (by
    intro i v hv
    match i, hv with
    | 0, hv => simp at hv; subst hv; simp [go_sem]
    | 1, hv => simp at hv; subst hv; simp [go_sem]
    | 2, hv => simp at hv; subst hv; simp [go_sem]
    | 3, hv => simp at hv; subst hv; simp [go_sem]
    | i + 4, hv => simp at hv)).mono ?_
  rintro e w' ⟨rfl, rfl⟩
  exact ⟨rfl, (Below.refl _ _).alloc (Nat.le_refl _) _⟩
theorem areBytes_3 (x0 x1 x2 : Int) (w : World) (T : TypeId) (b : Nat) (hb : w.heap.size = b) :
    Calls Tryd.prog 20 #[.slice (some ⟨b, 0, none⟩) 3 3] (w.alloc (.cells #[.int .i64 x0, .int .i64 x1, .int .i64 x2] T)) fun e w' => e = .returned (.bool ([x0, x1, x2].all (inB 0 255))) ∧ Below w.heap.size w w' := by
  subst hb
  refine (areBytes_list [x0, x1, x2] w.heap.size 0 3 _ (by simp [maxLen]) (by
    intro i v hv
    match i, hv with
    | 0, hv => simp at hv; subst hv; simp [go_sem]
    | 1, hv => simp at hv; subst hv; simp [go_sem]
    | 2, hv => simp at hv; subst hv; simp [go_sem]
    | i + 3, hv => simp at hv)).mono ?_
  rintro e w' ⟨rfl, rfl⟩
  exact ⟨rfl, (Below.refl _ _).alloc (Nat.le_refl _) _⟩
set_option maxHeartbeats 1000000 in
theorem isSize_any (z : Int) (w : World) :
    Calls Tryd.prog 21 #[.int .i64 z] w fun e w' => e = .returned (.bool (inB 0 2 z)) ∧ Below w.heap.size w w' := by
  go_enter Tryd.func21, Tryd.ntmps21
  go_wp2_with (go_at_call 22; refine (within_b _ _ _ _ _ _ (by simp)).mono ?_; rintro e w' ⟨rfl, hb⟩)
  go_ret
  exact ⟨rfl, hb⟩
set_option maxHeartbeats 1000000 in
theorem bytesIn_any (z : Int) (w : World) (h : inB 0 2 z = true) :
    Calls Tryd.prog 31 #[.int .i64 z] w fun e w' => e = .returned (.int .i64 (secN z)) ∧ w = w' := by
  obtain ⟨h0, h1⟩ := inB_iff.1 h
  have hz : z = 0 ∨ z = 1 ∨ z = 2 := by omega
  clear h h0 h1
  rcases hz with rfl | rfl | rfl
  all_goals
    go_enter Tryd.func31, Tryd.ntmps31
    go_wp2
    go_ret
    exact ⟨rfl, rfl⟩
set_option maxHeartbeats 1000000 in
theorem isSectorData_any (z : Int) (d : ByteArray) (w : World) (hd : d.size ≤ maxLen) :
    Calls Tryd.prog 24 #[.int .i64 z, .string d] w fun e w' => e = .returned (.bool (secDataB z d)) ∧ Below w.heap.size w w' := by
  unfold maxLen at hd
  have IZ := Lib.hid (fun w => isSize_any z w)
  unfold secDataB
  by_cases hz : inB 0 2 z = true
  · have BI := Lib.hid (fun w => bytesIn_any z w hz)
    rw [hz] at IZ ⊢
    have hn : 8 ≤ secN z ∧ secN z ≤ 32 := by unfold secN; split <;> (try split) <;> omega
    obtain ⟨n, hnn⟩ : ∃ n, secN z = n := ⟨_, rfl⟩
    rw [hnn] at BI ⊢
    clear hz hnn hn
    have hq : ((d.size : Int) == n) = decide ((d.size : Int) = n) := rfl
    obtain ⟨q, hqq⟩ : ∃ q, decide ((d.size : Int) = n) = q := ⟨_, rfl⟩
    rw [hqq] at hq ⊢
    clear hqq
    go_enter Tryd.func24, Tryd.ntmps24
    go_wp2_with fail
    refine (IZ.out _).mono ?_
    rintro e w1 ⟨rfl, hb1⟩
    go_wp2_with fail
    refine (BI.out _).mono ?_
    rintro e w2 ⟨rfl, rfl⟩
    go_wp2
    go_ret
    exact ⟨by cases q <;> rfl, hb1⟩
  · have hz0 : inB 0 2 z = false := by simpa using hz
    rw [hz0] at IZ ⊢
    clear hz hz0
    go_enter Tryd.func24, Tryd.ntmps24
    go_wp2_with fail
    refine (IZ.out _).mono ?_
    rintro e w1 ⟨rfl, hb1⟩
    go_wp2
    go_ret
    exact ⟨rfl, hb1⟩
theorem empty_no {s : ByteArray} (h : ¬ s = ⟨#[]⟩) : (s.toList == (⟨#[]⟩ : ByteArray).toList) = false ∧ (s.toList == []) = false := by
  have h2 : ¬ s.toList = [] := by
    intro e
    apply h
    rw [ByteArray.toList_eq] at e
    apply ByteArray.ext
    exact Array.toList_eq_nil_iff.1 e
  have e1 : (⟨#[]⟩ : ByteArray).toList = [] := by rw [ByteArray.toList_eq]
  rw [e1]
  exact ⟨beq_eq_false_iff_ne.2 h2, beq_eq_false_iff_ne.2 h2⟩
end Go.Proofs.YtnlbhdlfpnepfaaDoor
