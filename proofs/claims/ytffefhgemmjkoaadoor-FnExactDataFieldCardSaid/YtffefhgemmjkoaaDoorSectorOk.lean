/- impl.ValidSectorSpec -/
import Derived.Test.YtffefhgemmjkoaaDoorOpenSector
import Derived.Test.YtffefhgemmjkoaaDoorSecData
import Derived.Test.YtffefhgemmjkoaaDoorBoxes
import Derived.Deep.RegionHeld3
import Derived.Deep.RegionLaw
import Derived.BigRegion
namespace Go.Proofs.YtffefhgemmjkoaaDoor
open Go.RowKit
set_option maxRecDepth 20000
set_option linter.unusedVariables false
set_option linter.unusedSimpArgs false
def secB (c h n z : Int) (d : ByteArray) : Bool := (inB 0 255 c && inB 0 255 h && inB 0 255 n) && (inB 0 2 z && decide ((d.size : Int) = secN z))
theorem boxSec (w : World) (v0 v1 v2 v3 v4 v5 v6 v7 : Value) (T : TypeId) (w2 : World) (hb : Below (w.alloc (.cells #[v0, v1, v2, v3, v4, v5, v6, v7] T)).heap.size (w.alloc (.cells #[v0, v1, v2, v3, v4, v5, v6, v7] T)) w2) :
    w2.cell? ⟨w.heap.size, 0, none⟩ = some v0 ∧ w2.cell? ⟨w.heap.size, 1, none⟩ = some v1 ∧ w2.cell? ⟨w.heap.size, 2, none⟩ = some v2 ∧ w2.cell? ⟨w.heap.size, 3, none⟩ = some v3 ∧ w2.cell? ⟨w.heap.size, 4, none⟩ = some v4 := by
  have h := (BoxAt.new w #[v0, v1, v2, v3, v4, v5, v6, v7] T _ rfl).below hb (by simp)
  exact ⟨h 0 _ rfl, h 1 _ rfl, h 2 _ rfl, h 3 _ rfl, h 4 _ rfl⟩
set_option maxHeartbeats 4000000 in
theorem validSector_any (c h n z : Int) (d : ByteArray) (de bi bd : Bool) (w : World) (hd : d.size ≤ maxLen) :
    Calls Tryd.prog 42 #[secV c h n z d de bi bd] w fun e w' => e = .returned (.bool (secB c h n z d)) ∧ Below w.heap.size w w' := by
  have AB := Lib.hid (fun w T b hb => areBytes_3 c h n w T b hb)
  have SD := Lib.hid (fun w => isSectorData_any z d w hd)
  have BX := Lib.hid (fun T w2 hb => boxSec w (.int .i64 c) (.int .i64 h) (.int .i64 n) (.int .i64 z) (.string d) (.bool de) (.bool bi) (.bool bd) T w2 hb)
  have he : secB c h n z d = ([c, h, n].all (inB 0 255) && secDataB z d) := by
    unfold secB secDataB
    simp only [List.all_cons, List.all_nil, Bool.and_true, Bool.and_assoc]
  rw [he]
  unfold secV
  clear he
  obtain ⟨x, hx⟩ : ∃ x, [c, h, n].all (inB 0 255) = x := ⟨_, rfl⟩
  rw [hx] at AB ⊢
  obtain ⟨y, hy⟩ : ∃ y, secDataB z d = y := ⟨_, rfl⟩
  rw [hy] at SD ⊢
  clear hx hy
  cases x with
  | false =>
    go_enter Tryd.func42, Tryd.ntmps42
    go_wp2_with fail
    refine (AB.out _ _ _ (by simp)).mono ?_
    rintro e w1 ⟨rfl, hb1⟩
    go_wp2
    go_ret
    exact ⟨rfl, Below.trans (show Below w.heap.size w _ from (Below.refl _ _).alloc (Nat.le_refl _) _) (hb1.mono (by simp))⟩
  | true =>
    go_enter Tryd.func42, Tryd.ntmps42
    go_wp2_with fail
    refine (AB.out _ _ _ (by simp)).mono ?_
    rintro e w1 ⟨rfl, hb1⟩
    obtain ⟨c0, c1, c2, c3, c4⟩ := BX.out _ _ hb1
    have FB := Lib.hid (show Below w.heap.size w w1 from Below.trans (show Below w.heap.size w _ from (Below.refl _ _).alloc (Nat.le_refl _) _) (hb1.mono (by simp)))
    clear hb1
    go_wp2_with fail
    refine (SD.out _).mono ?_
    rintro e w2 ⟨rfl, hb2⟩
    go_wp2
    go_ret
    exact ⟨ret_bool (by simp), FB.out.trans (hb2.mono FB.out.size)⟩
end Go.Proofs.YtffefhgemmjkoaaDoor
