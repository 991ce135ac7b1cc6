/- impl.GcrFaults for every string. -/
import Derived.Test.YtffefhgemmjkoaaDoorGroupsIn
namespace Go.Proofs.YtffefhgemmjkoaaDoor
open Go.RowKit
set_option maxRecDepth 20000
set_option linter.unusedVariables false
set_option maxHeartbeats 1000000 in
theorem gcrFaults_any (s : ByteArray) (h : s.size ≤ 1048576) (w : World) (hw : 0 < w.heap.size) (ht : GrpTab w) :
    Calls Tryd.prog 23 #[.string s] w (SlRes (gfV s) w) := by
  have hg := fun w => isGroupString_any s h w
  obtain ⟨ok, hok⟩ : ∃ ok, (cellStr s && decide (s.size % 5 = 0)) = ok := ⟨_, rfl⟩
  rw [hok] at hg
  have HG := Lib.hid hg; clear hg
  cases ok with
  | false =>
    rw [gfV_no hok]
    clear hok ht
    go_enter Tryd.func23, Tryd.ntmps23
    go_wp2_with fail
    refine (HG.out _).mono ?_
    rintro e w1 ⟨rfl, hb⟩
    go_wp2
    go_ret
    exact ⟨_, _, rfl, .inl rfl, hb⟩
  | true =>
    simp only [Bool.and_eq_true, decide_eq_true_eq] at hok
    obtain ⟨hc, h5⟩ := hok
    rw [gfV_yes hc h5]
    exact callsIn_wide.1 (gcrFaults_in s h hc h5 w hw ht)
end Go.Proofs.YtffefhgemmjkoaaDoor
