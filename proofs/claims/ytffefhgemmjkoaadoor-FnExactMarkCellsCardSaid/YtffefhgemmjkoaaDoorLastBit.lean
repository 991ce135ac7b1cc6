/- impl.LastBit, spec.LastBit, impl.MfmMark, spec.MfmMark -/
import Derived.Test.YtffefhgemmjkoaaDoorCellStr
import Derived.Test.YtffefhgemmjkoaaDoorConv
namespace Go.Proofs.YtffefhgemmjkoaaDoor
open Go.RowKit
set_option maxRecDepth 20000
set_option linter.unusedVariables false
/-- The last data bit. -/
def lastB (s : ByteArray) : Bool := if h : 0 < s.size then decide (s[s.size - 1].toNat % 2 = 1) else false
theorem bit0 (c : Nat) (h : c < 256) : (bits .and .u8 (c : Int) 1 == 1) = decide (c % 2 = 1) := by
  rw [show bits .and .u8 (c : Int) 1 = (c : Int) % 2 from bits_mask .u8 8 (by decide) wraps_u8 1 (by decide) (c : Int) (by omega) (by omega)]
  by_cases h : c % 2 = 1
  · simp [h]; omega
  · simp [h]; omega
set_option maxHeartbeats 400000 in
theorem lastBit_any (s : ByteArray) (h : s.size ≤ 1048576) (w : World) :
    Calls Tryd.prog 131 #[.string s] w fun e w' => e = .returned (.bool (lastB s)) ∧ Below w.heap.size w w' := by
  by_cases h0 : s.size = 0
  · obtain rfl := bytes_empty h0
    clear h0 h
    go_enter Tryd.func131, Tryd.ntmps131
    go_wp2
    go_ret
    exact ⟨rfl, Below.refl _ _⟩
  · have hv : lastB s = decide (s[s.size - 1].toNat % 2 = 1) := by unfold lastB; rw [dif_pos (by omega)]
    rw [hv, ← bit0 _ (s[s.size - 1].toNat_lt)]
    obtain ⟨h1, h2⟩ := bytes_ne h0
    have h3 : 0 < s.size := by omega
    have e1 : ((s.size : Int) - 1).toNat = s.size - 1 := by omega
    have e2 : (s.size : Int) - 1 < s.size := by omega
    have e3 : (0 : Int) ≤ (s.size : Int) - 1 := by omega
    clear hv
    go_enter Tryd.func131, Tryd.ntmps131
    go_wp2
    go_ret
    exact ⟨rfl, Below.refl _ _⟩
/-- The cells of the mark byte A1. -/
def mfmMarkS : ByteArray := ⟨#[48, 49, 48, 48, 48, 49, 48, 48, 49, 48, 48, 48, 49, 48, 48, 49]⟩
theorem mfmMark_any (w : World) :
    Calls Tryd.prog 36 #[] w fun e w' => e = .returned (.string mfmMarkS) ∧ Below w.heap.size w w' := by
  go_enter Tryd.func36, Tryd.ntmps36
  go_wp2
  go_ret
  exact ⟨rfl, Below.refl _ _⟩
theorem specMfmMark_any (w : World) :
    Calls Tryd.prog 71 #[] w fun e w' => e = .returned (.string mfmMarkS) ∧ Below w.heap.size w w' := by
  go_enter Tryd.func71, Tryd.ntmps71
  go_wp2
  go_ret
  exact ⟨rfl, Below.refl _ _⟩
end Go.Proofs.YtffefhgemmjkoaaDoor
