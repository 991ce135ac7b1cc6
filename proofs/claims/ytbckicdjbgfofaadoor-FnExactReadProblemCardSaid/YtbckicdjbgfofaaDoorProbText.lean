/- impl.line -/
import Derived.Test.YtbckicdjbgfofaaDoorSpecDec
import Derived.Test.YtbckicdjbgfofaaDoorTimesText
import Derived.Test.YtbckicdjbgfofaaDoorSlices
import Derived.Test.YtbckicdjbgfofaaDoorSliceCells
import Derived.Test.YtbckicdjbgfofaaDoorRecChainProblem
import Derived.Test.YtbckicdjbgfofaaDoorBoxF
namespace Go.Proofs.YtbckicdjbgfofaaDoor
open Go.RowKit
set_option linter.unusedVariables false
set_option linter.unusedSimpArgs false
set_option maxRecDepth 20000
set_option maxHeartbeats 4000000 in
theorem line_any (s : ByteArray) (xs : List Int) (a : Option Addr) (c : Nat) (hs : s.size ≤ 1000) (hm : xs.length ≤ 1000) (hx : ∀ x ∈ xs, 0 ≤ x ∧ x < 100000) (w : World) (h : SlA w a xs) (ht : PowTab w) :
    Calls Tryd.prog 18 #[.string s, .slice a xs.length c] w fun e w' => e = .returned (.string (s ++ ⟨#[32]⟩ ++ ⟨(joinK xs xs.length).toArray⟩)) ∧ Below w.heap.size w w' := by
  have TT := Lib.hid (timesText_any xs a c (by omega) hx w h ht)
  have hl := joinK_len hx xs.length
  have hz : (⟨(joinK xs xs.length).toArray⟩ : ByteArray).size ≤ 6000 := by show (joinK xs xs.length).toArray.size ≤ _; simp; omega
  generalize (⟨(joinK xs xs.length).toArray⟩ : ByteArray) = t at TT hz ⊢
  have e1 : (s ++ (⟨#[32]⟩ : ByteArray)).size = s.size + 1 := by rw [ByteArray.size_append]; rfl
  clear h ht hx hl
  go_enter Tryd.func18, Tryd.ntmps18
  go_wp2_with (go_at_call 22; refine TT.out.mono ?_; rintro e w1 ⟨rfl, hb1⟩)
  go_ret
  exact ⟨rfl, hb1⟩
end Go.Proofs.YtbckicdjbgfofaaDoor
