/- impl.shiftCode, impl.BestShift; spec.BestShift -/
import Derived.Test.YtlaejcbcfcomaaaBestShift
import Derived.Test.YtlaejcbcfcomaaaRevOk
namespace Go.Proofs.Ytlaejcbcfcomaaa
open Go.RowKit
set_option linter.unusedVariables false
set_option maxRecDepth 20000
def shCode (es : List StringV) (n : Int) : Int := if revOk es = true then (if inB 0 40 n = true then 0 else 2) else 1
def bshV (b c : ByteArray) (n : Int) : Int × Nat := if shCode [⟨b⟩, ⟨c⟩] n = 0 then bsRun b c n.toNat else (0, 0)
set_option maxHeartbeats 1000000 in
theorem shiftCode_any (a : Option Addr) (es : List StringV) (c : Nat) (n : Int) (w : World) (hm : es.length ≤ 1048576) (hs : ∀ e ∈ es, e.f0.size ≤ maxLen) (h : SlS rowString w a es) :
    Calls Try.prog 68 #[.slice a es.length c, .int .i64 n] w fun x w' => x = .returned (.int .i64 (shCode es n)) ∧ Below w.heap.size w w' := by
  have VR := Lib.hid (validRev_any a es c w hm hs h)
  have WI := Lib.hid (fun w T b hb => within_r 0 40 n w T b hb)
  unfold shCode
  obtain ⟨x, hx⟩ : ∃ x, revOk es = x := ⟨_, rfl⟩
  obtain ⟨y, hy⟩ : ∃ y, inB 0 40 n = y := ⟨_, rfl⟩
  rw [hx] at VR ⊢
  rw [hy] at WI ⊢
  clear hx hy
  cases x
  · go_enter Try.func68, Try.ntmps68
    go_wp2_with fail
    refine VR.out.mono ?_
    rintro e w1 ⟨rfl, hb1⟩
    go_wp2
    go_ret
    exact ⟨rfl, hb1⟩
  · cases y
    all_goals
      go_enter Try.func68, Try.ntmps68
      go_wp2_with fail
      refine VR.out.mono ?_
      rintro e w1 ⟨rfl, hb1⟩
      go_wp2_with fail
      refine (WI.out _ _ _ (by simp)).mono ?_
      rintro e w2 ⟨rfl, hb2⟩
      go_wp2
      go_ret
      exact ⟨rfl, hb1.trans (hb2.mono hb1.size)⟩
theorem revOk_two {b c : ByteArray} (h : revOk [⟨b⟩, ⟨c⟩] = true) : validCells b = true ∧ validCells c = true ∧ c.size = b.size := by
  unfold revOk allCells allLen len0 at h
  simp only [Bool.and_eq_true, List.all_cons, List.all_nil, Bool.and_true, List.getElem?_cons_zero, Option.map_some, Option.getD_some, decide_eq_true_eq] at h
  exact ⟨h.2.1.1, h.2.1.2, h.2.2.2⟩
theorem slTwo (w : World) (b c : ByteArray) (T : TypeId) (g : Nat) (hg : w.heap.size = g) : SlS rowString (w.alloc (.cells #[.string b, .string c] T)) (some ⟨g, 0, none⟩) [⟨b⟩, ⟨c⟩] := by
  subst hg
  refine .inr ⟨_, 0, rfl, by simp, fun i v hv => ?_⟩
  match i, hv with
  | 0, hv => simp [rowString] at hv; subst hv; simp [go_sem]
  | 1, hv => simp [rowString] at hv; subst hv; simp [go_sem]
  | i + 2, hv => simp [rowString] at hv
theorem bsh_sizes {b c : ByteArray} (hb : b.size ≤ maxLen) (hc : c.size ≤ maxLen) : ∀ e ∈ ([⟨b⟩, ⟨c⟩] : List StringV), e.f0.size ≤ maxLen := by
  intro e he
  simp at he
  rcases he with rfl | rfl
  · exact hb
  · exact hc
end Go.Proofs.Ytlaejcbcfcomaaa
