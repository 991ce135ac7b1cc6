/- The bytes of marks: the tables; impl.isFormat, impl.isKind, impl.MarkByte, spec.l07Format, spec.l07Byte, spec.MarkByte -/
import Derived.Test.YtidedgcmpkahgaaSliceCells
namespace Go.Proofs.Ytidedgcmpkahgaa
open Go.RowKit
set_option linter.unusedVariables false
def clkL : List Nat := [0, 254, 251, 248]
def gpbL : List Nat := [0, 8, 7, 6]
def clkRow : Array Value := (clkL.map fun (x : Nat) => Value.int .i64 (x : Int)).toArray
def gpbRow : Array Value := (gpbL.map fun (x : Nat) => Value.int .i64 (x : Int)).toArray
theorem clkRow_at : ∀ k, k < 4 → clkRow[k]? = some (.int .i64 ((clkL[k]?.getD 0 : Nat) : Int)) := by
  intro k hk
  match k, hk with
  | 0, _ => rfl
  | 1, _ => rfl
  | 2, _ => rfl
  | 3, _ => rfl
theorem gpbRow_at : ∀ k, k < 4 → gpbRow[k]? = some (.int .i64 ((gpbL[k]?.getD 0 : Nat) : Int)) := by
  intro k hk
  match k, hk with
  | 0, _ => rfl
  | 1, _ => rfl
  | 2, _ => rfl
  | 3, _ => rfl
def markOk (f k : Int) : Bool := inB 1 3 f && inB 1 3 k
def mkByteN (f k : Int) : Nat := if f = 3 then gpbL[k.toNat]?.getD 0 else clkL[k.toNat]?.getD 0
def markB (f k : Int) : Int := if markOk f k = true then (mkByteN f k : Int) else 0
set_option maxHeartbeats 400000 in
theorem isFormat_any (f : Int) (w : World) :
    Calls Try.prog 68 #[.int .i64 f] w fun e w' => e = .returned (.bool (inB 1 3 f)) ∧ Below w.heap.size w w' := by
  go_enter Try.func68, Try.ntmps68
  go_wp2_with (go_at_call 41; refine (within_b _ _ _ _ _ _ (by simp)).mono ?_; rintro e w' ⟨rfl, hb⟩)
  go_ret
  exact ⟨rfl, hb⟩
set_option maxHeartbeats 400000 in
theorem isKind_any (f : Int) (w : World) :
    Calls Try.prog 73 #[.int .i64 f] w fun e w' => e = .returned (.bool (inB 1 3 f)) ∧ Below w.heap.size w w' := by
  go_enter Try.func73, Try.ntmps73
  go_wp2_with (go_at_call 41; refine (within_b _ _ _ _ _ _ (by simp)).mono ?_; rintro e w' ⟨rfl, hb⟩)
  go_ret
  exact ⟨rfl, hb⟩
set_option maxHeartbeats 400000 in
theorem l07Format_any (f : Int) (w : World) :
    Calls Try.prog 54 #[.int .i64 f] w fun e w' => e = .returned (.bool (inB 1 3 f)) ∧ w = w' := by
  go_enter Try.func54, Try.ntmps54
  go_wp2_with (go_at_call 35; refine (l00In_any _ _ _ _).mono ?_; rintro e w' ⟨rfl, rfl⟩)
  go_ret
  exact ⟨rfl, rfl⟩
end Go.Proofs.Ytidedgcmpkahgaa
