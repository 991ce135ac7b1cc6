/- (impl.numberSet).has -/
import Derived.Test.YtjnabncfkogigaaPkReplaceBlockOrdCol
import Derived.Maps.OwnSet
namespace Go.Proofs.Ytjnabncfkogigaa
open Go.RowKit Go.Maps
set_option linter.unusedVariables false
set_option linter.unusedSimpArgs false
set_option maxRecDepth 20000
theorem zeroUnit (w : World) : (zeroValue 129).run Try.prog w = .ok (.agg #[]) w := by kernel_rfl
set_option maxHeartbeats 4000000 in
theorem has_any (b : Nat) (zs : List Int) (n : Nat) (z : Int) (hz : (Lit.int .i64 z).wf = true) (w : World) (hown : w.ownsMap Try.prog 2 (unitElem (H := Unit)) b n (setI Unit zs)) :
    Calls Try.prog 131 #[.map (some b), .int .i64 z] w fun e w' => e = .returned (.bool (decide (z ∈ zs))) ∧ Below w.heap.size w w' := by
  have hkey : keyOf Try.prog 2 (.int .i64 z) = some (litI z) := keyOf_int_mk Try.underlying2 hz
  have hhas : Maps.has (setI Unit zs) (litI z) = decide (z ∈ zs) := has_setI (H := Unit) zs z
  go_enter Try.func131, Try.ntmps131
  go_wp2_with (first
    | (at_lookup; refine wpList_lookup_own_unit _ rfl _ _ 74 rfl 2 129 keyedI Try.underlying74 (zeroUnit _) b n _ rfl hown _ _ rfl hkey ?_)
    | go_in)
  go_ret
  exact ⟨rfl, (Below.refl _ _).alloc (Nat.le_refl _) _⟩
end Go.Proofs.Ytjnabncfkogigaa
