/- The contracts of ValidFound in the order that the law's walk asks. -/
import Derived.Test.YtccjjlfjbandfaaDoorFoundOk
namespace Go.Proofs.YtccjjlfjbandfaaDoor
open Go.RowKit
set_option linter.unusedVariables false
theorem validFound_g (e : FoundV) (hn : e.f4.size ≤ 1048576) (w : World) :
    Calls Tryd.prog 18 #[.agg #[.int .i64 e.f0, .int .i64 e.f1, .int .i64 e.f2, .int .i64 e.f3, .string e.f4, .int .i64 e.f5, .bool e.f6, .int .i64 e.f7]] w fun x w' => x = .returned (.bool (foundB e)) ∧ Below w.heap.size w w' := validFound_any e w (by unfold maxLen; omega)
end Go.Proofs.YtccjjlfjbandfaaDoor
