/- Two steps of a frame, for walks that carry their boxes by Below alone. -/
import Derived.Test.YtpgcmgbflcdjiaaBoxes
import Derived.Test.YtpgcmgbflcdjiaaBoxF
namespace Go.Proofs.Ytpgcmgbflcdjiaa
open Go.RowKit
set_option linter.unusedVariables false
theorem below_step {n₀ : Nat} {w W W' : World} (h : Below n₀ w W) (hn : n₀ ≤ W.heap.size) (hb : Below W.heap.size W W') : Below n₀ w W' := h.trans (hb.mono hn)
theorem below_new {n₀ : Nat} {w W : World} (h : Below n₀ w W) (hn : n₀ ≤ W.heap.size) (o : Obj) : Below n₀ w (W.alloc o) := h.alloc hn o
end Go.Proofs.Ytpgcmgbflcdjiaa
