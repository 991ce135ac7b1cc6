/- The contracts of BestFound in the order that the law's walk asks. -/
import Derived.Test.YtlffbaelcjfibaaDoorBfSp
namespace Go.Proofs.YtlffbaelcjfibaaDoor
open Go.RowKit
set_option linter.unusedVariables false
theorem specBestFound_g (a : Option Addr) (cap : Nat) (es : List FoundV) (c h n : Int) (hm : es.length ≤ 1048576) (hs : ∀ e ∈ es, e.f4.size ≤ 1048576) (w : World) (hS : SlS rowFound w a es) :
    Calls Tryd.prog 5 #[.slice a es.length cap, .int .i64 c, .int .i64 h, .int .i64 n] w fun x w' => x = .returned (.tuple #[.int .i64 (bfV es c h n), .bool (bfB es c h n)]) ∧ Below w.heap.size w w' :=
  specBestFound_any a es cap c h n w hm (fun e he => by have := hs e he; unfold maxLen; omega) hS
theorem bestFound_g (a : Option Addr) (cap : Nat) (es : List FoundV) (c h n : Int) (hm : es.length ≤ 1048576) (hs : ∀ e ∈ es, e.f4.size ≤ 1048576) (w : World) (hS : SlS rowFound w a es) (hw : 0 < w.heap.size) (tab : WorthTab w) :
    Calls Tryd.prog 7 #[.slice a es.length cap, .int .i64 c, .int .i64 h, .int .i64 n] w fun x w' => x = .returned (.tuple #[.int .i64 (bfV es c h n), .bool (bfB es c h n)]) ∧ Below w.heap.size w w' :=
  bestFound_any a es cap c h n w hm (fun e he => by have := hs e he; unfold maxLen; omega) hS hw tab
end Go.Proofs.YtlffbaelcjfibaaDoor
