/- impl.PackRuns, whole. -/
import Derived.Test.YtogoklgppepbjaaPackIm
import Derived.Test.YtogoklgppepbjaaPutPl
namespace Go.Proofs.Ytogoklgppepbjaa
open Go.RowKit
set_option linter.unusedVariables false
theorem putPlain_is : PutPlain := fun s i e B b l w h1 h2 h3 h4 h5 h6 => putPlain_any s i e B b l w h1 h2 h3 h4 h5 h6
theorem packRuns_any (s : ByteArray) (hs0 : s.size ≤ 1048576) (w : World) :
    Calls Try.prog 12 #[.string s] w fun e w' => e = .returned (.tuple #[.string (pkS s), .bool (decide (s.size ≤ 4096))]) ∧ Below w.heap.size w w' := packRuns_of putPlain_is s hs0 w
end Go.Proofs.Ytogoklgppepbjaa
