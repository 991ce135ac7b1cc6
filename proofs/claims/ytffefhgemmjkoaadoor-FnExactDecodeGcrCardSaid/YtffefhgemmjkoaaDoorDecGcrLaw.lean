/- DecodeGcr's two contracts in the law's words. -/
import Derived.Test.YtffefhgemmjkoaaDoorDecGcrIm
namespace Go.Proofs.YtffefhgemmjkoaaDoor
open Go.RowKit
set_option maxRecDepth 20000
set_option linter.unusedVariables false
def dgT (s : ByteArray) : ByteArray := match dgV s with | some l => ⟨l.toArray⟩ | none => ⟨#[]⟩
def dgB (s : ByteArray) : Bool := (dgV s).isSome
theorem dg_text (s : ByteArray) : ofDigText (dgV s) = .tuple #[.string (dgT s), .bool (dgB s)] := rfl
theorem decodeGcr_any (s : ByteArray) (h : s.size ≤ 1048576) (w : World) (hw : 0 < w.heap.size) (ht : GrpTab w) :
    Calls Tryd.prog 19 #[.string s] w fun e w' => e = .returned (.tuple #[.string (dgT s), .bool (dgB s)]) ∧ Below w.heap.size w w' := decodeGcr_v s h w hw ht
theorem specDecodeGcr_any (s : ByteArray) (h : s.size ≤ 1048576) (w : World) :
    Calls Tryd.prog 18 #[.string s] w fun e w' => e = .returned (.tuple #[.string (dgT s), .bool (dgB s)]) ∧ Below w.heap.size w w' := specDecodeGcr_v s h w
end Go.Proofs.YtffefhgemmjkoaaDoor
