/- The decoders' contracts with their two results. -/
import Derived.Test.YtffefhgemmjkoaaDecode
namespace Go.Proofs.Ytffefhgemmjkoaa
open Go.RowKit
set_option linter.unusedVariables false
def decT (s : ByteArray) : ByteArray := match decV s with | some l => ⟨l.toArray⟩ | none => ⟨#[]⟩
def decB (s : ByteArray) : Bool := (decV s).isSome
theorem decodeFm_any (s : ByteArray) (h : s.size ≤ 1048576) (w : World) :
    Calls Try.prog 18 #[.string s] w fun e w' => e = .returned (.tuple #[.string (decT s), .bool (decB s)]) ∧ Below w.heap.size w w' := decodeFm_v s h w
theorem specDecodeFm_any (s : ByteArray) (h : s.size ≤ 1048576) (w : World) :
    Calls Try.prog 29 #[.string s] w fun e w' => e = .returned (.tuple #[.string (decT s), .bool (decB s)]) ∧ Below w.heap.size w w' := specDecodeFm_v s h w
end Go.Proofs.Ytffefhgemmjkoaa
