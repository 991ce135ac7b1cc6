/- The decoders' contracts with their two results. -/
import Derived.Test.YtffefhgemmjkoaaDoorDecode
namespace Go.Proofs.YtffefhgemmjkoaaDoor
open Go.RowKit
set_option maxRecDepth 20000
set_option linter.unusedVariables false
def decT (s : ByteArray) : ByteArray := match decV s with | some l => ⟨l.toArray⟩ | none => ⟨#[]⟩
def decB (s : ByteArray) : Bool := (decV s).isSome
end Go.Proofs.YtffefhgemmjkoaaDoor
