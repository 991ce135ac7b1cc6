/- VoteBytes' contracts, their results written out. -/
import Derived.Test.YtlaejcbcfcomaaaVotesG
namespace Go.Proofs.Ytlaejcbcfcomaaa
open Go.RowKit
set_option linter.unusedVariables false
def VbP (s : ByteArray) (l : List Int) (b : Bool) (w : World) (e : Ending) (w' : World) : Prop :=
  ∃ a cap, e = .returned (.tuple #[.string s, .slice a l.length cap, .bool b]) ∧ SlO w' w.heap.size a l ∧ Below w.heap.size w w'
theorem voteBytes_h (a : Option Addr) (c : Nat) (xs : List StringV) (hm : xs.length ≤ 1048576) (hs : ∀ e ∈ xs, e.f0.size ≤ 1048576) (w : World) (h : SlS rowString w a xs) :
    Calls Try.prog 29 #[.slice a xs.length c] w (VbP (voteV xs) (voteL xs) (voteOk xs) w) := voteBytes_g a c xs hm hs w h
theorem specVoteBytes_h (a : Option Addr) (c : Nat) (xs : List StringV) (hm : xs.length ≤ 1048576) (hs : ∀ e ∈ xs, e.f0.size ≤ 1048576) (w : World) (h : SlS rowString w a xs) :
    Calls Try.prog 28 #[.slice a xs.length c] w (VbP (voteV xs) (voteL xs) (voteOk xs) w) := specVoteBytes_g a c xs hm hs w h
end Go.Proofs.Ytlaejcbcfcomaaa
