/- spec.l05Bit; the bits of bytes, and their cells. -/
import Derived.Test.YtffefhgemmjkoaaDoorBase
namespace Go.Proofs.YtffefhgemmjkoaaDoor
open Go.RowKit
set_option maxRecDepth 20000
set_option linter.unusedVariables false
def wantB (mfm last data : Bool) : Bool := !mfm || (!last && !data)
theorem l05Bit_any (b : Bool) (w : World) : Calls Tryd.prog 132 #[.bool b] w fun e w' => e = .returned (.int .u8 (if b then 49 else 48)) ∧ w = w' := by
  cases b
  all_goals
    go_enter Tryd.func132, Tryd.ntmps132
    go_wp2
    go_ret
    exact ⟨rfl, rfl⟩
def cellB (b : Bool) : UInt8 := if b then 49 else 48
/-- Bit m of a string. -/
def bitB (s : ByteArray) (m : Nat) : Bool := decide ((s[m / 8]?.getD 0).toNat / 2 ^ (7 - m % 8) % 2 = 1)
def lastS (s : ByteArray) (last : Bool) : Nat → Bool
  | 0 => last
  | m + 1 => bitB s m
/-- The cells of the first m bits. -/
def encS (s : ByteArray) (last mfm : Bool) : Nat → List UInt8
  | 0 => []
  | m + 1 => encS s last mfm m ++ [cellB (wantB mfm (lastS s last m) (bitB s m)), cellB (bitB s m)]
theorem encS_len (s : ByteArray) (last mfm : Bool) (m : Nat) : (encS s last mfm m).length = 2 * m := by
  induction m with
  | zero => rfl
  | succ m ih => unfold encS; rw [List.length_append, ih]; simp; omega
def encBits (mfm : Bool) : Bool → List Bool → List UInt8
  | _, [] => []
  | last, b :: r => cellB (wantB mfm last b) :: cellB b :: encBits mfm b r
def bitsL (c : Nat) : List Bool := [7, 6, 5, 4, 3, 2, 1, 0].map fun k => decide (c / 2 ^ k % 2 = 1)
theorem bitB_at (s : ByteArray) (i t : Nat) (hi : i < s.size) (ht : t < 8) : bitB s (8 * i + t) = decide (s[i].toNat / 2 ^ (7 - t) % 2 = 1) := by
  have e1 : (8 * i + t) / 8 = i := by omega
  have e2 : (8 * i + t) % 8 = t := by omega
  unfold bitB
  rw [e1, e2, getElem?_pos s i hi]; rfl
theorem encS_byte (s : ByteArray) (last mfm : Bool) (i : Nat) (hi : i < s.size) :
    encS s last mfm (8 * (i + 1)) = encS s last mfm (8 * i) ++ encBits mfm (lastS s last (8 * i)) (bitsL s[i].toNat) ∧ lastS s last (8 * (i + 1)) = decide (s[i].toNat % 2 = 1) := by
  have h := fun t ht => bitB_at s i t hi ht
  have h0 : bitB s (8 * i + 0) = _ := h 0 (by omega)
  have h1 := h 1 (by omega); have h2 := h 2 (by omega); have h3 := h 3 (by omega); have h4 := h 4 (by omega); have h5 := h 5 (by omega); have h6 := h 6 (by omega); have h7 := h 7 (by omega)
  have e : 8 * (i + 1) = 8 * i + 7 + 1 := by omega
  constructor
  · rw [e]
    show (((((((encS s last mfm (8 * i) ++ [_, _]) ++ [_, _]) ++ [_, _]) ++ [_, _]) ++ [_, _]) ++ [_, _]) ++ [_, _]) ++ [_, _] = _
    simp only [lastS, List.append_assoc, List.cons_append, List.nil_append]
    congr 1
    show cellB (wantB mfm (lastS s last (8 * i)) (bitB s (8 * i + 0))) :: cellB (bitB s (8 * i + 0)) :: cellB (wantB mfm (bitB s (8 * i + 0)) (bitB s (8 * i + 1))) :: _ = _
    rw [h0, h1, h2, h3, h4, h5, h6, h7]
    rfl
  · rw [e]
    show bitB s (8 * i + 7) = _
    rw [h7]
    simp
end Go.Proofs.YtffefhgemmjkoaaDoor
