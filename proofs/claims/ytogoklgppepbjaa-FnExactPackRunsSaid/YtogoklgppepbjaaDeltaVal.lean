/- The runs in which two strings differ, and that impl.DeltasOf and spec.DeltasOf answer them. -/
import Derived.Test.YtogoklgppepbjaaRecDelta
import Derived.Test.YtogoklgppepbjaaOwnR
namespace Go.Proofs.Ytogoklgppepbjaa
open Go.RowKit
set_option linter.unusedVariables false
set_option linter.unusedSimpArgs false
set_option maxRecDepth 20000
def byteAt (s : ByteArray) (k : Nat) : UInt8 := s[k]?.getD 0
theorem byteAt_eq (s : ByteArray) (k : Nat) (h : k < s.size) : byteAt s k = s[k] := by unfold byteAt; rw [getElem?_pos s k h]; rfl
def diffAt (a b : ByteArray) (k : Nat) : Bool := decide (k < a.size) && (byteAt a k != byteAt b k)
/-- The runs before place k, and where the next one can begin. -/
def dst (a b : ByteArray) : Nat → List DeltaV × Nat
  | 0 => ([], 0)
  | k + 1 => if diffAt a b k = true then dst a b k else (if (dst a b k).2 < k then (dst a b k).1 ++ [⟨((dst a b k).2 : Int), b.extract (dst a b k).2 k⟩] else (dst a b k).1, k + 1)
theorem dst_diff {a b : ByteArray} {k : Nat} (h : diffAt a b k = true) : dst a b (k + 1) = dst a b k := by rw [dst, if_pos h]
theorem dst_run {a b : ByteArray} {k : Nat} (h : diffAt a b k = false) (h2 : (dst a b k).2 < k) : dst a b (k + 1) = ((dst a b k).1 ++ [⟨((dst a b k).2 : Int), b.extract (dst a b k).2 k⟩], k + 1) := by rw [dst, if_neg (by rw [h]; simp), if_pos h2]
theorem dst_none {a b : ByteArray} {k : Nat} (h : diffAt a b k = false) (h2 : ¬ (dst a b k).2 < k) : dst a b (k + 1) = ((dst a b k).1, k + 1) := by rw [dst, if_neg (by rw [h]; simp), if_neg h2]
theorem dst_bd (a b : ByteArray) : ∀ k, (dst a b k).2 ≤ k ∧ (dst a b k).1.length ≤ k
  | 0 => ⟨Nat.le_refl _, Nat.le_refl _⟩
  | k + 1 => by
    obtain ⟨h1, h2⟩ := dst_bd a b k
    cases h : diffAt a b k with
    | true => rw [dst_diff h]; omega
    | false =>
      by_cases h3 : (dst a b k).2 < k
      · rw [dst_run h h3]; simp; omega
      · rw [dst_none h h3]; simp; omega
theorem diffAt_end {a b : ByteArray} {k : Nat} (h : ¬ k < a.size) : diffAt a b k = false := by unfold diffAt; simp [h]
theorem diffAt_in {a b : ByteArray} {k : Nat} (h : k < a.size) (hb : k < b.size) : diffAt a b k = decide ((a[k].toNat : Int) ≠ (b[k].toNat : Int)) := by
  unfold diffAt
  rw [byteAt_eq a k h, byteAt_eq b k hb]
  have e : (a[k] != b[k]) = decide ((a[k].toNat : Int) ≠ (b[k].toNat : Int)) := by
    by_cases q : a[k] = b[k]
    · rw [q]; simp
    · have : a[k].toNat ≠ b[k].toNat := fun e => q (UInt8.toNat_inj.1 e)
      have q2 : ¬ ((a[k].toNat : Int) = (b[k].toNat : Int)) := by omega
      rw [decide_eq_true q2]
      simpa using q
  rw [e, decide_eq_true h, Bool.true_and]
def deltaB (a b : ByteArray) : Bool := decide (a.size = b.size) && decide (a.size ≤ 4096)
def deltaV (a b : ByteArray) : List DeltaV := if deltaB a b = true then (dst a b (a.size + 1)).1 else []
theorem deltaV_len (a b : ByteArray) : (deltaV a b).length ≤ 1048576 := by
  unfold deltaV
  split
  · next h =>
    have := (dst_bd a b (a.size + 1)).2
    unfold deltaB at h
    simp at h
    omega
  · simp
/-- Two results: a slice of structs of the call's own, and a bool. -/
def RecResB {E : Type} (row : E → List Value) (T : TypeId) (es : List E) (b : Bool) (w : World) (e : Ending) (w' : World) : Prop :=
  ∃ a cap, e = .returned (.tuple #[.slice a es.length cap, .bool b]) ∧ SlSO row T w' w.heap.size a es ∧ Below w.heap.size w w'
end Go.Proofs.Ytogoklgppepbjaa
