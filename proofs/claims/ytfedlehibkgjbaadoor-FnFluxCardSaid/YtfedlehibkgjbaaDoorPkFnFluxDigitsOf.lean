/- impl.digitsOf, by wip/tools/gen_digits.py -/
import Derived.Test.YtfedlehibkgjbaaDoorPkFnFluxBuilder
namespace Go.Proofs.YtfedlehibkgjbaaDoor
open Go.RowKit
set_option linter.unusedVariables false
set_option maxRecDepth 20000
def hexd (n : Nat) : UInt8 := (⟨#[48, 49, 50, 51, 52, 53, 54, 55, 56, 57, 97, 98, 99, 100, 101, 102]⟩ : ByteArray)[n]?.getD 0
theorem hexd_at {n : Nat} (h : n < 16) : (⟨#[48, 49, 50, 51, 52, 53, 54, 55, 56, 57, 97, 98, 99, 100, 101, 102]⟩ : ByteArray)[n]'h = hexd n := by
  have e : (⟨#[48, 49, 50, 51, 52, 53, 54, 55, 56, 57, 97, 98, 99, 100, 101, 102]⟩ : ByteArray)[n]? = some ((⟨#[48, 49, 50, 51, 52, 53, 54, 55, 56, 57, 97, 98, 99, 100, 101, 102]⟩ : ByteArray)[n]'h) := getElem?_pos _ _ _
  unfold hexd
  rw [e]
  rfl
theorem byte_back (c : UInt8) : ((c.toNat : Int)).toNat.toUInt8 = c := by simp
theorem byte_bd (c : UInt8) : (0 : Int) ≤ (c.toNat : Int) ∧ (c.toNat : Int) < 256 := by have := c.toNat_lt; omega
/-- The digits of one byte. -/
def digs4 (c : UInt8) : List UInt8 := [hexd (c.toNat / 16 % 16), hexd (c.toNat / 1 % 16)]
def digs1 (c : UInt8) : List UInt8 := [hexd (c.toNat / 128 % 2), hexd (c.toNat / 64 % 2), hexd (c.toNat / 32 % 2), hexd (c.toNat / 16 % 2), hexd (c.toNat / 8 % 2), hexd (c.toNat / 4 % 2), hexd (c.toNat / 2 % 2), hexd (c.toNat / 1 % 2)]
def digits4 (l : List UInt8) : List UInt8 := l.flatMap digs4
def digits1 (l : List UInt8) : List UInt8 := l.flatMap digs1
theorem digits4_snoc (l : List UInt8) (c : UInt8) : digits4 (l ++ [c]) = digits4 l ++ digs4 c := by simp [digits4]
theorem digits1_snoc (l : List UInt8) (c : UInt8) : digits1 (l ++ [c]) = digits1 l ++ digs1 c := by simp [digits1]
theorem digits4_length (l : List UInt8) : (digits4 l).length = 2 * l.length := by
  induction l with
  | nil => rfl
  | cons x l ih => simp only [digits4, List.flatMap_cons, List.length_append] at ih ⊢; rw [ih]; simp [digs4]; omega
theorem digits1_length (l : List UInt8) : (digits1 l).length = 8 * l.length := by
  induction l with
  | nil => rfl
  | cons x l ih => simp only [digits1, List.flatMap_cons, List.length_append] at ih ⊢; rw [ih]; simp [digs1]; omega
theorem take_snocB (s : ByteArray) (k : Nat) (h : k < s.size) : s.data.toList.take (k + 1) = s.data.toList.take k ++ [s[k]] := by
  rw [List.take_succ_eq_append_getElem (by simpa using h)]; rfl
theorem take_geB (s : ByteArray) (k : Nat) (h : s.size ≤ k) : s.data.toList.take k = s.data.toList := by
  refine List.take_of_length_le ?_
  have : s.data.toList.length = s.size := by simp
  omega
theorem and_1 (x : Int) (h0 : 0 ≤ x) (h1 : x < 256) : bits .and .u8 x 1 = x % 2 := bits_mask .u8 8 (by decide) wraps_u8 1 (by decide) x h0 h1
theorem Bld.fresh (w : World) : Bld w.heap.size w.heap.size [] (w.alloc (.cells #[.pointer none, .slice none 0 0] 78)) := Lib.fresh_isBuilder 78 5 w

end Go.Proofs.YtfedlehibkgjbaaDoor
