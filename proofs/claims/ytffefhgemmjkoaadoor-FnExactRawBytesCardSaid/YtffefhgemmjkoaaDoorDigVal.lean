/- The values of digits: bits and hexadecimal digits. -/
import Derived.Test.YtffefhgemmjkoaaDoorConv
import Derived.Test.YtffefhgemmjkoaaDoorShelf
import Derived.Lib.Bytealg
import Derived.Lib.OthersKept
namespace Go.Proofs.YtffefhgemmjkoaaDoor
open Go.RowKit
set_option maxRecDepth 20000
set_option linter.unusedVariables false
/-- The value of a bit's digit, and of a hexadecimal digit; -1: it is none. -/
def dig1 (c : Nat) : Int := if c = 48 then 0 else if c = 49 then 1 else -1
def dig4 (c : Nat) : Int := if 48 ≤ c ∧ c ≤ 57 then c - 48 else if 97 ≤ c ∧ c ≤ 102 then c - 87 else -1
set_option maxRecDepth 10000 in
theorem dig1_index : ∀ c : Fin 128, Lib.indexByte [48, 49] c.val.toUInt8 = dig1 c.val := by decide +kernel
set_option maxRecDepth 10000 in
theorem dig4_index : ∀ c : Fin 128, Lib.indexByte [48, 49, 50, 51, 52, 53, 54, 55, 56, 57, 97, 98, 99, 100, 101, 102] c.val.toUInt8 = dig4 c.val := by decide +kernel
theorem dig1_bd (c : Nat) : -1 ≤ dig1 c ∧ dig1 c < 2 := by unfold dig1; split <;> (try split) <;> omega
theorem dig4_bd (c : Nat) : -1 ≤ dig4 c ∧ dig4 c < 16 := by unfold dig4; split <;> (try split) <;> omega
theorem dig1_high (c : Nat) (h : 128 ≤ c) : dig1 c = -1 := by unfold dig1; split <;> (try split) <;> omega
theorem dig4_high (c : Nat) (h : 128 ≤ c) : dig4 c = -1 := by unfold dig4; split <;> (try split) <;> omega
/-- What k digits come to, in a byte. -/
def accV (p : Int) (d : Nat → Int) : Nat → Int
  | 0 => 0
  | k + 1 => (accV p d k * p + d k) % 256
theorem accV_bd (p : Int) (d : Nat → Int) (k : Nat) : 0 ≤ accV p d k ∧ accV p d k < 256 := by
  cases k with
  | zero => simp [accV]
  | succ k => unfold accV; omega
/-- The bytes of the first k digits. -/
def accO (p : Int) (e : Nat) (d : Nat → Int) : Nat → List UInt8
  | 0 => []
  | k + 1 => if (k + 1) % e = 0 then accO p e d k ++ [(accV p d (k + 1)).toNat.toUInt8] else accO p e d k
theorem accO_length (p : Int) (e : Nat) (d : Nat → Int) (k : Nat) : (accO p e d k).length ≤ k := by
  induction k with
  | zero => simp [accO]
  | succ k ih =>
    unfold accO
    split
    · simp; omega
    · omega
/-- The digit at place k of a text. -/
def digAt (f : Nat → Int) (s : ByteArray) (k : Nat) : Int := f (s[k]?.getD 0).toNat
theorem digAt_eq (f : Nat → Int) (s : ByteArray) (k : Nat) (h : k < s.size) : digAt f s k = f s[k].toNat := by simp [digAt, h]
/-- All of the first k letters are digits. -/
def digOk (f : Nat → Int) (s : ByteArray) (k : Nat) : Bool := (List.range k).all fun j => decide (0 ≤ digAt f s j)
theorem digOk_succ (f : Nat → Int) (s : ByteArray) (k : Nat) : digOk f s (k + 1) = (digOk f s k && decide (0 ≤ digAt f s k)) := by simp [digOk, List.range_succ]
theorem digOk_no (f : Nat → Int) (s : ByteArray) (n k : Nat) (h : k < n) (hc : digAt f s k < 0) : digOk f s n = false := by
  unfold digOk
  rw [List.all_eq_false]
  exact ⟨k, by simp [h], by simp; omega⟩
/-- The text's bytes, if it is one. -/
def ofDig (p : Int) (e : Nat) (f : Nat → Int) (s : ByteArray) : Option (List UInt8) :=
  if s.size % e = 0 ∧ s.size ≤ 4096 * e then if digOk f s s.size = true then some (accO p e (digAt f s) s.size) else none else none
def ofDigText (r : Option (List UInt8)) : Value := .tuple #[.string (match r with | some l => ⟨l.toArray⟩ | none => ⟨#[]⟩), .bool r.isSome]
theorem OwnB.iterAt {w : World} {B : Nat} {v : Value} {l : List UInt8} (h : OwnB w B v l) {k : Nat} (hk : k < B) (s : ByteArray) (pos : Nat) : OwnB (w.iterAt k s pos) B v l := by
  refine ⟨h.1, ?_⟩
  rcases h.2 with h2 | ⟨g, cap, cur, rfl, hg, hh, r⟩
  · exact .inl h2
  · exact .inr ⟨g, cap, cur, rfl, hg, by rw [Lib.iterAt_other w k g s pos (by omega)]; exact hh, r⟩
end Go.Proofs.YtffefhgemmjkoaaDoor
