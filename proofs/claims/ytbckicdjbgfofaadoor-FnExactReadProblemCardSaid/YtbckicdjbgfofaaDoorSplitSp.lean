/- spec.l01Split: a text divided at a byte. -/
import Derived.Test.YtbckicdjbgfofaaDoorRecString
import Derived.Test.YtbckicdjbgfofaaDoorOwnR
namespace Go.Proofs.YtbckicdjbgfofaaDoor
open Go.RowKit
set_option linter.unusedVariables false
set_option linter.unusedSimpArgs false
set_option maxRecDepth 20000
/-- The words before position k, and where the word at k begins. -/
def spl (s : ByteArray) (b : Nat) : Nat → List StringV × Nat
  | 0 => ([], 0)
  | k + 1 => if (s.data.toList[k]?.map UInt8.toNat) = some b then ((spl s b k).1 ++ [⟨s.extract (spl s b k).2 k⟩], k + 1) else spl s b k
theorem spl_hit {s : ByteArray} {b k : Nat} (h : k < s.size) (e : s[k].toNat = b) : spl s b (k + 1) = ((spl s b k).1 ++ [⟨s.extract (spl s b k).2 k⟩], k + 1) := by
  have hl : k < s.data.toList.length := by simpa using h
  have h2 : s.data.toList[k]? = some s[k] := by rw [List.getElem?_eq_getElem hl]; rfl
  rw [spl, h2, if_pos (by simp [e])]
theorem spl_miss {s : ByteArray} {b k : Nat} (h : k < s.size) (e : ¬ s[k].toNat = b) : spl s b (k + 1) = spl s b k := by
  have hl : k < s.data.toList.length := by simpa using h
  have h2 : s.data.toList[k]? = some s[k] := by rw [List.getElem?_eq_getElem hl]; rfl
  rw [spl, h2, if_neg (by simpa using e)]
theorem spl_bd (s : ByteArray) (b k : Nat) : (spl s b k).2 ≤ k ∧ (spl s b k).1.length ≤ k := by
  induction k with
  | zero => exact ⟨Nat.le_refl _, Nat.le_refl _⟩
  | succ k ih =>
    rw [spl]
    split
    · simp; omega
    · omega
def splV (s : ByteArray) (b : Nat) : List StringV := (spl s b s.size).1 ++ [⟨s.extract (spl s b s.size).2 s.size⟩]
/-- What l01Split returns. -/
def SplRes (B : Nat) (es : List StringV) (w : World) (e : Ending) (w' : World) : Prop := (∃ v, e = .returned v ∧ OwnR rowString 9 1 w' B v es) ∧ Below B w w'
end Go.Proofs.YtbckicdjbgfofaaDoor
