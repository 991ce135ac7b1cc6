/- impl.IsName -/
import Derived.Test.YtbckicdjbgfofaaDoorWithin
import Derived.Laws.RangeAny
import Derived.Laws.RangeString
namespace Go.Proofs.YtbckicdjbgfofaaDoor
open Go.RowKit
set_option linter.unusedVariables false
/-- May the byte c stand at place i of a name? -/
def okAt (i c : Nat) : Bool := (decide (65 ≤ c) && decide (c ≤ 90)) || (decide (0 < i) && (decide (c = 95) || (decide (48 ≤ c) && decide (c ≤ 57))))
def okTo (s : ByteArray) (k : Nat) : Bool := (List.range k).all fun j => okAt j (s[j]?.getD 0).toNat
def nameB (s : ByteArray) : Bool := okTo s s.size && inB 1 8 s.size
theorem okTo_succ (s : ByteArray) (k : Nat) (h : k < s.size) : okTo s (k + 1) = (okTo s k && okAt k s[k].toNat) := by
  have e : s[k]?.getD 0 = s[k] := by simp [h]
  simp [okTo, List.range_succ, e]
theorem okTo_no (s : ByteArray) (k : Nat) (h : k < s.size) (hc : okAt k s[k].toNat = false) : okTo s s.size = false := by
  have e : s[k]?.getD 0 = s[k] := by simp [h]
  unfold okTo
  rw [List.all_eq_false]
  exact ⟨k, by simp [h], by simp [h, hc]⟩
theorem okAt_high (i c : Nat) (h : 128 ≤ c) : okAt i c = false := by unfold okAt; simp; omega
end Go.Proofs.YtbckicdjbgfofaaDoor
