/- Numbers in decimal: the table of powers of ten, impl.decimal, spec.l09Dec. -/
import Derived.Test.YtbckicdjbgfofaaDoorRowB
import Derived.Test.YtbckicdjbgfofaaDoorShelf
import Derived.Deep.RegionWith
import Derived.IntWalk
namespace Go.Proofs.YtbckicdjbgfofaaDoor
open Go.RowKit
set_option linter.unusedVariables false
set_option linter.unusedSimpArgs false
set_option maxRecDepth 20000
/-- A package variable holds these cells. -/
def TabAt (g : Nat) (vs : List Value) (w : World) : Prop := ∃ T fr, w.heap[g]? = some (.cells vs.toArray T fr)
theorem TabAt.lt {g : Nat} {vs : List Value} {w : World} (h : TabAt g vs w) : g < w.heap.size := by
  obtain ⟨T, fr, h⟩ := h
  exact (Array.getElem?_eq_some_iff.1 h).1
theorem TabAt.below {g : Nat} {vs : List Value} {w w' : World} {B : Nat} (h : TabAt g vs w) (hb : Below B w w') (hg : g < B) : TabAt g vs w' := by
  obtain ⟨T, fr, h⟩ := h
  exact ⟨T, fr, by rw [hb.block g hg]; exact h⟩
theorem TabAt.cell {g : Nat} {vs : List Value} {w : World} (h : TabAt g vs w) (i : Nat) (hi : i < vs.length) : w.cell? ⟨g, i, none⟩ = some vs[i] := by
  obtain ⟨T, fr, h⟩ := h
  simp [World.cell?, h, hi]
def pow10L : List Nat := [1, 10, 100, 1000, 10000, 100000, 1000000, 10000000, 100000000, 1000000000, 10000000000, 100000000000, 1000000000000, 10000000000000, 100000000000000, 1000000000000000, 10000000000000000, 100000000000000000, 1000000000000000000, 10000000000000000000]
def PowTab (w : World) : Prop := TabAt 2 (pow10L.map fun (s : Nat) => Value.int .u64 (s : Int)) w
theorem gPow : Tryd.prog.globalNamed "internal/strconv.uint64pow10" = some 2 := by kernel_rfl
theorem PowTab.is {w : World} (h : PowTab w) : Lib.TabIs Tryd.prog w "internal/strconv.uint64pow10" .u64 Lib.pow10Tab := by
  obtain ⟨T, fr, h⟩ := h
  unfold Lib.TabIs
  simp only [World.var?, gPow, Option.bind_some, h]
  congr 1
theorem PowTab.below {w w' : World} (h : PowTab w) (hb : Below w.heap.size w w') : PowTab w' := TabAt.below h hb (TabAt.lt h)
/-- A number's text in decimal. -/
def decT (n : Int) : ByteArray := ⟨(Lib.itoa n).toArray⟩
theorem decDigits_len : ∀ (k n : Nat), n < 10 ^ k → 0 < k → (Lib.decDigits n).length ≤ k := by
  intro k
  induction k with
  | zero => intro n h h0; omega
  | succ k ih =>
    intro n h _
    unfold Lib.decDigits
    split
    · simp
    · by_cases hk : k = 0
      · subst hk; omega
      · have := ih (n / 10) (by rw [Nat.pow_succ] at h; omega) (by omega)
        simp; omega
theorem decT_size {n : Int} (h0 : 0 ≤ n) (h1 : n < 100000) : (decT n).size ≤ 5 := by
  show (Lib.itoa n).toArray.size ≤ 5
  unfold Lib.itoa
  rw [if_neg (by omega)]
  have := decDigits_len 5 n.toNat (by omega) (by omega)
  simpa using this
theorem below_growD (w : World) (k : Nat) (os : Array Obj) : Below w.heap.size w («Sort».grow (w.drewN k) os) :=
  ⟨rfl, rfl, rfl, by show w.heap.size ≤ (w.heap ++ os).size; rw [Array.size_append]; omega, fun j hj => by show (w.heap ++ os)[j]? = w.heap[j]?; rw [Array.getElem?_append_left hj]⟩
theorem decDigits_small {n : Nat} (h : n < 10) : Lib.decDigits n = [UInt8.ofNat (48 + n)] := by unfold Lib.decDigits; rw [dif_pos h]
theorem decDigits_step {n : Nat} (h : ¬ n < 10) : Lib.decDigits n = Lib.decDigits (n / 10) ++ [UInt8.ofNat (48 + n % 10)] := by
  conv => lhs; unfold Lib.decDigits
  rw [dif_neg h]
theorem conv_cell1 (W : World) (g : Nat) (x : Int) (h1 : 0 ≤ x) (h2 : x < 256) (hc : W.cell? ⟨g, 0, none⟩ = some (.int .u8 x)) :
    (convert 44 9 (.slice (some ⟨g, 0, none⟩) 1 1)).run Tryd.prog W = .ok (.string ⟨#[x.toNat.toUInt8]⟩) W := by
  refine conv_of _ _ 1 [x.toNat.toUInt8] ?_
  intro j hj
  have e := add0 g j
  have hx : x.toNat % 256 = x.toNat := Nat.mod_eq_of_lt (by omega)
  match j, hj with
  | 0, _ => rw [e, hc]; simp [hx]; omega
  | j + 1, hj => simp at hj
end Go.Proofs.YtbckicdjbgfofaaDoor
