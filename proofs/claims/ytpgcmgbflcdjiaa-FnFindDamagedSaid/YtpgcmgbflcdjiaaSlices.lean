/- Slices of int64: what is told of one; laws.szInt64S, laws.toInt64S, laws.eqInt64S. -/
import Derived.Test.YtpgcmgbflcdjiaaWithin
import Derived.Deep.OwnRows
import Derived.Deep.RegionHeld3
namespace Go.Proofs.Ytpgcmgbflcdjiaa
open Go.RowKit
set_option linter.unusedVariables false
/-- A slice '.slice a zs.length c' reads as the numbers zs in the world w. -/
def SlA (w : World) (a : Option Addr) (zs : List Int) : Prop := zs = [] ∨ ∃ b off, a = some ⟨b, off, none⟩ ∧ b < w.heap.size ∧ Ints w b off zs
/-- Block g is a row that holds just zs. -/
def RowAt (w : World) (g : Nat) (zs : List Int) : Prop := w.heap[g]? = some (.cells (zs.map (Value.int .i64)).toArray 2 (0, 0))
theorem RowAt.lt {w : World} {g : Nat} {zs : List Int} (h : RowAt w g zs) : g < w.heap.size := (Array.getElem?_eq_some_iff.1 h).1
theorem RowAt.new (W : World) (zs : List Int) (g : Nat) (h : W.heap.size = g) : RowAt (W.alloc (.cells (zs.map (Value.int .i64)).toArray 2)) g zs := by
  subst h; exact heap_alloc_new W _
theorem RowAt.ints {w : World} {g : Nat} {zs : List Int} (h : RowAt w g zs) : Ints w g 0 zs := by
  intro i x hx
  have h' : w.heap[g]? = some (.cells (zs.map (Value.int .i64)).toArray 2 (0, 0)) := h
  simp [World.cell?, h', hx]
theorem RowAt.drew {w : World} {g : Nat} {zs : List Int} (h : RowAt w g zs) : RowAt w.drew g zs := h
theorem RowAt.sl {w : World} {g : Nat} {zs : List Int} (h : RowAt w g zs) : SlA w (some ⟨g, 0, none⟩) zs := .inr ⟨g, 0, rfl, h.lt, h.ints⟩
theorem RowAt.below {w w' : World} {B g : Nat} {zs : List Int} (h : RowAt w g zs) (hb : Below B w w') (hg : g < B) : RowAt w' g zs := by
  unfold RowAt; rw [hb.block g hg]; exact h
theorem Ints.below {w w' : World} {B b off : Nat} {zs : List Int} (h : Ints w b off zs) (hb : Below B w w') (hB : b < B) : Ints w' b off zs := by
  intro i x hx
  rw [hb.cell (p := ⟨b, off + i, none⟩) hB]; exact h i x hx
theorem SlA.below {w w' : World} {B : Nat} {a : Option Addr} {zs : List Int} (h : SlA w a zs) (hb : Below B w w') (hB : w.heap.size ≤ B) : SlA w' a zs := by
  rcases h with rfl | ⟨b, off, rfl, hlt, hi⟩
  · exact .inl rfl
  · exact .inr ⟨b, off, rfl, Nat.lt_of_lt_of_le hlt hb.size, hi.below hb (by omega)⟩
theorem SlA.cell {w : World} {a : Option Addr} {zs : List Int} (h : SlA w a zs) {i : Nat} {x : Int} (hx : zs[i]? = some x) : ∃ b off, a = some ⟨b, off, none⟩ ∧ w.cell? ⟨b, off + i, none⟩ = some (.int .i64 x) := by
  rcases h with rfl | ⟨b, off, rfl, _, hi⟩
  · simp at hx
  · exact ⟨b, off, rfl, hi i x hx⟩
theorem getOf {zs : List Int} {k : Nat} (h : k < zs.length) : ∃ x, zs[k]? = some x := ⟨zs[k], by simp [h]⟩

theorem within_sl (lo hi : Int) (zs : List Int) (a : Option Addr) (c : Nat) (w : World) (hl : zs.length ≤ maxLen) (h : SlA w a zs) :
    Calls Try.prog 51 #[.int .i64 lo, .int .i64 hi, .slice a zs.length c] w fun e w' => e = .returned (.bool (zs.all (inB lo hi))) ∧ w = w' := by
  rcases h with rfl | ⟨b, off, rfl, hlt, hints⟩
  · have hz : ¬ (0 : Int) < 0 := by omega
    go_enter Try.func51, Try.ntmps51
    go_wp2
    go_rounds 1
    all_goals
      go_ret
      exact ⟨ret_bool rfl, rfl⟩
  · exact within_list lo hi zs b off c w hl hints
end Go.Proofs.Ytpgcmgbflcdjiaa
