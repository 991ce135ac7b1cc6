/- laws.markFlux, laws.heldFlux; what a mark leaves alone. -/
import Derived.Test.YtpgcmgbflcdjiaaOwnI
import Derived.Test.YtpgcmgbflcdjiaaSpecOk
namespace Go.Proofs.Ytpgcmgbflcdjiaa
open Go.RowKit
set_option linter.unusedVariables false
/-- Of the blocks that were there, only the one that the slice's address leads to may differ. -/
structure Keep (a : Option Addr) (w w' : World) : Prop where
  os : w'.os = w.os
  tape : w'.tape = w.tape
  output : w'.output = w.output
  size : w.heap.size ≤ w'.heap.size
  block : ∀ b, b < w.heap.size → a.map (·.block) ≠ some b → w'.heap[b]? = w.heap[b]?
theorem Keep.of_below {a : Option Addr} {w w' : World} (h : Below w.heap.size w w') : Keep a w w' := ⟨h.os, h.tape, h.output, h.size, fun b hb _ => h.block b hb⟩
theorem Keep.trans {a : Option Addr} {w w1 w2 : World} (h : Keep a w w1) (k : Keep a w1 w2) : Keep a w w2 :=
  ⟨k.os.trans h.os, k.tape.trans h.tape, k.output.trans h.output, Nat.le_trans h.size k.size, fun b hb hn => (k.block b (Nat.lt_of_lt_of_le hb h.size) hn).trans (h.block b hb hn)⟩
theorem Keep.cell {a : Option Addr} {w w' : World} (h : Keep a w w') {b o : Nat} (hb : b < w.heap.size) (hn : a.map (·.block) ≠ some b) : w'.cell? ⟨b, o, none⟩ = w.cell? ⟨b, o, none⟩ := World.cell?_of_block (h.block b hb hn)
theorem FluxAt.keep {x : Option Addr} {w w' : World} {p : Nat} {c f : Int} {a : Option Addr} {n d : Nat} (h : FluxAt w p c f a n d) (hk : Keep x w w') (hn : x.map (·.block) ≠ some p) : FluxAt w' p c f a n d := by
  have hl := h.lt
  exact ⟨by rw [hk.cell hl hn]; exact h.1, by rw [hk.cell hl hn]; exact h.2.1, by rw [hk.cell hl hn]; exact h.2.2⟩
/-- An owned row whose block lies in [B, C). -/
def SlI (w : World) (B C : Nat) (a : Option Addr) (zs : List Int) : Prop :=
  zs = [] ∨ ∃ g rest, a = some ⟨g, 0, none⟩ ∧ B ≤ g ∧ g < C ∧ w.heap[g]? = some (.cells ((zs.map (Value.int .i64)).toArray ++ rest) 2 (0, 0))
theorem SlO.within {w : World} {B : Nat} {a : Option Addr} {zs : List Int} (h : SlO w B a zs) : SlI w B w.heap.size a zs := by
  rcases h with rfl | ⟨g, rest, rfl, hg, hh⟩
  · exact .inl rfl
  · exact .inr ⟨g, rest, rfl, hg, (Array.getElem?_eq_some_iff.1 hh).1, hh⟩
theorem SlI.sl {w : World} {B C : Nat} {a : Option Addr} {zs : List Int} (h : SlI w B C a zs) : SlA w a zs := by
  rcases h with rfl | ⟨g, rest, rfl, hg, _, hh⟩
  · exact .inl rfl
  · exact (show SlO w B (some ⟨g, 0, none⟩) zs from .inr ⟨g, rest, rfl, hg, hh⟩).sl
theorem SlI.below {w w' : World} {B C D : Nat} {a : Option Addr} {zs : List Int} (h : SlI w B C a zs) (hb : Below D w w') (hD : C ≤ D) : SlI w' B C a zs := by
  rcases h with rfl | ⟨g, rest, rfl, hg, hC, hh⟩
  · exact .inl rfl
  · exact .inr ⟨g, rest, rfl, hg, hC, by rw [hb.block g (by omega)]; exact hh⟩
theorem SlI.mono {w : World} {B B' C C' : Nat} {a : Option Addr} {zs : List Int} (h : SlI w B C a zs) (hB : B' ≤ B) (hC : C ≤ C') : SlI w B' C' a zs := by
  rcases h with rfl | ⟨g, rest, rfl, hg, hl, hh⟩
  · exact .inl rfl
  · exact .inr ⟨g, rest, rfl, by omega, by omega, hh⟩
end Go.Proofs.Ytpgcmgbflcdjiaa
