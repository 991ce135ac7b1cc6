/- laws.markFlux, laws.heldFlux; what a mark leaves alone. -/
import Derived.Test.YtfedlehibkgjbaaDoorPkFnFluxA
namespace Go.Proofs.YtfedlehibkgjbaaDoor
open Go.RowKit
set_option linter.unusedVariables false
/-- Of the blocks that were there, only the one that the slice's address leads to may differ. -/
structure Keep (a : Option Addr) (w w' : World) : Prop where
  os : w'.os = w.os
  tape : w'.tape = w.tape
  output : w'.output = w.output
  size : w.heap.size ≤ w'.heap.size
  block : ∀ b, b < w.heap.size → a.map (·.block) ≠ some b → w'.heap[b]? = w.heap[b]?
theorem Keep.of_below {a : Option Addr} {w w' : World} (h : Below w.heap.size w w') : Keep a w w' := ⟨h.os, h.tape, h.output, h.size, fun b hb _ => h.block b hb⟩
theorem Keep.trans {a : Option Addr} {w w1 w2 : World} (h : Keep a w w1) (k : Keep a w1 w2) : Keep a w w2 :=
  ⟨k.os.trans h.os, k.tape.trans h.tape, k.output.trans h.output, Nat.le_trans h.size k.size, fun b hb hn => (k.block b (Nat.lt_of_lt_of_le hb h.size) hn).trans (h.block b hb hn)⟩
theorem Keep.cell {a : Option Addr} {w w' : World} (h : Keep a w w') {b o : Nat} (hb : b < w.heap.size) (hn : a.map (·.block) ≠ some b) : w'.cell? ⟨b, o, none⟩ = w.cell? ⟨b, o, none⟩ := World.cell?_of_block (h.block b hb hn)
theorem FluxAt.keep {x : Option Addr} {w w' : World} {p : Nat} {c f : Int} {a : Option Addr} {n d : Nat} (h : FluxAt w p c f a n d) (hk : Keep x w w') (hn : x.map (·.block) ≠ some p) : FluxAt w' p c f a n d := by
  have hl := h.lt
  exact ⟨by rw [hk.cell hl hn]; exact h.1, by rw [hk.cell hl hn]; exact h.2.1, by rw [hk.cell hl hn]; exact h.2.2⟩
/-- An owned row whose block lies in [B, C). -/
def SlI (w : World) (B C : Nat) (a : Option Addr) (zs : List Int) : Prop :=
  zs = [] ∨ ∃ g rest, a = some ⟨g, 0, none⟩ ∧ B ≤ g ∧ g < C ∧ w.heap[g]? = some (.cells ((zs.map (Value.int .i64)).toArray ++ rest) 2 (0, 0))
theorem SlO.within {w : World} {B : Nat} {a : Option Addr} {zs : List Int} (h : SlO w B a zs) : SlI w B w.heap.size a zs := by
  rcases h with rfl | ⟨g, rest, rfl, hg, hh⟩
  · exact .inl rfl
  · exact .inr ⟨g, rest, rfl, hg, (Array.getElem?_eq_some_iff.1 hh).1, hh⟩
theorem SlI.sl {w : World} {B C : Nat} {a : Option Addr} {zs : List Int} (h : SlI w B C a zs) : SlA w a zs := by
  rcases h with rfl | ⟨g, rest, rfl, hg, _, hh⟩
  · exact .inl rfl
  · exact (show SlO w B (some ⟨g, 0, none⟩) zs from .inr ⟨g, rest, rfl, hg, hh⟩).sl
theorem SlI.below {w w' : World} {B C D : Nat} {a : Option Addr} {zs : List Int} (h : SlI w B C a zs) (hb : Below D w w') (hD : C ≤ D) : SlI w' B C a zs := by
  rcases h with rfl | ⟨g, rest, rfl, hg, hC, hh⟩
  · exact .inl rfl
  · exact .inr ⟨g, rest, rfl, hg, hC, by rw [hb.block g (by omega)]; exact hh⟩
theorem SlI.mono {w : World} {B B' C C' : Nat} {a : Option Addr} {zs : List Int} (h : SlI w B C a zs) (hB : B' ≤ B) (hC : C ≤ C') : SlI w B' C' a zs := by
  rcases h with rfl | ⟨g, rest, rfl, hg, hl, hh⟩
  · exact .inl rfl
  · exact .inr ⟨g, rest, rfl, by omega, by omega, hh⟩
set_option maxHeartbeats 400000 in
/-- The mark: the row reads k, k + 1 and so on; of all other blocks below w's size none differs. -/
theorem markFlux_any (c f : Int) (a : Option Addr) (zs : List Int) (cap k B C : Nat) (w : World) (hl : zs.length ≤ 4194304) (hk : k ≤ 4194304) (hC : C ≤ w.heap.size) (h : SlI w B C a zs) :
    Calls Tryd.prog 8 #[.agg #[.int .i64 c, .int .i64 f, .slice a zs.length cap], .int .i64 k] w fun e w' => e = .returned (.int .i64 ((k + zs.length : Nat) : Int)) ∧ SlI w' B C a (fromK k zs.length) ∧
      (∀ D, D ≤ B → D ≤ w.heap.size → Below D w w') ∧ w.heap.size ≤ w'.heap.size ∧ ∀ b, b < w.heap.size → (b < B ∨ C ≤ b) → w'.heap[b]? = w.heap[b]? := by
  have hO : ∀ w1, Below w.heap.size w w1 → SlO w1 B a zs := fun w1 hb => by
    rcases h with rfl | ⟨g, rest, rfl, hg, hg2, hh⟩
    · exact .inl rfl
    · exact .inr ⟨g, rest, rfl, hg, by rw [hb.block g (by omega)]; exact hh⟩
  have HC := Lib.hid (fun w1 hb => markInt_any a zs cap k B w1 hl hk (hO w1 hb))
  have HH := Lib.hid h; clear hO h
  have hm : k + zs.length ≤ 8388608 := by omega
  have hlen := fromK_length (k : Int) zs.length
  generalize fromK (k : Int) zs.length = ys at *
  generalize hnn : zs.length = n at *
  generalize hm2 : k + n = m at *
  go_enter Tryd.func8, Tryd.ntmps8
  go_wp2_with fail
  refine (HC.out _ (by go_grown)).mono ?_
  rintro e w1 ⟨rfl, hso, hb1, hs1, hoth⟩
  have HS := Lib.hid (And.intro hso (And.intro hb1 (And.intro hs1 hoth))); clear hso hb1 hs1 hoth
  go_wp2
  go_ret
  obtain ⟨hso, hb1, hs1, hoth⟩ := HS.out
  refine ⟨rfl, ?_, ?_, ?_, ?_⟩
  · rcases HH.out with rfl | ⟨g, rest, rfl, hg, hg2, hh⟩
    · left; simp at hnn; exact List.length_eq_zero_iff.1 (by omega)
    · rcases hso with rfl | ⟨g', rest', e, hg', hh'⟩
      · exact .inl rfl
      · cases e
        exact .inr ⟨g, rest', rfl, hg, hg2, hh'⟩
  · intro D hD hDw
    exact Below.trans (show Below D w _ from (Below.refl _ _).alloc hDw _) (hb1.mono hD)
  · rw [hs1]; simp
  · intro b hbw hbc
    rw [hoth b ?_, Below.heap_alloc _ _ _ hbw]
    rcases HH.out with rfl | ⟨g, rest, rfl, hg, hg2, hh⟩
    · exact .inl rfl
    · right; simp; omega
set_option maxHeartbeats 400000 in
theorem heldFlux_any (c f : Int) (a : Option Addr) (n cap k : Nat) (w : World) (hl : n ≤ 4194304) (hk : k ≤ 4194304) (h : SlA w a (fromK k n)) :
    Calls Tryd.prog 9 #[.agg #[.int .i64 c, .int .i64 f, .slice a n cap], .int .i64 k] w fun e w' => e = .returned (.int .i64 ((k + n : Nat) : Int)) ∧ Below w.heap.size w w' := by
  have HC := Lib.hid (fun w1 (hb : Below w.heap.size w w1) => heldInt_any a n cap k w1 hl hk (h.below hb (Nat.le_refl _)))
  clear h
  have hm : k + n ≤ 8388608 := by omega
  generalize hm2 : k + n = m at *
  go_enter Tryd.func9, Tryd.ntmps9
  go_wp2_with fail
  refine (HC.out _ (by go_grown)).mono ?_
  rintro e w1 ⟨rfl, rfl⟩
  go_wp2
  go_ret
  exact ⟨rfl, by go_grown⟩
end Go.Proofs.YtfedlehibkgjbaaDoor
