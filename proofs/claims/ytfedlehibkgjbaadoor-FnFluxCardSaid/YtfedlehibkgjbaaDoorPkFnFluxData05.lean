/- spec: word, l05Data, A2Data; laws: a2Long, a2Byte. -/
import Derived.Test.YtfedlehibkgjbaaDoorPkFnFluxDraw2
namespace Go.Proofs.YtfedlehibkgjbaaDoor
open Go.RowKit
set_option linter.unusedVariables false
theorem code_of {w : World} {a : Option Addr} {n cap : Nat} {zs : List Int} (h : IsRow .u8 w a n cap zs) : CodeAt w a n ∧ CodeLt a n w.heap.size := by
  rcases h with ⟨_, h, _⟩ | ⟨x, rfl, h1, h2, h3, h4, h5⟩
  · exact ⟨.inl h, .inl h⟩
  · refine ⟨.inr ⟨x, rfl, fun i hi => ?_⟩, ?_⟩
    · have hi2 : i < zs.length := by omega
      have hb := bounds_u8 (h5 zs[i] (List.getElem_mem hi2))
      have hc := h4 i hi2
      refine ⟨zs[i].toNat, by omega, ?_⟩
      rw [hc]
      have e : zs.getD i 0 = zs[i] := by simp [List.getD, hi2]
      rw [e, Int.toNat_of_nonneg hb.1]
    · by_cases h0 : n = 0
      · exact .inl h0
      · right
        intro y hy
        cases hy
        have hc := h4 0 (by omega)
        have := World.block_lt_of_cell? w (x.add 0) hc
        rwa [add_block] at this
theorem Dr.chose1 {w : World} {p : Nat} {a : Option Addr} {n cap K L k : Nat} {wr w' : World} {out : Value} {l : List UInt8} (hp : p < w.heap.size) (ho : OwnB wr w.heap.size out l) (hl : l.length ≤ L) (hk : k ≤ K) (hb : Below p w wr) (hs : w.heap.size ≤ wr.heap.size) (hc : Chose p a n cap k 1 wr w') : Dr w p a n cap (K + 1) L w' out := by
  obtain ⟨k', q1, q2, q3, q4⟩ := hc
  exact ⟨l, ho.only q4 hp, hl, ⟨k', by omega, q3⟩, hb.trans (q4.below (Nat.le_refl _)), by have := q4.2.2.2.1; omega⟩
theorem five_ints (w : World) : Ints (w.alloc (.cells #[.int .i64 0, .int .i64 255, .int .i64 78, .int .i64 161, .int .i64 85] 2)) w.heap.size 0 [0, 255, 78, 161, 85] := by
  intro i x hx
  have h := heap_alloc_new w (.cells #[.int .i64 0, .int .i64 255, .int .i64 78, .int .i64 161, .int .i64 85] 2)
  match i, hx with
  | 0, hx => simp at hx; subst hx; simp only [World.cell?, h]; rfl
  | 1, hx => simp at hx; subst hx; simp only [World.cell?, h]; rfl
  | 2, hx => simp at hx; subst hx; simp only [World.cell?, h]; rfl
  | 3, hx => simp at hx; subst hx; simp only [World.cell?, h]; rfl
  | 4, hx => simp at hx; subst hx; simp only [World.cell?, h]; rfl
  | i + 5, hx => simp at hx
end Go.Proofs.YtfedlehibkgjbaaDoor
