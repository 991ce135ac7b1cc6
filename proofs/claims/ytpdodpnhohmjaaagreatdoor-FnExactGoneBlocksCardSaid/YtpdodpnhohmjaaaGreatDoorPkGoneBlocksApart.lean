/- Two rows of int64 of the call's own, side by side: an append to one leaves the other. -/
import Derived.Test.YtpdodpnhohmjaaaGreatDoorPkGoneBlocksA
import Derived.Test.YtpdodpnhohmjaaaGreatDoorPkGoneBlocksD
namespace Go.Proofs.YtpdodpnhohmjaaaGreatDoor
open Go.RowKit
set_option maxRecDepth 20000
set_option linter.unusedVariables false
set_option linter.unusedSimpArgs false
set_option maxRecDepth 20000
def Apart (u v : Value) : Prop := ∀ g, u.ownBlock = some g → v.ownBlock ≠ some g
theorem OwnI.keptA {w w' : World} {B : Nat} {u v : Value} {l : List Int} (h : OwnI w B u l) (ha : Apart u v) (hg : w.grownBy w' v.ownBlock) : OwnI w' B u l := by
  refine ⟨h.1, ?_⟩
  rcases h.2 with h2 | ⟨g, cap, cur, rfl, hgb, hh, r⟩
  · exact .inl h2
  · refine .inr ⟨g, cap, cur, rfl, hgb, ?_, r⟩
    rw [hg.block g (Array.getElem?_eq_some_iff.1 hh).1 (fun e => ha g rfl e.symm)]
    exact hh
theorem OwnI.blk {w : World} {B : Nat} {u : Value} {l : List Int} (h : OwnI w B u l) {g : Nat} (hg : u.ownBlock = some g) : g < w.heap.size := by
  rcases h.2 with ⟨rfl, _⟩ | ⟨g', cap, cur, rfl, hgb, hh, r⟩
  · simp [Value.ownBlock] at hg
  · have : g' = g := by simpa [Value.ownBlock] using hg
    subst this
    exact (Array.getElem?_eq_some_iff.1 hh).1
theorem Apart.left {w : World} {B g c n : Nat} {u v : Value} {l : List Int} (ha : Apart u v) (hv : OwnI w B v l) (h4 : u.ownBlock = some g ∨ g = w.heap.size) : Apart (.slice (some ⟨g, 0, none⟩) n c) v := by
  intro g' he hv'
  have e : g = g' := by simpa [Value.ownBlock] using he
  subst e
  rcases h4 with h4 | h4
  · exact ha g h4 hv'
  · have := hv.blk hv'; omega
theorem Apart.symm {u v : Value} (h : Apart u v) : Apart v u := fun g h1 h2 => h g h2 h1
section
variable {ops : Array Oper} {o : Oper} {a : Act} {Q : Exit → Act → World → Prop} {w : World}
theorem wpList_appendI2 {rest : List Oper} (T : TypeId) (hT : Tryz.prog.underlying T = some (.slice 2)) (hgd : o.guard = none) (s x : Operand) (ho : o.op = .call { callee := .builtin .append, args := #[s, x], argTypes := #[T, T] })
    {B : Nat} {v : Value} {l : List Int} (hs : a.eval s = v) (hown : OwnI w B v l) (n : Int) (ad : Addr) (c : Nat) (hx : a.eval x = .slice (some ad) 1 c)
    (hc : ∀ j u, [Value.int .i64 n][j]? = some u → w.cell? (ad.add j) = some u) (hl : l.length < 1073741824) (hB : B ≤ w.heap.size)
    (h : ∀ g cap w', OwnI w' B (.slice (some ⟨g, 0, none⟩) (l.length + 1) cap) (l ++ [n]) → w.grownBy w' v.ownBlock → Below B w w' → (v.ownBlock = some g ∨ g = w.heap.size) → wpList Tryz.prog ops Q rest (a.put o.dst (.slice (some ⟨g, 0, none⟩) (l.length + 1) cap)) w') : wpList Tryz.prog ops Q (o :: rest) a w := by
  obtain ⟨i0, hi, hz0, hz1, hz2⟩ := info_parts i64info
  refine wpList_append_lies w hgd s x T ho B 2 i0 (.int .i64 0) 1 8 hT hi hz0 hz1 hz2 rfl (by decide) v l.length (l.map (Value.int .i64)) hs hown ad 1 c [.int .i64 n] hx rfl hc (by simp [Value.oneCell']) (by decide) (by unfold maxLen; omega) (by omega) hB _ rfl ?_
  intro g cap w' h2 h3 h4 _
  exact h g cap w' (OwnI.snoc h2) h3 (hown.belowOf hB h3) h4
end
theorem SlO.grown {w w' : World} {B : Nat} {a : Option Addr} {l : List Int} {b : Option Nat} (h : SlO w B a l) (ha : ∀ g, a = some ⟨g, 0, none⟩ → b ≠ some g) (hg : w.grownBy w' b) : SlO w' B a l := by
  rcases h with rfl | ⟨g, rest, rfl, hgB, hh⟩
  · exact .inl rfl
  · exact .inr ⟨g, rest, rfl, hgB, by rw [hg.block g (Array.getElem?_eq_some_iff.1 hh).1 (fun e => ha g rfl e.symm)]; exact hh⟩
theorem SlO.blkLt {w : World} {B g : Nat} {l : List Int} (h : SlO w B (some ⟨g, 0, none⟩) l) (hl : l ≠ []) : g < w.heap.size := by
  rcases h with rfl | ⟨g', rest, e, hgB, hh⟩
  · exact absurd rfl hl
  · cases e
    exact (Array.getElem?_eq_some_iff.1 hh).1
end Go.Proofs.YtpdodpnhohmjaaaGreatDoor
