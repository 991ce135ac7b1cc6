/- Which blocks a step leaves alone; marks that are told so. -/
import Derived.Test.YtpgcmgbflcdjiaaMarkFlux
import Derived.Test.YtpgcmgbflcdjiaaLawFlux
namespace Go.Proofs.Ytpgcmgbflcdjiaa
open Go.RowKit
set_option linter.unusedVariables false
/-- Of the blocks that were there, only those from lo on and below hi may differ. -/
structure Sm (lo hi : Nat) (w w' : World) : Prop where
  size : w.heap.size ≤ w'.heap.size
  block : ∀ b, b < w.heap.size → (b < lo ∨ hi ≤ b) → w'.heap[b]? = w.heap[b]?
theorem Sm.of_below {w w' : World} (h : Below w.heap.size w w') : Sm 0 0 w w' := ⟨h.size, fun b hb _ => h.block b hb⟩
theorem Sm.alloc (w : World) (o : Obj) : Sm 0 0 w (w.alloc o) := ⟨by simp, fun b hb _ => Below.heap_alloc w o b hb⟩
theorem Sm.refl (w : World) : Sm 0 0 w w := ⟨Nat.le_refl _, fun _ _ _ => rfl⟩
theorem FluxAt.sm {lo hi : Nat} {w w' : World} {p : Nat} {c f : Int} {a : Option Addr} {n d : Nat} (h : FluxAt w p c f a n d) (hs : Sm lo hi w w') (hp : p < lo ∨ hi ≤ p) : FluxAt w' p c f a n d := by
  have hl := h.lt
  have e : ∀ o, w'.cell? ⟨p, o, none⟩ = w.cell? ⟨p, o, none⟩ := fun o => World.cell?_of_block (hs.block p hl hp)
  exact ⟨by rw [e]; exact h.1, by rw [e]; exact h.2.1, by rw [e]; exact h.2.2⟩
theorem SlI.sm {lo hi : Nat} {w w' : World} {B C : Nat} {a : Option Addr} {zs : List Int} (h : SlI w B C a zs) (hs : Sm lo hi w w') (hp : C ≤ lo ∨ hi ≤ B) : SlI w' B C a zs := by
  rcases h with rfl | ⟨g, rest, rfl, hg, hC, hh⟩
  · exact .inl rfl
  · exact .inr ⟨g, rest, rfl, hg, hC, by rw [hs.block g (Array.getElem?_eq_some_iff.1 hh).1 (by omega)]; exact hh⟩
theorem RowAt.sli {w : World} {g B : Nat} {zs : List Int} (h : RowAt w g zs) (hg : B ≤ g) : SlI w B w.heap.size (some ⟨g, 0, none⟩) zs := (h.slO hg).within
theorem SlI.drew {w : World} {B C : Nat} {a : Option Addr} {zs : List Int} (h : SlI w B C a zs) : SlI w.drew B C a zs := h
theorem below_step {n₀ : Nat} {w W W' : World} (h : Below n₀ w W) (hn : n₀ ≤ W.heap.size) (hb : Below W.heap.size W W') : Below n₀ w W' := h.trans (hb.mono hn)
theorem below_new {n₀ : Nat} {w W : World} (h : Below n₀ w W) (hn : n₀ ≤ W.heap.size) (o : Obj) : Below n₀ w (W.alloc o) := h.alloc hn o
theorem below_undrew {B : Nat} {w w' : World} (h : Below B w.drew w') : Below B w w' := ⟨h.os, h.tape, h.output, h.size, h.block⟩
/-- What a mark of a row in [B, C) has done. -/
def Marked (B C : Nat) (a : Option Addr) (k n : Nat) (w : World) (e : Ending) (w' : World) : Prop :=
  e = .returned (.int .i64 ((k + n : Nat) : Int)) ∧ SlI w' B C a (fromK k n) ∧ (∀ D, D ≤ B → D ≤ w.heap.size → Below D w w') ∧ Sm B C w w'
end Go.Proofs.Ytpgcmgbflcdjiaa
