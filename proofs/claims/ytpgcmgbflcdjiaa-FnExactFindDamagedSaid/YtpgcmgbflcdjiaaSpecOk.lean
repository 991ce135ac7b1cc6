/- spec.l02Ok -/
import Derived.Test.YtpgcmgbflcdjiaaValidFlux
namespace Go.Proofs.Ytpgcmgbflcdjiaa
open Go.RowKit
set_option linter.unusedVariables false
/-- In the world w the address p holds these three fields. -/
def FluxAt (w : World) (p : Nat) (c f : Int) (a : Option Addr) (n d : Nat) : Prop :=
  w.cell? ⟨p, 0, none⟩ = some (.int .i64 c) ∧ w.cell? ⟨p, 1, none⟩ = some (.int .i64 f) ∧ w.cell? ⟨p, 2, none⟩ = some (.slice a n d)
theorem FluxAt.below {w w' : World} {B p : Nat} {c f : Int} {a : Option Addr} {n d : Nat} (h : FluxAt w p c f a n d) (hb : Below B w w') (hp : p < B) : FluxAt w' p c f a n d :=
  ⟨by rw [hb.cell (p := ⟨p, 0, none⟩) hp]; exact h.1, by rw [hb.cell (p := ⟨p, 1, none⟩) hp]; exact h.2.1, by rw [hb.cell (p := ⟨p, 2, none⟩) hp]; exact h.2.2⟩
theorem FluxAt.new (w : World) (c f : Int) (a : Option Addr) (n d : Nat) (T : TypeId) (p : Nat) (hp : w.heap.size = p) : FluxAt (w.alloc (.cells #[.int .i64 c, .int .i64 f, .slice a n d] T)) p c f a n d := by
  subst hp
  exact ⟨by simp [go_sem], by simp [go_sem], by simp [go_sem]⟩
theorem FluxAt.drew {w : World} {p : Nat} {c f : Int} {a : Option Addr} {n d : Nat} (h : FluxAt w p c f a n d) : FluxAt w.drew p c f a n d := h
theorem FluxAt.lt {w : World} {p : Nat} {c f : Int} {a : Option Addr} {n d : Nat} (h : FluxAt w p c f a n d) : p < w.heap.size := World.block_lt_of_cell? w _ h.1
theorem fluxOk_all_no {c f : Int} {zs : List Int} {k : Nat} {x : Int} (h : zs[k]? = some x) (hx : inB 1 2000000 x = false) : fluxOk c f zs = false := by
  unfold fluxOk; rw [all_false_of h hx]; simp
end Go.Proofs.Ytpgcmgbflcdjiaa
