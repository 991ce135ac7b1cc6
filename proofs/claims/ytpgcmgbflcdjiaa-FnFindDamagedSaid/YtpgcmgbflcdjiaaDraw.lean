/- spec.l00From, spec.l01Draw, spec.DrawBitsOf -/
import Derived.Test.YtpgcmgbflcdjiaaSrc
namespace Go.Proofs.Ytpgcmgbflcdjiaa
open Go.RowKit
set_option linter.unusedVariables false
theorem SrcAt.lt {w : World} {p : Nat} {a : Option Addr} {n cap k : Nat} (h : SrcAt w p a n cap k) : p < w.heap.size := by
  obtain ⟨s, hh, _⟩ := h
  exact (Array.getElem?_eq_some_iff.1 hh).1
/-- The code's bytes lie below C. -/
def CodeLt (a : Option Addr) (n C : Nat) : Prop := n = 0 ∨ ∀ x, a = some x → x.block < C
theorem CodeLt.mono {a : Option Addr} {n C C' : Nat} (h : CodeLt a n C) (hC : C ≤ C') : CodeLt a n C' := h.imp id fun h x hx => Nat.lt_of_lt_of_le (h x hx) hC
theorem SrcAt.below {w w' : World} {p C : Nat} {a : Option Addr} {n cap k : Nat} (h : SrcAt w p a n cap k) (ha : CodeLt a n C) (hb : Below C w w') (hp : p < C) : SrcAt w' p a n cap k := by
  obtain ⟨s, hh, hne, hc⟩ := h
  exact ⟨s, by rw [hb.block _ hp]; exact hh, hne, hc.below ha hb⟩
theorem src_new (w : World) (a : Option Addr) (n cap : Nat) (ha : CodeLt a n w.heap.size) (hc : CodeAt w a n) :
    SrcAt (w.alloc (.cells #[.slice a n cap, .int .i64 0, .int .u64 0] 72)) w.heap.size a n cap 0 := by
  refine ⟨0, by show (w.heap.push _)[w.heap.size]? = _; simp, ha.imp id fun h x hx => Nat.ne_of_lt (h x hx), hc.below ha (Below.alloc (Below.refl _ w) (Nat.le_refl _) _)⟩
theorem eight_ints (w : World) : Ints (w.alloc (.cells #[.int .i64 0, .int .i64 1, .int .i64 65, .int .i64 78, .int .i64 161, .int .i64 255, .int .i64 229, .int .i64 16] 2)) w.heap.size 0 [0, 1, 65, 78, 161, 255, 229, 16] := by
  intro i u hu
  match i, hu with
  | 0, hu => simp at hu; subst hu; simp [go_sem]
  | 1, hu => simp at hu; subst hu; simp [go_sem]
  | 2, hu => simp at hu; subst hu; simp [go_sem]
  | 3, hu => simp at hu; subst hu; simp [go_sem]
  | 4, hu => simp at hu; subst hu; simp [go_sem]
  | 5, hu => simp at hu; subst hu; simp [go_sem]
  | 6, hu => simp at hu; subst hu; simp [go_sem]
  | 7, hu => simp at hu; subst hu; simp [go_sem]
  | i + 8, hu => simp at hu
theorem eight_bd {v : Int} (h : v ∈ [(0 : Int), 1, 65, 78, 161, 255, 229, 16]) : 0 ≤ v ∧ v < 256 := by
  simp at h; omega
set_option maxHeartbeats 1000000 in
theorem l00From_any (a : Option Addr) (n cap : Nat) (w : World) :
    Calls Try.prog 50 #[.slice a n cap] w fun e w' => e = .returned (.pointer (some ⟨w.heap.size, 0, none⟩)) ∧ w.alloc (.cells #[.slice a n cap, .int .i64 0, .int .u64 0] 72) = w' := by
  go_enter Try.func50, Try.ntmps50
  go_wp2
  go_ret
  exact ⟨rfl, rfl⟩
end Go.Proofs.Ytpgcmgbflcdjiaa
