/- spec.l02Draw, spec.l02Bent, spec.DrawSpliceCells -/
import Derived.Test.YtpgcmgbflcdjiaaDraw
import Derived.WalkMore
namespace Go.Proofs.Ytpgcmgbflcdjiaa
open Go.RowKit
set_option linter.unusedVariables false
theorem OwnB.only {w w' : World} {B p : Nat} {v : Value} {l : List UInt8} (h : OwnB w B v l) (ho : Only p w w') (hp : p < B) : OwnB w' B v l := by
  obtain ⟨g1, g2⟩ := h
  refine ⟨g1, ?_⟩
  rcases g2 with g2 | ⟨g, cap', cur, g3, g4, g5, r⟩
  · exact .inl g2
  · exact .inr ⟨g, cap', cur, g3, g4, by rw [ho.2.2.2.2 g (by omega)]; exact g5, r⟩
set_option maxHeartbeats 1000000 in
theorem one_any (m : Int) (p : Nat) (a : Option Addr) (n cap k : Nat) (w : World) (hm : m ≤ 4611686018427387904) (hn : n ≤ 1048576) (hk : k < 1000000000000) (h : SrcAt w p a n cap k) :
    Calls Try.prog 58 #[.pointer (some ⟨p, 0, none⟩), .int .i64 m] w fun e w' => ∃ b : Bool, e = .returned (.bool b) ∧ Chose p a n cap k 2 w w' := by
  have N1 := Lib.hid (pick_any m p a n cap k w hm hn hk h)
  clear h
  go_enter Try.func58, Try.ntmps58
  go_wp2_with fail
  refine N1.out.mono ?_
  rintro e w1 ⟨v, rfl, hv0, hv1, hc⟩
  have HC := Lib.hid hc; clear hc
  go_wp2
  go_ret
  exact ⟨_, rfl, HC.out⟩
/-- Where a draw stands: its own bytes, at most L of them; at most K choices. -/
def Dr (w : World) (p : Nat) (a : Option Addr) (n cap K L : Nat) (wr : World) (out : Value) : Prop :=
  ∃ l : List UInt8, OwnB wr w.heap.size out l ∧ l.length ≤ L ∧ (∃ k, k ≤ K ∧ SrcAt wr p a n cap k) ∧ Below p w wr ∧ w.heap.size ≤ wr.heap.size
theorem Dr.chose {w : World} {p : Nat} {a : Option Addr} {n cap K L k : Nat} {wr w' : World} {out : Value} {l : List UInt8} (hp : p < w.heap.size) (ho : OwnB wr w.heap.size out l) (hl : l.length ≤ L) (hk : k ≤ K) (hb : Below p w wr) (hs : w.heap.size ≤ wr.heap.size) (hc : Chose p a n cap k 2 wr w') : Dr w p a n cap (K + 2) L w' out := by
  obtain ⟨k', q1, q2, q3, q4⟩ := hc
  exact ⟨l, ho.only q4 hp, hl, ⟨k', by omega, q3⟩, hb.trans (q4.below (Nat.le_refl _)), by have := q4.2.2.2.1; omega⟩
theorem Dr.snoc {w : World} {p : Nat} {a : Option Addr} {n cap K L k : Nat} {wr w' : World} {o : Obj} {l : List UInt8} {x : UInt8} {v : Value} (hp : p < w.heap.size) (ha : CodeLt a n w.heap.size) (ho : OwnB w' w.heap.size v (l ++ [x])) (hl : l.length ≤ L) (hk : k ≤ K) (hsrc : SrcAt wr p a n cap k) (hb : Below p w wr) (hs : w.heap.size ≤ wr.heap.size) (hg : Below w.heap.size (wr.alloc o) w') : Dr w p a n cap K (L + 1) w' v :=
  ⟨l ++ [x], ho, by simp; omega, ⟨k, hk, (hsrc.below ha (Below.alloc (Below.refl _ wr) hs _) hp).below ha hg hp⟩, (hb.alloc (by omega) _).trans (hg.mono (by omega)), by have := hg.size; simp at this; omega⟩
end Go.Proofs.Ytpgcmgbflcdjiaa
