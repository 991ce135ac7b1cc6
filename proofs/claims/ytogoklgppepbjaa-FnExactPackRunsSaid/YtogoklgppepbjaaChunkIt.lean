/- slices.Chunk over bytes, in parts of 64: the iterator's contract. -/
import Derived.RangeFuncNested
import Derived.RangeFuncBound
import Derived.RangeFuncCalls
import Derived.RangeFuncLeaves
import Derived.RangeFuncBox
import Derived.RangeFuncWrites
import Derived.Shelf.Abstract
import Derived.WalkKit
import Derived.OwnWalkIn
import Derived.TacticsInMore
import Derived.LoopNIn
import Derived.LoopIn
import Derived.Test.YtogoklgppepbjaaBuilderMark
namespace Go.Proofs.Ytogoklgppepbjaa
open Go.RowKit
open Go.Shelf
set_option linter.unusedVariables false
attribute [local go_sem] Oper.semAt_some
/-- The first k of n parts. -/
def rndsC (n k : Nat) : List (Fin n) := (List.finRange n).take k
theorem rndsC_succ {n k : Nat} (h : k < n) : rndsC n (k + 1) = rndsC n k ++ [⟨k, h⟩] := by
  unfold rndsC
  rw [List.take_succ_eq_append_getElem (by simpa using h)]
  simp
theorem rndsC_length {n k : Nat} (h : k ≤ n) : (rndsC n k).length = k := by simp [rndsC]; omega
/-- Part x of len bytes in block k. -/
abbrev ckEnc (k len : Nat) {N : Nat} (x : Fin N) : Array Value := #[.slice (some ⟨k, 64 * x.val, none⟩) (min 64 (len - 64 * x.val)) (min 64 (len - 64 * x.val))]
/-- The two boxes lie as they lay. -/
def KB2 (b : Nat) (w w' : World) : Prop := w'.heap[b]? = w.heap[b]? ∧ w'.heap[b + 1]? = w.heap[b + 1]?
theorem KB2.trans {b : Nat} {x y z : World} (h : KB2 b x y) (k : KB2 b y z) : KB2 b x z := ⟨Eq.trans k.1 h.1, Eq.trans k.2 h.2⟩
set_option maxRecDepth 100000 in
set_option maxHeartbeats 4000000 in
theorem chunk1_in (n l Bs : Nat) (k len cap N : Nat) (hN : N = (len + 63) / 64) (hl : len ≤ 1048576) (hcap : len ≤ cap) (J Jx : List (Fin N) → World → Prop)
    (hY : ∀ pre x W, J pre W → pre.length < N → YieldAt Fence.wide (n - 1) Try.prog l (ckEnc k len x) W fun e W' =>
      (e = .returned (.bool true) ∧ J (pre ++ [x]) W' ∧ KB2 Bs W W') ∨ (e = .returned (.bool false) ∧ Jx (pre ++ [x]) W'))
    (W : World) (hJ : AbidesFrom W.heap.size J) (hB0 : Boxed W Bs 65 (.slice (some ⟨k, 0, none⟩) len cap)) (hB1 : Boxed W (Bs + 1) 3 (.int .i64 64)) (h0 : J [] W) :
    CallsIn Fence.wide n Try.prog 101 #[.func (.yield l) #[] #[], .pointer (some ⟨Bs, 0, none⟩), .pointer (some ⟨Bs + 1, 0, none⟩)] W fun e W' => (∃ v, e = .returned v) ∧
      ((∃ ys, ys = rndsC N N ∧ J ys W') ∨ (∃ pre, (∃ k, k ≤ N ∧ pre = rndsC N k) ∧ Jx pre W')) := by
  have c0 := hB0.cell
  have c1 := hB1.cell
  refine callsIn_of_wp Try.func101 rfl trivial ?_ rfl
  simp only [Try.ntmps101, List.size_toArray, List.length_cons, List.length_nil, Nat.reduceAdd, Nat.reduceSub, Array.replicate_succ, Array.replicate_zero, List.push_toArray, List.append_toArray, List.nil_append, List.cons_append]
  gi_wp2
  have HC := Lib.hid (And.intro hB0 hB1); clear hB0 hB1
  have HN := Lib.hid hN; clear hN
  gi_loopw [4, 5] (fun i _ wr => ∃ k : Nat, k ≤ N ∧ i = .int .i64 (64 * (k : Int)) ∧ Hid (J (rndsC N k) wr) ∧ KB2 Bs W wr ∧ Hid (AbidesFrom W.heap.size J))
    (fun i _ _ => 64 * N - (intOf i).toNat)
  case atStart => exact ⟨0, Nat.zero_le _, rfl, Lib.hid h0, ⟨rfl, rfl⟩, Lib.hid hJ⟩
  case round =>
    obtain ⟨q, hq, rfl, hJs, hkb, hJ2⟩ := hrel
    have d0 : wr.cell? ⟨Bs, 0, none⟩ = some (.slice (some ⟨k, 0, none⟩) len cap) := by rw [← c0]; exact World.cell?_of_block (a := ⟨Bs, 0, none⟩) hkb.1
    have d1 : wr.cell? ⟨Bs + 1, 0, none⟩ = some (.int .i64 64) := by rw [← c1]; exact World.cell?_of_block (a := ⟨Bs + 1, 0, none⟩) hkb.2
    by_cases hlt : q < N
    · have e1 : 64 * (q : Int) < len := by have := HN.out; omega
      have e0 : ((64 : Int) * (q : Int)).toNat = 64 * q := by omega
      obtain ⟨m, hm⟩ : ∃ m : Nat, min 64 (len - 64 * q) = m := ⟨_, rfl⟩
      have em : min (64 : Int) ((len - 64 * q : Nat) : Int) = (m : Int) := by omega
      have em2 : 64 * q + m ≤ len := by omega
      have hb3 : Below wr.heap.size wr wr.drew := (Below.refl _ wr).drew
      have hJ3 := hJ2.out _ wr wr.drew none hJs.out ⟨hb3.os, hb3.tape, hb3.output, hb3.size, fun k hk _ => hb3.block k hk⟩ (fun r e => by cases e)
      obtain ⟨fn, tmps, assign, body, hy, hR⟩ := hY _ ⟨q, hlt⟩ wr.drew hJ3 (by rw [rndsC_length hq]; exact hlt)
      have d2 : wr.drew.cell? ⟨Bs, 0, none⟩ = some (.slice (some ⟨k, 0, none⟩) len cap) := d0
      have d3 : wr.drew.cell? ⟨Bs + 1, 0, none⟩ = some (.int .i64 64) := d1
      dsimp only [ckEnc] at hy
      rw [hm] at hy
      have hJ4 := Lib.hid hJ3; clear hJ3 hb3
      gi_wp2
      refine wpIn_wide.2 ?_
      go_region
      gi_wp2
      refine ⟨(fun h => absurd h (by decide)), hR.mono ?_⟩
      rintro e W3 (⟨rfl, hJ5, hk5⟩ | ⟨rfl, hJx3⟩)
      · have f1 : W3.cell? ⟨Bs + 1, 0, none⟩ = some (.int .i64 64) := by rw [← d3]; exact World.cell?_of_block (a := ⟨Bs + 1, 0, none⟩) hk5.2
        have HJ5 := Lib.hid hJ5; clear hJ5
        have HNN : 64 * (q : Int) ≤ 1048576 := by omega
        gi_wp2
        go_roundw
        case rel => exact ⟨q + 1, by omega, by go_num, by unfold Hid; rw [rndsC_succ hlt]; exact HJ5.out, hkb.trans hk5, hJ2⟩
        case measure => simp [intOf] <;> omega
      · gi_wp2
        refine bodyPost_ret (results_none rfl _ _ _) rfl ?_
        exact ⟨⟨_, rfl⟩, .inr ⟨_, ⟨q + 1, by omega, by rw [rndsC_succ hlt]⟩, hJx3⟩⟩
    · have e1 : ¬ 64 * (q : Int) < len := by have := HN.out; omega
      obtain rfl : q = N := by omega
      gi_wp2
      go_end0
      first | exact ⟨⟨_, rfl⟩, .inl ⟨_, rfl, hJs.out⟩⟩ | exact ⟨⟨_, rfl⟩, .inl hJs.out⟩
theorem chunk_stops (n Bs k len cap N : Nat) (hN : N = (len + 63) / 64) (hl : len ≤ 1048576) (hcap : len ≤ cap) (w : World) (hB0 : Boxed w Bs 65 (.slice (some ⟨k, 0, none⟩) len cap)) (hB1 : Boxed w (Bs + 1) 3 (.int .i64 64)) :
    SeqStopsK Fence.wide n Try.prog 101 #[.pointer (some ⟨Bs, 0, none⟩), .pointer (some ⟨Bs + 1, 0, none⟩)] (ckEnc k len (N := N)) (KB2 Bs) (fun ys => ys = rndsC N N)
      (fun pre => ∃ k, k ≤ N ∧ pre = rndsC N k) N w := fun l J Jx W hW hJ _ hY h0 =>
  chunk1_in n l Bs k len cap N hN hl hcap J Jx hY W hJ (by unfold Boxed at *; rw [hW.block Bs (Array.getElem?_eq_some_iff.1 hB0).1]; exact hB0) (by unfold Boxed at *; rw [hW.block (Bs + 1) (Array.getElem?_eq_some_iff.1 hB1).1]; exact hB1) h0
theorem kb2_obj {Bs : Nat} {w : World} (hlt : Bs + 1 < w.heap.size) (W : World) (l : Nat) (o o' : Obj) (hl : w.heap.size ≤ l) (_ : W.heap[l]? = some o) (_ : o.isCells = false) (_ : o.isWalk = false) : KB2 Bs W (W.putObj l o') :=
  ⟨(grownBy_putObj' W l o').block Bs (by rename_i h _ _; have := (Array.getElem?_eq_some_iff.1 h).1; omega) (by simp; omega), (grownBy_putObj' W l o').block (Bs + 1) (by rename_i h _ _; have := (Array.getElem?_eq_some_iff.1 h).1; omega) (by simp; omega)⟩
theorem chunk_in (n : Nat) (k len cap : Nat) (w : World) :
    CallsIn Fence.wide n Try.prog 88 #[.slice (some ⟨k, 0, none⟩) len cap, .int .i64 64] w fun e w' => e = .returned (.func (.func 101) #[] #[.pointer (some ⟨w.heap.size, 0, none⟩), .pointer (some ⟨w.heap.size + 1, 0, none⟩)]) ∧ w' = (w.alloc (.cells #[.slice (some ⟨k, 0, none⟩) len cap] 65)).alloc (.cells #[.int .i64 64] 3) := by
  refine callsIn_of_wp Try.func88 rfl trivial ?_ rfl
  simp only [Try.ntmps88, List.size_toArray, List.length_cons, List.length_nil, Nat.reduceAdd, Nat.reduceSub, Array.replicate_succ, Array.replicate_zero, List.push_toArray, List.append_toArray, List.nil_append, List.cons_append]
  gi_wp2
  go_ret
  exact ⟨rfl, rfl⟩
end Go.Proofs.Ytogoklgppepbjaa
