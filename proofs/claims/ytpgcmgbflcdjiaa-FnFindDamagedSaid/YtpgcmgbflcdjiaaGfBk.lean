/- slices.Backward over strings: the iterator's contract. -/
import Derived.RangeFuncNested
import Derived.RangeFuncBound
import Derived.RangeFuncCalls
import Derived.RangeFuncLeaves
import Derived.RangeFuncBox
import Derived.RangeFuncWrites
import Derived.Shelf.Abstract
import Derived.WalkKit
import Derived.OwnWalkIn
import Derived.TacticsInMore
import Derived.LoopNIn
import Derived.LoopIn
import Derived.Test.YtpgcmgbflcdjiaaRecString
namespace Go.Proofs.Ytpgcmgbflcdjiaa
open Go.RowKit
open Go.Shelf
set_option linter.unusedVariables false
attribute [local go_sem] Oper.semAt_some
def rndsB (n k : Nat) : List (Fin n) := (List.finRange n).take k
theorem rndsB_succ {n k : Nat} (h : k < n) : rndsB n (k + 1) = rndsB n k ++ [⟨k, h⟩] := by
  unfold rndsB
  rw [List.take_succ_eq_append_getElem (by simpa using h)]
  simp
theorem rndsB_length {n k : Nat} (h : k ≤ n) : (rndsB n k).length = k := by simp [rndsB]; omega
theorem rndsB_all (n : Nat) : rndsB n n = List.finRange n := by unfold rndsB; exact List.take_of_length_le (by simp)
/-- What round x hands over. -/
abbrev bkEnc (es : List StringV) {N : Nat} (x : Fin N) : Array Value := #[.int .i64 ((N : Int) - 1 - (x.val : Int)), .string (es.getD (N - 1 - x.val) ⟨⟨#[]⟩⟩).f0]
/-- The box and the strings lie as they lay. -/
def KBb (Bs b : Nat) (w w' : World) : Prop := w'.heap[Bs]? = w.heap[Bs]? ∧ w'.heap[b]? = w.heap[b]?
theorem KBb.trans {Bs b : Nat} {x y z : World} (h : KBb Bs b x y) (k : KBb Bs b y z) : KBb Bs b x z := ⟨Eq.trans k.1 h.1, Eq.trans k.2 h.2⟩
set_option maxRecDepth 100000 in
set_option maxHeartbeats 4000000 in
theorem back1_in (n l Bs b off cap N : Nat) (es : List StringV) (hN : N = es.length) (h1 : 1 ≤ N) (h2 : N ≤ 128) (J Jx : List (Fin N) → World → Prop)
    (hY : ∀ pre x W, J pre W → pre.length < N → YieldAt Fence.wide (n - 1) Try.prog l (bkEnc es x) W fun e W' =>
      (e = .returned (.bool true) ∧ J (pre ++ [x]) W' ∧ KBb Bs b W W') ∨ (e = .returned (.bool false) ∧ Jx (pre ++ [x]) W'))
    (W : World) (hB0 : Boxed W Bs 33 (.slice (some ⟨b, off, none⟩) N cap)) (hC : ∀ k e, es[k]? = some e → W.cell? ⟨b, off + k, none⟩ = some (.string e.f0)) (h0 : J [] W) :
    CallsIn Fence.wide n Try.prog 63 #[.func (.yield l) #[] #[], .pointer (some ⟨Bs, 0, none⟩)] W fun e W' => (∃ v, e = .returned v) ∧
      ((∃ ys, ys = rndsB N N ∧ J ys W') ∨ (∃ pre, (∃ k, k ≤ N ∧ pre = rndsB N k) ∧ Jx pre W')) := by
  have c0 := hB0.cell
  have HC := Lib.hid hC; clear hC hB0
  have HN := Lib.hid hN; clear hN
  refine callsIn_of_wp Try.func63 rfl trivial ?_ rfl
  simp only [Try.ntmps63, List.size_toArray, List.length_cons, List.length_nil, Nat.reduceAdd, Nat.reduceSub, Array.replicate_succ, Array.replicate_zero, List.push_toArray, List.append_toArray, List.nil_append, List.cons_append]
  gi_wp2
  gi_loopw [3] (fun i wr => ∃ k : Nat, k ≤ N ∧ i = .int .i64 ((N : Int) - 1 - (k : Int)) ∧ Hid (J (rndsB N k) wr) ∧ KBb Bs b W wr)
    (fun i _ => (intOf i + 1).toNat)
  case atStart => exact ⟨0, Nat.zero_le _, by simp, Lib.hid h0, ⟨rfl, rfl⟩⟩
  case round =>
    obtain ⟨q, hq, rfl, hJs, hkb⟩ := hrel
    have d0 : wr.cell? ⟨Bs, 0, none⟩ = some (.slice (some ⟨b, off, none⟩) N cap) := by rw [← c0]; exact World.cell?_of_block (a := ⟨Bs, 0, none⟩) hkb.1
    by_cases hlt : q < N
    · obtain ⟨m, hm⟩ : ∃ m : Nat, N - 1 - q = m := ⟨_, rfl⟩
      have em : (N : Int) - 1 - (q : Int) = (m : Int) := by omega
      have hmN : m < N := by omega
      obtain ⟨x, hx⟩ : ∃ x, es[m]? = some x := ⟨es[m]'(by have := HN.out; omega), by simp⟩
      have d1 : wr.cell? ⟨b, off + m, none⟩ = some (.string x.f0) := by rw [← HC.out m x hx]; exact World.cell?_of_block (a := ⟨b, off + m, none⟩) hkb.2
      obtain ⟨fn, tmps, assign, body, hy, hR⟩ := hY _ ⟨q, hlt⟩ wr hJs.out (by rw [rndsB_length hq]; exact hlt)
      dsimp only [bkEnc] at hy
      have hx2 : es.getD (N - 1 - q) ⟨⟨#[]⟩⟩ = x := by rw [hm]; simp [List.getD, hx]
      rw [hx2, em] at hy
      have HE := Lib.hid em
      have HM := Lib.hid hm
      rw [em]
      clear hx hm em hx2
      gi_wp2
      refine ⟨(fun h => absurd h (by decide)), hR.mono ?_⟩
      rintro e W3 (⟨rfl, hJ5, hk5⟩ | ⟨rfl, hJx3⟩)
      · have HJ5 := Lib.hid hJ5; clear hJ5
        gi_wp2
        go_roundw
        case rel => exact ⟨q + 1, by omega, by have := HE.out; go_num, by unfold Hid; rw [rndsB_succ hlt]; exact HJ5.out, hkb.trans hk5⟩
        case measure => simp [intOf] <;> omega
      · gi_wp2
        refine bodyPost_ret (results_none rfl _ _ _) rfl ?_
        exact ⟨⟨_, rfl⟩, .inr ⟨_, ⟨q + 1, by omega, by rw [rndsB_succ hlt]⟩, hJx3⟩⟩
    · obtain rfl : q = N := by omega
      have em : (q : Int) - 1 - (q : Int) = -1 := by omega
      rw [em]
      gi_wp2
      go_end0
      first | exact ⟨⟨_, rfl⟩, .inl ⟨_, rfl, hJs.out⟩⟩ | exact ⟨⟨_, rfl⟩, .inl hJs.out⟩
end Go.Proofs.Ytpgcmgbflcdjiaa
