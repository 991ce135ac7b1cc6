/- impl.changesIn: the iterator's contract. -/
import Derived.RangeFuncNested
import Derived.RangeFuncBound
import Derived.RangeFuncCalls
import Derived.RangeFuncLeaves
import Derived.RangeFuncBox
import Derived.Shelf.Abstract
import Derived.WalkKit
import Derived.OwnWalkIn
import Derived.TacticsInMore
import Derived.LoopNIn
import Derived.LoopIn
import Derived.Test.YtjilcobagmelgaaRevolutionOf
namespace Go.Proofs.Ytjilcobagmelgaa
open Go.RowKit
set_option linter.unusedVariables false
open Go.Shelf
attribute [local go_sem] Oper.semAt_some
/-- The first k of n rounds. -/
def rnds (n k : Nat) : List (Fin n) := (List.finRange n).take k
theorem rnds_succ {n k : Nat} (h : k < n) : rnds n (k + 1) = rnds n k ++ [⟨k, h⟩] := by
  unfold rnds
  rw [List.take_succ_eq_append_getElem (by simpa using h)]
  simp
theorem rnds_length {n k : Nat} (h : k ≤ n) : (rnds n k).length = k := by simp [rnds]; omega
/-- The time of change k. -/
def tAt (f : Int) (zs : List Int) (k : Nat) : Int := f + (zs.take k).sum
theorem tAt_succ {f : Int} {zs : List Int} {k : Nat} {x : Int} (h : zs[k]? = some x) : tAt f zs (k + 1) = tAt f zs k + x := by
  unfold tAt; rw [sum_snoc h]; omega
abbrev chgEnc (f : Int) (zs : List Int) (x : Fin zs.length) : Array Value := #[.int .i64 (x.val : Int), .int .i64 (tAt f zs x.val)]
set_option maxRecDepth 100000 in
set_option maxHeartbeats 2000000 in
theorem changes1_in (F : Fence) (n : Nat) (hfn : F.fn 26) (hro : F.round = none) (hn : 1 ≤ n) (l Bs n₀ : Nat) (c f : Int) (a : Option Addr) (cap : Nat) (zs : List Int) (hlen : zs.length ≤ 4000) (hz : zs.all (inB 1 2000000) = true) (hf0 : 0 ≤ f) (hf1 : f ≤ 2000000) (J Jx : List (Fin zs.length) → World → Prop)
    (hY : ∀ pre x W, J pre W → pre.length < zs.length → YieldAt F (n - 1) Try.prog l (chgEnc f zs x) W fun e W' =>
      (e = .returned (.bool true) ∧ J (pre ++ [x]) W' ∧ Below n₀ W W') ∨ (e = .returned (.bool false) ∧ Jx (pre ++ [x]) W'))
    (W : World) (hBs : FluxAt W Bs c f a zs.length cap) (hI : SlA W a zs) (hb : ∀ x, a = some x → x.block < n₀) (h0 : J [] W) :
    CallsIn F n Try.prog 26 #[.func (.yield l) #[] #[], .pointer (some ⟨Bs, 0, none⟩)] W fun e W' => (∃ v, e = .returned v) ∧
      ((∃ ys, ys = rnds zs.length zs.length ∧ J ys W') ∨ (∃ pre, (∃ k, k ≤ zs.length ∧ pre = rnds zs.length k) ∧ Jx pre W')) := by
  obtain ⟨x0, x1, x2⟩ := hBs
  have HZ := Lib.hid hz; clear hz
  refine callsIn_of_wp Try.func26 rfl hfn ?_ hro
  simp only [Try.ntmps26, List.size_toArray, List.length_cons, List.length_nil, Nat.reduceAdd, Nat.reduceSub, Array.replicate_succ, Array.replicate_zero, List.push_toArray, List.append_toArray, List.nil_append, List.cons_append]
  gi_wp2
  gi_loopw [3, 4, 5, 11] (fun q _ _ i wr => ∃ k : Nat, k ≤ zs.length ∧ i = .int .i64 k ∧ (∃ t : Int, q = .int .i64 t ∧ 0 ≤ t ∧ t ≤ 2000000 + 2000000 * (k : Int) ∧ Hid (t = tAt f zs k)) ∧ J (rnds zs.length k) wr ∧ Below n₀ W wr)
    (fun _ _ _ i _ => zs.length - (intOf i).toNat)
  case atStart => exact ⟨0, Nat.zero_le _, rfl, ⟨f, rfl, hf0, by omega, by unfold Hid tAt; simp⟩, h0, Below.refl _ _⟩
  case round =>
    obtain ⟨k, hk, rfl, ⟨t, rfl, ht0, ht1, hT⟩, hJs, hnx⟩ := hrel
    by_cases hlt : k < zs.length
    · obtain ⟨x, hx⟩ := getOf hlt
      obtain ⟨hx0, hx1⟩ := bd_of_all HZ.out hx
      obtain ⟨b, off, rfl, hc⟩ := hI.cell hx
      have hbb := hb _ rfl
      have hcx := (hnx.cell (p := ⟨b, off + k, none⟩) hbb).trans hc
      obtain ⟨fn, tmps, assign, body, hy, hR⟩ := hY _ ⟨k, hlt⟩ wr hJs (by rw [rnds_length hk]; exact hlt)
      dsimp only [chgEnc] at hy
      rw [← hT.out] at hy
      have HX := Lib.hid hx; clear hx
      have HI := Lib.hid hI; clear hI
      gi_wp2
      refine hR.mono ?_
      rintro e W3 (⟨rfl, hJ3, hk3⟩ | ⟨rfl, hJx3⟩)
      · gi_wp2
        go_roundw
        case rel => exact ⟨k + 1, by omega, by go_num, ⟨t + x, rfl, by omega, by omega, by unfold Hid; rw [tAt_succ HX.out, hT.out]⟩, by rw [rnds_succ hlt]; exact hJ3, hnx.trans hk3⟩
        case measure => simp [intOf]; omega
      · gi_wp2
        refine bodyPost_ret (results_none rfl _ _ _) rfl ?_
        exact ⟨⟨_, rfl⟩, .inr ⟨_, ⟨k + 1, by omega, by rw [rnds_succ hlt]⟩, hJx3⟩⟩
    · obtain rfl : k = zs.length := by omega
      gi_wp2
      go_end0
      exact ⟨⟨_, rfl⟩, .inl ⟨_, rfl, hJs⟩⟩
/-- The row lies below n₀. -/
def SlB (n₀ : Nat) (w : World) (a : Option Addr) (zs : List Int) : Prop := SlA w a zs ∧ ∀ x, a = some x → x.block < n₀
theorem SlB.below {n₀ : Nat} {w w' : World} {a : Option Addr} {zs : List Int} (h : SlB n₀ w a zs) (hb : Below n₀ w w') : SlB n₀ w' a zs := by
  refine ⟨?_, h.2⟩
  rcases h.1 with rfl | ⟨b, off, rfl, hlt, hi⟩
  · exact .inl rfl
  · exact .inr ⟨b, off, rfl, Nat.lt_of_lt_of_le hlt hb.size, hi.below hb (h.2 _ rfl)⟩
theorem changes_stops (F : Fence) (n : Nat) (hfn : F.fn 26) (hro : F.round = none) (hn : 1 ≤ n) (Bs n₀ : Nat) (c f : Int) (a : Option Addr) (cap : Nat) (zs : List Int) (hlen : zs.length ≤ 4000) (hz : zs.all (inB 1 2000000) = true) (hf0 : 0 ≤ f) (hf1 : f ≤ 2000000)
    (w : World) (hBs : Bs < w.heap.size) (hn₀ : n₀ ≤ w.heap.size) (hc : FluxAt w Bs c f a zs.length cap) (hI : SlB n₀ w a zs) :
    SeqStopsK F n Try.prog 26 #[.pointer (some ⟨Bs, 0, none⟩)] (chgEnc f zs) (Below n₀) (fun ys => ys = rnds zs.length zs.length)
      (fun pre => ∃ k, k ≤ zs.length ∧ pre = rnds zs.length k) zs.length w := fun l J Jx W hW _ _ hY h0 =>
  changes1_in F n hfn hro hn l Bs n₀ c f a cap zs hlen hz hf0 hf1 J Jx hY W (hc.below hW hBs) (hI.below (hW.mono hn₀)).1 hI.2 h0
set_option maxHeartbeats 1000000 in
theorem changesIn_in (F : Fence) (n : Nat) (hfn : F.fn 21) (hro : F.round = none) (c f : Int) (a : Option Addr) (len cap : Nat) (w : World) :
    CallsIn F n Try.prog 21 #[.agg #[.int .i64 c, .int .i64 f, .slice a len cap]] w fun e w' => e = .returned (.func (.func 26) #[] #[.pointer (some ⟨w.heap.size, 0, none⟩)]) ∧ w' = w.alloc (.cells #[.int .i64 c, .int .i64 f, .slice a len cap] 26) := by
  refine callsIn_of_wp Try.func21 rfl hfn ?_ hro
  simp only [Try.ntmps21, List.size_toArray, List.length_cons, List.length_nil, Nat.reduceAdd, Nat.reduceSub, Array.replicate_succ, Array.replicate_zero, List.push_toArray, List.append_toArray, List.nil_append, List.cons_append]
  gi_wp2
  go_ret
  exact ⟨rfl, rfl⟩
end Go.Proofs.Ytjilcobagmelgaa
