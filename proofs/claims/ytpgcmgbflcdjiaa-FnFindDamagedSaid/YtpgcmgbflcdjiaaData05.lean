/- spec: word, l05Data, A2Data; laws: a2Long, a2Byte. -/
import Derived.Test.YtpgcmgbflcdjiaaDraw2
namespace Go.Proofs.Ytpgcmgbflcdjiaa
open Go.RowKit
set_option linter.unusedVariables false
theorem code_of {w : World} {a : Option Addr} {n cap : Nat} {zs : List Int} (h : IsRow .u8 w a n cap zs) : CodeAt w a n ∧ CodeLt a n w.heap.size := by
  rcases h with ⟨_, h, _⟩ | ⟨x, rfl, h1, h2, h3, h4, h5⟩
  · exact ⟨.inl h, .inl h⟩
  · refine ⟨.inr ⟨x, rfl, fun i hi => ?_⟩, ?_⟩
    · have hi2 : i < zs.length := by omega
      have hb := bounds_u8 (h5 zs[i] (List.getElem_mem hi2))
      have hc := h4 i hi2
      refine ⟨zs[i].toNat, by omega, ?_⟩
      rw [hc]
      have e : zs.getD i 0 = zs[i] := by simp [List.getD, hi2]
      rw [e, Int.toNat_of_nonneg hb.1]
    · by_cases h0 : n = 0
      · exact .inl h0
      · right
        intro y hy
        cases hy
        have hc := h4 0 (by omega)
        have := World.block_lt_of_cell? w (x.add 0) hc
        rwa [add_block] at this
theorem Dr.chose1 {w : World} {p : Nat} {a : Option Addr} {n cap K L k : Nat} {wr w' : World} {out : Value} {l : List UInt8} (hp : p < w.heap.size) (ho : OwnB wr w.heap.size out l) (hl : l.length ≤ L) (hk : k ≤ K) (hb : Below p w wr) (hs : w.heap.size ≤ wr.heap.size) (hc : Chose p a n cap k 1 wr w') : Dr w p a n cap (K + 1) L w' out := by
  obtain ⟨k', q1, q2, q3, q4⟩ := hc
  exact ⟨l, ho.only q4 hp, hl, ⟨k', by omega, q3⟩, hb.trans (q4.below (Nat.le_refl _)), by have := q4.2.2.2.1; omega⟩
theorem five_ints (w : World) : Ints (w.alloc (.cells #[.int .i64 0, .int .i64 255, .int .i64 78, .int .i64 161, .int .i64 85] 2)) w.heap.size 0 [0, 255, 78, 161, 85] := by
  intro i x hx
  have h := heap_alloc_new w (.cells #[.int .i64 0, .int .i64 255, .int .i64 78, .int .i64 161, .int .i64 85] 2)
  match i, hx with
  | 0, hx => simp at hx; subst hx; simp only [World.cell?, h]; rfl
  | 1, hx => simp at hx; subst hx; simp only [World.cell?, h]; rfl
  | 2, hx => simp at hx; subst hx; simp only [World.cell?, h]; rfl
  | 3, hx => simp at hx; subst hx; simp only [World.cell?, h]; rfl
  | 4, hx => simp at hx; subst hx; simp only [World.cell?, h]; rfl
  | i + 5, hx => simp at hx
theorem a2Long_any (a b : Option Addr) (n m c d : Nat) (w : World) :
    Calls Try.prog 19 #[.slice a n c, .slice b m d] w fun e w' => e = .returned (.bool (decide (3000 < n) || decide (3000 < m))) ∧ w = w' := by
  by_cases h1 : 3000 < n
  · have e : (decide (3000 < n) || decide (3000 < m)) = true := by simp [h1]
    rw [e]
    have h1' : (3000 : Int) < n := by omega
    clear h1 e
    go_enter Try.func19, Try.ntmps19
    go_wp2
    go_ret
    exact ⟨rfl, rfl⟩
  · have e : (decide (3000 < n) || decide (3000 < m)) = decide (3000 < m) := by simp [h1]
    rw [e]
    have h1' : ¬ (3000 : Int) < n := by omega
    clear h1 e
    by_cases h2 : 3000 < m
    · have e : decide (3000 < m) = true := by simp [h2]
      rw [e]
      have h2' : (3000 : Int) < m := by omega
      clear h2 e
      go_enter Try.func19, Try.ntmps19
      go_wp2
      go_ret
      exact ⟨rfl, rfl⟩
    · have e : decide (3000 < m) = false := by simp [h2]
      rw [e]
      have h2' : ¬ (3000 : Int) < m := by omega
      clear h2 e
      go_enter Try.func19, Try.ntmps19
      go_wp2
      go_ret
      exact ⟨rfl, rfl⟩
set_option maxHeartbeats 1000000 in
theorem a2Byte_any (a : Option Addr) (n cap : Nat) (at_ m : Nat) (w : World) (hn : n ≤ 1048576) (hm : 0 < m) (hm2 : m ≤ 1048576) (hat : at_ ≤ 1048576) (hc : CodeAt w a n) :
    Calls Try.prog 20 #[.slice a n cap, .int .i64 (at_ : Int), .int .i64 (m : Int)] w fun e w' => ∃ v : Nat, e = .returned (.int .i64 (v : Int)) ∧ v < m ∧ w = w' := by
  have hm1 : ¬ (m : Int) < 1 := by omega
  by_cases h1 : at_ < n
  · obtain ⟨x, rfl, hx⟩ : ∃ x : Addr, a = some x ∧ ∀ i, i < n → ∃ v : Nat, v < 256 ∧ w.cell? (x.add i) = some (.int .u8 (v : Int)) := by
      rcases hc with h | h
      · omega
      · exact h
    obtain ⟨v, hv, hcell⟩ := hx at_ h1
    have h1' : ¬ (n : Int) ≤ (at_ : Int) := by omega
    have h1'' : (at_ : Int) < n := by omega
    have h0 : (0 : Int) ≤ (at_ : Int) := by omega
    have hmz : ((m : Int) == 0) = false := by rw [beq_eq_false_iff_ne]; omega
    by_cases h2 : at_ + 1 < n
    · obtain ⟨u, hu, hcell2⟩ := hx (at_ + 1) h2
      have h2' : (at_ : Int) + 1 < n := by omega
      have h3 : (0 : Int) ≤ (at_ : Int) + 1 := by omega
      have h4 : ((at_ : Int) + 1).toNat = at_ + 1 := by omega
      have e5 : x.add (at_ + 1) = { block := x.block, off := x.off + (at_ + 1) } := by unfold Addr.add; simp
      rw [e5] at hcell2
      clear hx hc e5
      go_enter Try.func20, Try.ntmps20
      go_wp2
      go_ret
      exact ⟨(256 * v + u) % m, ret_int (by simp), Nat.mod_lt _ hm, rfl⟩
    · have h2' : ¬ (at_ : Int) + 1 < n := by omega
      clear hx hc
      go_enter Try.func20, Try.ntmps20
      go_wp2
      go_ret
      exact ⟨v % m, ret_int (by simp), Nat.mod_lt _ hm, rfl⟩
  · have h1' : (n : Int) ≤ (at_ : Int) := by omega
    clear hc
    go_enter Try.func20, Try.ntmps20
    go_wp2
    go_ret
    exact ⟨0, rfl, hm, rfl⟩
end Go.Proofs.Ytpgcmgbflcdjiaa
