/- spec.DrawCrc16, laws.b10At -/
import Derived.Test.YtfedlehibkgjbaaDoorPkFnFluxDraw
import Derived.Test.YtfedlehibkgjbaaDoorPkFnFluxDraw2
namespace Go.Proofs.YtfedlehibkgjbaaDoor
open Go.RowKit
set_option linter.unusedVariables false
theorem crc_ints (w : World) : Ints (w.alloc (.cells #[.int .i64 65535, .int .i64 0, .int .i64 1, .int .i64 4129, .int .i64 65536, .int .i64 (-1), .int .i64 65535] 2)) w.heap.size 0 [65535, 0, 1, 4129, 65536, -1, 65535] := by
  intro i x hx
  have h := heap_alloc_new w (.cells #[.int .i64 65535, .int .i64 0, .int .i64 1, .int .i64 4129, .int .i64 65536, .int .i64 (-1), .int .i64 65535] 2)
  match i, hx with
  | 0, hx => simp at hx; subst hx; simp only [World.cell?, h]; rfl
  | 1, hx => simp at hx; subst hx; simp only [World.cell?, h]; rfl
  | 2, hx => simp at hx; subst hx; simp only [World.cell?, h]; rfl
  | 3, hx => simp at hx; subst hx; simp only [World.cell?, h]; rfl
  | 4, hx => simp at hx; subst hx; simp only [World.cell?, h]; rfl
  | 5, hx => simp at hx; subst hx; simp only [World.cell?, h]; rfl
  | 6, hx => simp at hx; subst hx; simp only [World.cell?, h]; rfl
  | i + 7, hx => simp at hx
set_option maxHeartbeats 1000000 in
theorem b10At_any (a : Option Addr) (len cap : Nat) (i n : Nat) (hi : i ≤ 100) (hn : 2 ≤ n) (hn2 : n ≤ 1000000) (w : World) (hl : len ≤ 1048576) (hc : CodeAt w a len) :
    Calls Tryd.prog 17 #[.slice a len cap, .int .i64 (i : Int), .int .i64 (n : Int)] w fun e w' => (∃ v : Nat, v < n ∧ e = .returned (.int .i64 (v : Int))) ∧ w = w' := by
  have e2 : ¬ (n : Int) ≤ 1 := by omega
  have e3 : (1 : Int) < (n : Int) := by omega
  have en : ((n : Int) == 0) = false := by simp; omega
  by_cases hlt : i < len
  · obtain ⟨x, rfl, hx⟩ : ∃ x : Addr, a = some x ∧ ∀ i, i < len → ∃ v : Nat, v < 256 ∧ w.cell? (x.add i) = some (.int .u8 (v : Int)) := by
      rcases hc with h0 | h0
      · omega
      · exact h0
    obtain ⟨v, hv, hcell⟩ := hx i hlt
    have e1 : (i : Int) < (len : Int) := by omega
    have hm : v % n < n := Nat.mod_lt _ (by omega)
    clear hx
    go_enter Tryd.func17, Tryd.ntmps17
    go_wp2
    go_ret
    exact ⟨⟨v % n, hm, by simp⟩, rfl⟩
  · have e1 : ¬ (i : Int) < (len : Int) := by omega
    have hm : (i * 37 + 11) % n < n := Nat.mod_lt _ (by omega)
    clear hc
    go_enter Tryd.func17, Tryd.ntmps17
    go_wp2
    go_ret
    exact ⟨⟨(i * 37 + 11) % n, hm, by simp⟩, rfl⟩
end Go.Proofs.YtfedlehibkgjbaaDoor
