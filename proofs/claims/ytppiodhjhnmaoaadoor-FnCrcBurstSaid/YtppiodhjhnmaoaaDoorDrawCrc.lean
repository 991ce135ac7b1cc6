/- spec.DrawCrc16, laws.b10At -/
import Derived.Test.YtppiodhjhnmaoaaDoorDraw
import Derived.Test.YtppiodhjhnmaoaaDoorDraw2
namespace Go.Proofs.YtppiodhjhnmaoaaDoor
open Go.RowKit
set_option maxRecDepth 20000
set_option linter.unusedVariables false
theorem crc_ints (w : World) : Ints (w.alloc (.cells #[.int .i64 65535, .int .i64 0, .int .i64 1, .int .i64 4129, .int .i64 65536, .int .i64 (-1), .int .i64 65535] 2)) w.heap.size 0 [65535, 0, 1, 4129, 65536, -1, 65535] := by
  intro i x hx
  have h := heap_alloc_new w (.cells #[.int .i64 65535, .int .i64 0, .int .i64 1, .int .i64 4129, .int .i64 65536, .int .i64 (-1), .int .i64 65535] 2)
  match i, hx with
  | 0, hx => simp at hx; subst hx; simp only [World.cell?, h]; rfl
  | 1, hx => simp at hx; subst hx; simp only [World.cell?, h]; rfl
  | 2, hx => simp at hx; subst hx; simp only [World.cell?, h]; rfl
  | 3, hx => simp at hx; subst hx; simp only [World.cell?, h]; rfl
  | 4, hx => simp at hx; subst hx; simp only [World.cell?, h]; rfl
  | 5, hx => simp at hx; subst hx; simp only [World.cell?, h]; rfl
  | 6, hx => simp at hx; subst hx; simp only [World.cell?, h]; rfl
  | i + 7, hx => simp at hx
set_option maxHeartbeats 4000000 in
theorem drawCrc16_any (a : Option Addr) (n cap : Nat) (w : World) (hn : n ≤ 1048576) (ha : CodeLt a n w.heap.size) (hc : CodeAt w a n) :
    Calls Tryd.prog 9 #[.slice a n cap] w fun e w' => ∃ (x : ByteArray) (v : Int), e = .returned (.tuple #[.string x, .int .i64 v]) ∧ x.size ≤ 20 ∧ -1 ≤ v ∧ v ≤ 65536 ∧ Below w.heap.size w w' := by
  have hs := src_new w a n cap ha hc
  have hb : Below w.heap.size w (w.alloc (.cells #[.slice a n cap, .int .i64 0, .int .u64 0] 58)) := Below.alloc (Below.refl _ w) (Nat.le_refl _) _
  have D := Lib.hid (l01Draw_any 20 (by omega) w.heap.size a n cap 0 _ hn (by omega) (ha.mono hb.size) hs)
  have hsz1 : (w.alloc (.cells #[.slice a n cap, .int .i64 0, .int .u64 0] 58)).heap.size = w.heap.size + 1 := by simp
  have HZ := Lib.hid hsz1
  have HB := Lib.hid hb; clear hs hb hsz1
  go_enter Tryd.func9, Tryd.ntmps9
  go_wp2_with fail
  refine (l00From_any a n cap w).mono ?_
  rintro e w1 ⟨rfl, rfl⟩
  go_wp2_with fail
  refine D.out.mono ?_
  rintro e w2 ⟨x, rfl, hx, ⟨k2, _, hk2, hsrc2⟩, hb2, hs2⟩
  have hbb2 := HB.out.trans hb2
  have hs2' : w.heap.size + 1 ≤ w2.heap.size := by have := HZ.out; omega
  have hsrc3 : SrcAt (w2.alloc (.cells #[.int .i64 65535, .int .i64 0, .int .i64 1, .int .i64 4129, .int .i64 65536, .int .i64 (-1), .int .i64 65535] 2)) w.heap.size a n cap k2 := hsrc2.below (C := w2.heap.size) (ha.mono (by omega)) (Below.alloc (Below.refl _ w2) (Nat.le_refl _) _) (by omega)
  have hbb3 := hbb2.alloc (by omega) (.cells #[.int .i64 65535, .int .i64 0, .int .i64 1, .int .i64 4129, .int .i64 65536, .int .i64 (-1), .int .i64 65535] 2)
  have A1 := Lib.hid (among_any w2.heap.size 7 [65535, 0, 1, 4129, 65536, -1, 65535] w.heap.size a n cap k2 _ (by decide) (by decide) (by omega) (crc_ints w2) hn (by omega) hsrc3)
  have HB2 := Lib.hid hbb3; clear hsrc2 hsrc3 hb2 hbb2 hbb3 D
  go_wp2_with fail
  refine A1.out.mono ?_
  rintro e w3 ⟨v, rfl, hv, hch⟩
  have hv2 : -1 ≤ v ∧ v ≤ 65536 := by simp at hv; omega
  have hbb4 : Below w.heap.size w w3 := by
    obtain ⟨_, _, _, _, ho⟩ := hch
    exact HB2.out.trans (ho.below (Nat.le_refl _))
  have HB4 := Lib.hid hbb4; clear hch hbb4 A1 hv
  go_wp2
  go_ret2
  exact ⟨x, v, rfl, hx, hv2.1, hv2.2, HB4.out⟩
set_option maxHeartbeats 1000000 in
theorem b10At_any (a : Option Addr) (len cap : Nat) (i n : Nat) (hi : i ≤ 100) (hn : 2 ≤ n) (hn2 : n ≤ 1000000) (w : World) (hl : len ≤ 1048576) (hc : CodeAt w a len) :
    Calls Tryd.prog 10 #[.slice a len cap, .int .i64 (i : Int), .int .i64 (n : Int)] w fun e w' => (∃ v : Nat, v < n ∧ e = .returned (.int .i64 (v : Int))) ∧ w = w' := by
  have e2 : ¬ (n : Int) ≤ 1 := by omega
  have e3 : (1 : Int) < (n : Int) := by omega
  have en : ((n : Int) == 0) = false := by simp; omega
  by_cases hlt : i < len
  · obtain ⟨x, rfl, hx⟩ : ∃ x : Addr, a = some x ∧ ∀ i, i < len → ∃ v : Nat, v < 256 ∧ w.cell? (x.add i) = some (.int .u8 (v : Int)) := by
      rcases hc with h0 | h0
      · omega
      · exact h0
    obtain ⟨v, hv, hcell⟩ := hx i hlt
    have e1 : (i : Int) < (len : Int) := by omega
    have hm : v % n < n := Nat.mod_lt _ (by omega)
    clear hx
    go_enter Tryd.func10, Tryd.ntmps10
    go_wp2
    go_ret
    exact ⟨⟨v % n, hm, by simp⟩, rfl⟩
  · have e1 : ¬ (i : Int) < (len : Int) := by omega
    have hm : (i * 37 + 11) % n < n := Nat.mod_lt _ (by omega)
    clear hc
    go_enter Tryd.func10, Tryd.ntmps10
    go_wp2
    go_ret
    exact ⟨⟨(i * 37 + 11) % n, hm, by simp⟩, rfl⟩
end Go.Proofs.YtppiodhjhnmaoaaDoor
