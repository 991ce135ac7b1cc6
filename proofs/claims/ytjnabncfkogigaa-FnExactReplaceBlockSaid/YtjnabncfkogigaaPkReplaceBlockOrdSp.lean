/- spec.l15Order -/
import Derived.Test.YtjnabncfkogigaaPkReplaceBlockOrdCol
import Derived.Deep.RegionHeldLaw
namespace Go.Proofs.Ytjnabncfkogigaa
open Go.RowKit
set_option linter.unusedVariables false
set_option linter.unusedSimpArgs false
set_option maxRecDepth 20000
set_option maxHeartbeats 8000000 in
theorem l15Order_any (a b d : Int) (T C S N p : Nat) (v : Value) (hg : geoB a b (C : Int) d = true) (hT : a * b = (T : Int)) (hN : N = T * C) (hS : S ≤ 7) (h1 : 1 ≤ N) (w : World) (hp : BoxAt w p #[.int .i64 a, .int .i64 b, .int .i64 (C : Int), .int .i64 d, v]) :
    Calls Try.prog 67 #[.pointer (some ⟨p, 0, none⟩), .int .i64 (S : Int)] w (OrdRes (ordL C S N) w) := by
  obtain ⟨g0, g1, g2, g3⟩ := geoB_iff.1 hg
  have hm := mul_bound g0 g1 g2
  rw [hT] at hm
  have hT16 : T ≤ 16 := by omega
  have hC8 : 1 ≤ C ∧ C ≤ 8 := by omega
  have hpl := hp.lt (by simp)
  have yT : IntKind.i64.wrap (a * b) = (T : Int) := by rw [hT]; exact wrap_small _ (by omega) (by omega)
  have HP := Lib.hid hp
  have HNN := Lib.hid (And.intro hN h1)
  clear hg hT g0 g1 g2 g3 hm hp hN h1
  go_enter Try.func67, Try.ntmps67
  go_wp2
  go_loopw [5, 6] (fun v i wr => ∃ t : Nat, t ≤ T ∧ i = .int .i64 (t : Int) ∧ OwnI wr w.heap.size v (ordL C S (t * C)) ∧ Below w.heap.size w wr) (fun _ i _ => T - (intOf i).toNat)
  case atStart => exact ⟨0, Nat.zero_le _, rfl, by rw [Nat.zero_mul]; exact OwnI.empty _ _ (Nat.le_refl _), (Below.refl _ _).alloc (Nat.le_refl _) _⟩
  case round =>
    obtain ⟨t, ht, rfl, hown, hb⟩ := hrel
    have p0 : wr.cell? ⟨p, 0, none⟩ = some (.int .i64 a) := (HP.out.below hb hpl) 0 _ rfl
    have p1 : wr.cell? ⟨p, 1, none⟩ = some (.int .i64 b) := (HP.out.below hb hpl) 1 _ rfl
    go_wp2
    go_region
    clear p0 p1
    have hown' := hown.drew
    have hb' := hb.drew
    clear hown hb
    generalize wr.drew = wo at *
    by_cases hlt : t < T
    · have e1 : (t : Int) < (T : Int) := by omega
      have htC : t * C + C ≤ N := by rw [HNN.out.1]; have := Nat.mul_le_mul_right C (show t + 1 ≤ T from hlt); rw [Nat.add_mul, Nat.one_mul] at this; exact this
      have HtC := Lib.hid htC; clear htC
      have hN8 : N ≤ 128 := by rw [HNN.out.1]; exact Nat.mul_le_mul hT16 hC8.2
      rw [decide_eq_true hlt]
      go_wp2
      go_loopw [5, 7] (fun v i wr => ∃ j : Nat, j ≤ C ∧ i = .int .i64 (j : Int) ∧ OwnI wr w.heap.size v (ordL C S (t * C + j)) ∧ Below w.heap.size w wr) (fun _ i _ => C - (intOf i).toNat)
      case atStart => exact ⟨0, Nat.zero_le _, rfl, hown', hb'⟩
      case round =>
        clear hown' hb'
        obtain ⟨j, hj, rfl, hown, hb⟩ := hrel
        have p2 : wr.cell? ⟨p, 2, none⟩ = some (.int .i64 (C : Int)) := (HP.out.below hb hpl) 2 _ rfl
        by_cases hltj : j < C
        · have e2 : (j : Int) < (C : Int) := by omega
          have hlt2 : t * C + j < N := by have := HtC.out; omega
          have p2d : wr.drew.cell? ⟨p, 2, none⟩ = some (.int .i64 (C : Int)) := p2
          have hzb := hb.size
          have hll : (ordL C S (t * C + j)).length < 1073741824 := by rw [ordL_len]; omega
          have HLL := Lib.hid hll; clear hll
          have cz : ¬ (C : Int) = 0 := by omega
          have cz2 : ((C : Int) == 0) = false := by simp; omega
          have cz3 : ¬ C = 0 := by omega
          obtain ⟨x1, x2, x3, x4, x5, x6, x7, u0, u1, r0, r1⟩ := ord_facts hltj hT16 hlt hC8 hS
          have hoe := Lib.hid x6
          have HS := Lib.hid (show ordL C S (t * C + (j + 1)) = ordL C S (t * C + j) ++ [(t : Int) * (C : Int) + ((j : Int) + (t : Int) * (S : Int)) % (C : Int)] by rw [show t * C + (j + 1) = t * C + j + 1 by omega, ordL_succ, hoe.out])
          have y1 : IntKind.i64.wrap ((t : Int) * (S : Int)) = (t : Int) * (S : Int) := wrap_small _ u0 (by clear x1 x2 x3 x4 x5 x6 x7; omega)
          have y2 : IntKind.i64.wrap ((j : Int) + (t : Int) * (S : Int)) = (j : Int) + (t : Int) * (S : Int) := wrap_small _ (by clear x1 x2 x3 x4 x5 x6 x7 y1; omega) (by clear x1 x2 x3 x4 x5 x6 x7 y1; omega)
          have y7 : IntKind.i64.wrap (((j : Int) + (t : Int) * (S : Int)) % (C : Int)) = ((j : Int) + (t : Int) * (S : Int)) % (C : Int) := wrap_small _ r0 (by clear x1 x2 x3 x4 x5 x6 x7 y1 y2; omega)
          have u3 : 0 ≤ (t : Int) * (C : Int) := Int.mul_nonneg (by omega) (by omega)
          have u4 : (t : Int) * (C : Int) ≤ 128 := by clear x1 x2 x3 x4 x5 x6 x7 y1 y2 y7; have := Int.mul_le_mul (show (t : Int) ≤ 16 by omega) (show (C : Int) ≤ 8 by omega) (by omega) (by omega); omega
          have y3 : IntKind.i64.wrap ((t : Int) * (C : Int)) = (t : Int) * (C : Int) := wrap_small _ u3 (by clear x1 x2 x3 x4 x5 x6 x7 y1 y2 y7; omega)
          have y4 : IntKind.i64.wrap ((t : Int) * (C : Int) + ((j : Int) + (t : Int) * (S : Int)) % (C : Int)) = (t : Int) * (C : Int) + ((j : Int) + (t : Int) * (S : Int)) % (C : Int) := wrap_small _ (by clear x1 x2 x3 x4 x5 x6 x7 y1 y2 y7 y3; omega) (by clear x1 x2 x3 x4 x5 x6 x7 y1 y2 y7 y3; omega)
          generalize ordL C S (t * C + j) = l at *
          clear u0 u1 r0 r1 u3 u4 x6
          go_wp2
          go_region_law
            ((refine step_appendI 25 Try.underlying25 (by rfl) _ _ (by rfl) (by rfl) ((hown.alloc _).drew) ((t : Int) * (C : Int) + ((j : Int) + (t : Int) * (S : Int)) % (C : Int)) ⟨wr.heap.size, 0, none⟩ 1 (by rfl) (World.news_of_block (cs := #[.int .i64 ((t : Int) * (C : Int) + ((j : Int) + (t : Int) * (S : Int)) % (C : Int))]) (t := 2) (fr := (0, 0)) (heap_alloc_new wr _)) HLL.out (by simp; omega) ?_; intro g cap w1 hown1 hb1 hat))
          all_goals
            have HF1 := Lib.hid (And.intro hown1 hb1); clear hown1 hb1 hat
            clear x1 x2 x3 x4 x5 x7 y1 y2 y7 y3 y4
            go_wp2
            go_roundw
            case rel => exact ⟨j + 1, by omega, by go_num, by rw [HS.out]; simpa using HF1.out.1, hb.trans (((Below.refl _ _).alloc hzb _).drew.trans HF1.out.2)⟩
            case measure => simp [intOf]; omega
        · have e2 : ¬ (j : Int) < (C : Int) := by omega
          obtain rfl : j = C := by omega
          go_wp2
          go_roundw
          case rel => exact ⟨t + 1, by omega, by go_num, by rw [Nat.add_mul, Nat.one_mul]; exact hown, hb⟩
          case measure => simp [intOf]; omega
    · have e1 : ¬ (t : Int) < (T : Int) := by omega
      obtain rfl : t = T := by omega
      rw [← HNN.out.1] at hown'
      have hf := OrdRes.of (w := w) (l := ordL C S N) (fun e => by have := ordL_len C S N; rw [e] at this; simp at this; have := HNN.out.2; omega) (by have h := hown'; unfold OwnI at h; exact h) hb'
      have HF := Lib.hid hf; clear hf hown' hb'
      go_wp2
      go_ret
      exact HF.out
end Go.Proofs.Ytjnabncfkogigaa
