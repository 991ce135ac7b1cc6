/- (impl.deviceShape).order: the iterator's contract. Made by mk_ordit.py. -/
import Derived.RangeFuncNested
import Derived.RangeFuncBound
import Derived.RangeFuncCalls
import Derived.RangeFuncLeaves
import Derived.RangeFuncBox
import Derived.RangeFuncWrites
import Derived.Shelf.Abstract
import Derived.WalkKit
import Derived.OwnWalkIn
import Derived.TacticsInMore
import Derived.LoopNIn
import Derived.LoopIn
import Derived.OrdersIn
import Derived.Test.YtllcbiafghhcmaaPkFnDeviceOrderOrdVal
namespace Go.Proofs.Ytllcbiafghhcmaa
open Go.RowKit
open Go.Shelf
set_option linter.unusedVariables false
attribute [local go_sem] Oper.semAt_some
set_option maxRecDepth 100000 in
set_option maxHeartbeats 8000000 in
theorem order1_in (n l Bs : Nat) (a b d sp : Int) (T C S N : Nat) (hg : geoB a b (C : Int) d = true) (hT : a * b = (T : Int)) (hN : N = T * C) (hS : S ≤ 7) (J Jx : List (Fin N) → World → Prop)
    (hY : ∀ pre x W, J pre W → pre.length < N → YieldAt Fence.wide (n - 1) Try.prog l (ordEnc C S x) W fun e W' =>
      (e = .returned (.bool true) ∧ J (pre ++ [x]) W' ∧ KBo Bs W W') ∨ (e = .returned (.bool false) ∧ Jx (pre ++ [x]) W'))
    (W : World) (hJ : AbidesFrom W.heap.size J) (hBs : W.heap[Bs]? = some (.cells #[.int .i64 a, .int .i64 b, .int .i64 (C : Int), .int .i64 d, .int .i64 (S : Int), .int .i64 sp] 72 (0, 0))) (h0 : J [] W) :
    CallsIn Fence.wide n Try.prog 71 #[.func (.yield l) #[] #[], .pointer (some ⟨Bs, 0, none⟩)] W fun e W' => (∃ v, e = .returned v) ∧
      ((∃ ys, ys = rndsO N N ∧ J ys W') ∨ (∃ pre, (∃ k, k ≤ N ∧ pre = rndsO N k) ∧ Jx pre W')) := by
  obtain ⟨g0, g1, g2, g3⟩ := geoB_iff.1 hg
  have hm := mul_bound g0 g1 g2
  rw [hT] at hm
  have hT16 : T ≤ 16 := by omega
  have hC8 : 1 ≤ C ∧ C ≤ 8 := by omega
  have TR := Lib.hid (fun w => tracks_any a b (C : Int) d w g0 g1)
  rw [hT] at TR
  have HBX := Lib.hid hBs
  have hBlt : Bs < W.heap.size := (Array.getElem?_eq_some_iff.1 hBs).1
  have cellOf := Lib.hid (fun w' (hk : KBo Bs W w') => (show w'.cell? ⟨Bs, 0, none⟩ = some (.int .i64 a) ∧ w'.cell? ⟨Bs, 1, none⟩ = some (.int .i64 b) ∧ w'.cell? ⟨Bs, 2, none⟩ = some (.int .i64 (C : Int)) ∧ w'.cell? ⟨Bs, 3, none⟩ = some (.int .i64 d) ∧ w'.cell? ⟨Bs, 4, none⟩ = some (.int .i64 (S : Int)) ∧ Bs < w'.heap.size from by
    have h := Eq.trans (show w'.heap[Bs]? = W.heap[Bs]? from hk) HBX.out
    refine ⟨?_, ?_, ?_, ?_, ?_, (Array.getElem?_eq_some_iff.1 h).1⟩ <;> simp [World.cell?, h]))
  have HNN := Lib.hid hN
  obtain ⟨c0, c1, c2, c3, c4, _⟩ := cellOf.out W rfl
  have HJJ := Lib.hid hJ
  have HJ0 := Lib.hid h0
  clear hg hT g0 g1 g2 g3 hm hBs hN hJ h0
  refine callsIn_of_wp Try.func71 rfl trivial ?_ rfl
  simp only [Try.ntmps71, List.size_toArray, List.length_cons, List.length_nil, Nat.reduceAdd, Nat.reduceSub, Array.replicate_succ, Array.replicate_zero, List.push_toArray, List.append_toArray, List.nil_append, List.cons_append]
  gi_wp2_with fail
  refine ⟨trivial, (fun h => absurd h (by decide)), (callsIn_wide.2 (TR.out _)).mono ?_⟩
  rintro e w1 ⟨rfl, hb1⟩
  have HJ1 := Lib.hid (HJJ.out _ _ w1 none HJ0.out ⟨hb1.os, hb1.tape, hb1.output, hb1.size, fun k hk _ => hb1.block k hk⟩ (fun r e => by cases e))
  have hkb1 : KBo Bs W w1 := hb1.block Bs hBlt
  clear hb1 c0 c1 c2 c3 c4
  gi_wp2
  gi_loopw [8] (fun i wr => ∃ t : Nat, t ≤ T ∧ i = .int .i64 (t : Int) ∧ Hid (J (rndsO N (t * C)) wr) ∧ KBo Bs W wr)
    (fun i _ => T - (intOf i).toNat)
  case atStart => exact ⟨0, Nat.zero_le _, rfl, by rw [Nat.zero_mul]; exact HJ1, hkb1⟩
  case round =>
    obtain ⟨t, ht, rfl, hJs, hkb⟩ := hrel
    by_cases hlt : t < T
    · have e1 : (t : Int) < (T : Int) := by omega
      obtain ⟨c0, c1, c2, c3, c4, hBr⟩ := cellOf.out wr hkb
      have hJ2 := HJJ
      have HKBo := Lib.hid hkb; clear hkb
      have htC : t * C + C ≤ N := by rw [HNN.out]; have := Nat.mul_le_mul_right C (show t + 1 ≤ T from hlt); rw [Nat.add_mul, Nat.one_mul] at this; exact this
      have HtC := Lib.hid htC; clear htC
      obtain ⟨wo, hwo⟩ : ∃ W, wr = W := ⟨_, rfl⟩
      subst hwo
      gi_wp2
      gi_loopw [14] (fun i wr => ∃ j : Nat, j ≤ C ∧ i = .int .i64 (j : Int) ∧ Hid (J (rndsO N (t * C + j)) wr) ∧ KBo Bs W wr ∧ Hid (AbidesFrom W.heap.size J) ∧ True)
        (fun i _ => C - (intOf i).toNat)
      case atStart => exact ⟨0, Nat.zero_le _, rfl, hJs, HKBo.out, HJJ, trivial⟩
      case round =>
        clear c0 c1 c2 c3 c4 hJs hBr
        obtain ⟨j, hj, rfl, HJ, hkb, hJ2, _⟩ := hrel
        by_cases hltj : j < C
        · have e2 : (j : Int) < (C : Int) := by omega
          obtain ⟨c0, c1, c2, c3, c4, hBr⟩ := cellOf.out wr hkb
          have hlt2 : t * C + j < N := by have := HtC.out; omega
          have cz : ¬ (C : Int) = 0 := by omega
          have cz2 : ((C : Int) == 0) = false := by simp; omega
          have HKB := Lib.hid hkb; clear hkb
          obtain ⟨x1, x2, x3, x4, x5, x6, x7, u0, u1, r0, r1⟩ := ord_facts hltj hT16 hlt hC8 hS
          have hoe := Lib.hid x6
          have IX := Lib.hid (fun w => index_any a b (C : Int) d (t : Int) (((j : Int) + (t : Int) * (S : Int)) % (C : Int)) w x3 x4)
          have y1 : IntKind.i64.wrap ((t : Int) * (S : Int)) = (t : Int) * (S : Int) := wrap_small _ u0 (by clear x1 x2 x3 x4 x5 x6 x7; omega)
          have y2 : IntKind.i64.wrap ((j : Int) + (t : Int) * (S : Int)) = (j : Int) + (t : Int) * (S : Int) := wrap_small _ (by clear x1 x2 x3 x4 x5 x6 x7 y1; omega) (by clear x1 x2 x3 x4 x5 x6 x7 y1; omega)
          have y7 : IntKind.i64.wrap (((j : Int) + (t : Int) * (S : Int)) % (C : Int)) = ((j : Int) + (t : Int) * (S : Int)) % (C : Int) := wrap_small _ r0 (by clear x1 x2 x3 x4 x5 x6 x7 y1 y2; omega)
          have cz3 : ¬ C = 0 := by omega
          clear x3 x4 x6
          gi_wp2
          refine wpIn_region_any (by kernel_rfl) ?_
          try (change wpAnyIn _ _ _ _ _ _ _ _ _ (World.drew _))
          refine wpAnyIn_take (i := 0) (oi := { dst := some 17, op := Op.move (Operand.tmp 0), type := 90, pos := "l15_blocks.go:80", after := #[], guard := none }) (v := ?_) rfl rfl (by kernel_rfl) (by kernel_rfl) (by kernel_rfl) (fun _ _ _ h => h) ⟨Or.inl ⟨by rfl, ?hy⟩, fun _ => rfl⟩ ?_
          case hy => (intro w'; go_simp; try with_reducible rfl)
          simp only [Act.put, List.setIfInBounds_toArray, List.set_cons_zero, List.set_cons_succ]
          refine wpAnyIn_take (i := 1) (oi := { dst := some 18, op := Op.fieldAddr 72 (Operand.tmp 1) 0, type := 0, pos := "l15_blocks.go:80", after := #[], guard := none }) (v := ?_) rfl rfl (by kernel_rfl) (by kernel_rfl) (by kernel_rfl) (fun _ _ _ h => h) ⟨Or.inl ⟨by rfl, ?hy⟩, fun _ => rfl⟩ ?_
          case hy => (intro w'; go_simp; try with_reducible rfl)
          simp only [Act.put, List.setIfInBounds_toArray, List.set_cons_zero, List.set_cons_succ]
          refine wpAnyIn_take (i := 3) (oi := { dst := some 20, op := Op.move (Operand.tmp 3), type := 2, pos := "l15_blocks.go:80", after := #[], guard := none }) (v := ?_) rfl rfl (by kernel_rfl) (by kernel_rfl) (by kernel_rfl) (fun _ _ _ h => h) ⟨Or.inl ⟨by rfl, ?hy⟩, fun _ => rfl⟩ ?_
          case hy => (intro w'; go_simp; try with_reducible rfl)
          simp only [Act.put, List.setIfInBounds_toArray, List.set_cons_zero, List.set_cons_succ]
          refine wpAnyIn_take (i := 4) (oi := { dst := some 21, op := Op.move (Operand.tmp 4), type := 2, pos := "l15_blocks.go:80", after := #[], guard := none }) (v := ?_) rfl rfl (by kernel_rfl) (by kernel_rfl) (by kernel_rfl) (fun _ _ _ h => h) ⟨Or.inl ⟨by rfl, ?hy⟩, fun _ => rfl⟩ ?_
          case hy => (intro w'; go_simp; try with_reducible rfl)
          simp only [Act.put, List.setIfInBounds_toArray, List.set_cons_zero, List.set_cons_succ]
          refine wpAnyIn_take (i := 5) (oi := { dst := some 22, op := Op.move (Operand.tmp 3), type := 2, pos := "l15_blocks.go:80", after := #[], guard := none }) (v := ?_) rfl rfl (by kernel_rfl) (by kernel_rfl) (by kernel_rfl) (fun _ _ _ h => h) ⟨Or.inl ⟨by rfl, ?hy⟩, fun _ => rfl⟩ ?_
          case hy => (intro w'; go_simp; try with_reducible rfl)
          simp only [Act.put, List.setIfInBounds_toArray, List.set_cons_zero, List.set_cons_succ]
          refine wpAnyIn_take (i := 6) (oi := { dst := some 23, op := Op.fieldAddr 72 (Operand.tmp 1) 1, type := 0, pos := "l15_blocks.go:80", after := #[], guard := none }) (v := ?_) rfl rfl (by kernel_rfl) (by kernel_rfl) (by kernel_rfl) (fun _ _ _ h => h) ⟨Or.inl ⟨by rfl, ?hy⟩, fun _ => rfl⟩ ?_
          case hy => (intro w'; go_simp; try with_reducible rfl)
          simp only [Act.put, List.setIfInBounds_toArray, List.set_cons_zero, List.set_cons_succ]
          refine wpAnyIn_take (i := 10) (oi := { dst := some 27, op := Op.fieldAddr 72 (Operand.tmp 1) 0, type := 0, pos := "l15_blocks.go:80", after := #[], guard := none }) (v := ?_) rfl rfl (by kernel_rfl) (by kernel_rfl) (by kernel_rfl) (fun _ _ _ h => h) ⟨Or.inl ⟨by rfl, ?hy⟩, fun _ => rfl⟩ ?_
          case hy => (intro w'; go_simp; try with_reducible rfl)
          simp only [Act.put, List.setIfInBounds_toArray, List.set_cons_zero, List.set_cons_succ]
          refine wpAnyIn_take (i := 11) (oi := { dst := some 28, op := Op.fieldAddr 70 (Operand.tmp 27) 2, type := 0, pos := "l15_blocks.go:80", after := #[{ on := 10, ground := Ground.data }], guard := none }) (v := ?_) rfl rfl (by kernel_rfl) (by kernel_rfl) (by kernel_rfl) (fun _ _ _ h => h) ⟨Or.inl ⟨by rfl, ?hy⟩, fun _ => rfl⟩ ?_
          case hy => (intro w'; go_simp; try with_reducible rfl)
          simp only [Act.put, List.setIfInBounds_toArray, List.set_cons_zero, List.set_cons_succ]
          refine wpAnyIn_ready (rs := [2, 7, 12]) (by kernel_rfl) (by simp) ?_
          refine AllReadyIn.cons (o := { dst := some 19, op := Op.load 70 (Operand.tmp 18), type := 70, pos := "l15_blocks.go:80", after := #[{ on := 1, ground := Ground.data }], guard := none }) rfl (fun K hK => ?_) (AllReadyIn.cons (o := { dst := some 24, op := Op.load 2 (Operand.tmp 23), type := 2, pos := "l15_blocks.go:80", after := #[{ on := 6, ground := Ground.data }], guard := none }) rfl (fun K hK => ?_) (AllReadyIn.cons (o := { dst := some 29, op := Op.load 2 (Operand.tmp 28), type := 2, pos := "l15_blocks.go:80", after := #[{ on := 11, ground := Ground.data }], guard := none }) rfl (fun K hK => ?_) AllReadyIn.nil))
          · go_simp
            refine hK _ _ ?_
            clear hK K
            try simp only [Act.put, List.setIfInBounds_toArray, List.set_cons_zero, List.set_cons_succ]
            refine wpAnyIn_ready (rs := [7, 12]) (by kernel_rfl) (by simp) ?_
            refine AllReadyIn.cons (o := { dst := some 24, op := Op.load 2 (Operand.tmp 23), type := 2, pos := "l15_blocks.go:80", after := #[{ on := 6, ground := Ground.data }], guard := none }) rfl (fun K hK => ?_) (AllReadyIn.cons (o := { dst := some 29, op := Op.load 2 (Operand.tmp 28), type := 2, pos := "l15_blocks.go:80", after := #[{ on := 11, ground := Ground.data }], guard := none }) rfl (fun K hK => ?_) AllReadyIn.nil)
            · go_simp
              refine hK _ _ ?_
              clear hK K
              try simp only [Act.put, List.setIfInBounds_toArray, List.set_cons_zero, List.set_cons_succ]
              refine wpAnyIn_take (i := 8) (oi := { dst := some 25, op := Op.binOp BinOp.mul 2 (Operand.tmp 22) (Operand.tmp 24) 2, type := 2, pos := "l15_blocks.go:80", after := #[{ on := 5, ground := Ground.data }, { on := 7, ground := Ground.data }], guard := none }) (v := ?_) rfl rfl (by kernel_rfl) (by kernel_rfl) (by kernel_rfl) (fun _ _ _ h => h) ⟨Or.inl ⟨by rfl, ?hy⟩, fun _ => rfl⟩ ?_
              case hy => (intro w'; go_simp; try with_reducible rfl)
              simp only [Act.put, List.setIfInBounds_toArray, List.set_cons_zero, List.set_cons_succ]
              refine wpAnyIn_take (i := 9) (oi := { dst := some 26, op := Op.binOp BinOp.add 2 (Operand.tmp 21) (Operand.tmp 25) 2, type := 2, pos := "l15_blocks.go:80", after := #[{ on := 4, ground := Ground.data }, { on := 8, ground := Ground.data }], guard := none }) (v := ?_) rfl rfl (by kernel_rfl) (by kernel_rfl) (by kernel_rfl) (fun _ _ _ h => h) ⟨Or.inl ⟨by rfl, ?hy⟩, fun _ => rfl⟩ ?_
              case hy => (intro w'; go_simp; try with_reducible rfl)
              simp only [Act.put, List.setIfInBounds_toArray, List.set_cons_zero, List.set_cons_succ]
              refine wpAnyIn_ready (rs := [12]) (by kernel_rfl) (by simp) ?_
              refine AllReadyIn.cons (o := { dst := some 29, op := Op.load 2 (Operand.tmp 28), type := 2, pos := "l15_blocks.go:80", after := #[{ on := 11, ground := Ground.data }], guard := none }) rfl (fun K hK => ?_) AllReadyIn.nil
              go_simp
              refine hK _ _ ?_
              clear hK K
              try simp only [Act.put, List.setIfInBounds_toArray, List.set_cons_zero, List.set_cons_succ]
              refine wpAnyIn_take (i := 13) (oi := { dst := some 30, op := Op.binOp BinOp.rem 2 (Operand.tmp 26) (Operand.tmp 29) 2, type := 2, pos := "l15_blocks.go:80", after := #[{ on := 9, ground := Ground.data }, { on := 12, ground := Ground.data }], guard := none }) (v := ?_) rfl rfl (by kernel_rfl) (by kernel_rfl) (by kernel_rfl) (fun _ _ _ h => h) ⟨Or.inl ⟨by rfl, ?hy⟩, fun _ => rfl⟩ ?_
              case hy => (intro w'; go_simp; try with_reducible rfl)
              simp only [Act.put, List.setIfInBounds_toArray, List.set_cons_zero, List.set_cons_succ]
              refine wpAnyIn_ready (rs := [14]) (by kernel_rfl) (by simp) ?_
              refine AllReadyIn.cons (o := { dst := some 31, op := Op.call { callee := Callee.value (Operand.func 54), args := #[Operand.tmp 19, Operand.tmp 20, Operand.tmp 30], argTypes := #[70, 2, 2] }, type := 2, pos := "l15_blocks.go:80", after := #[{ on := 2, ground := Ground.data }, { on := 3, ground := Ground.data }, { on := 13, ground := Ground.data }], guard := none }) rfl (fun K hK => ?_) AllReadyIn.nil
              go_simp
              refine ⟨trivial, (fun h => absurd h (by decide)), (callsIn_wide.2 (IX.out _)).mono ?_⟩
              rintro e w3 ⟨rfl, hb3⟩
              have HJ3 := Lib.hid (hJ2.out _ _ w3 none HJ.out ⟨hb3.os, hb3.tape, hb3.output, hb3.size, fun k hk _ => hb3.block k hk⟩ (fun r e => by cases e))
              have HKB3 := Lib.hid (KBo.trans HKB.out (hb3.block Bs (by rw [show (wr.drew).heap.size = wr.heap.size from rfl]; exact hBr)))
              clear hb3
              obtain ⟨fn, tmps, assign, body, hy, hR⟩ := hY _ ⟨t * C + j, hlt2⟩ w3 HJ3.out (by rw [rndsO_length (Nat.le_of_lt hlt2)]; exact hlt2)
              dsimp only [ordEnc] at hy
              rw [hoe.out] at hy
              refine hK _ _ ?_
              clear hK K
              try simp only [Act.put, List.setIfInBounds_toArray, List.set_cons_zero, List.set_cons_succ]
              refine wpAnyIn_ready (rs := [15]) (by kernel_rfl) (by simp) ?_
              refine AllReadyIn.cons (o := { dst := some 32, op := Op.call { callee := Callee.value (Operand.tmp 17), args := #[Operand.tmp 31], argTypes := #[2] }, type := 4, pos := "l15_blocks.go:80", after := #[{ on := 0, ground := Ground.data }, { on := 14, ground := Ground.data }, { on := 14, ground := Ground.chain }], guard := none }) rfl (fun K hK => ?_) AllReadyIn.nil
              go_simp
              refine ⟨(fun h => absurd h (by decide)), hR.mono ?_⟩
              rintro e W3 (⟨rfl, hJ4, hk4⟩ | ⟨rfl, hJx3⟩)
              · refine hK _ _ ?_
                clear hK K
                try simp only [Act.put, List.setIfInBounds_toArray, List.set_cons_zero, List.set_cons_succ]
                refine wpAnyIn_take (i := 16) (oi := { dst := some 33, op := Op.unOp UnOp.not 4 (Operand.tmp 32), type := 4, pos := "l15_blocks.go:80", after := #[{ on := 15, ground := Ground.data }], guard := none }) (v := ?_) rfl rfl (by kernel_rfl) (by kernel_rfl) (by kernel_rfl) (fun _ _ _ h => h) ⟨Or.inl ⟨by rfl, ?hy⟩, fun _ => rfl⟩ ?_
                case hy => (intro w'; go_simp; try with_reducible rfl)
                simp only [Act.put, List.setIfInBounds_toArray, List.set_cons_zero, List.set_cons_succ]
                refine wpAnyIn_done (by kernel_rfl) ?_ _
                have HJ4 := Lib.hid hJ4; have hkb4 := KBo.trans HKB3.out hk4; clear hJ4 hk4 hoe
                clear x1 x2 x5 x7 y1 y2 y7 u0 u1 r0 r1 hy
                gi_wp2
                go_roundw
                case rel => exact ⟨j + 1, by omega, by go_num, Lib.hid (by rw [show t * C + (j + 1) = t * C + j + 1 by omega, rndsO_succ hlt2]; exact HJ4.out), hkb4, hJ2, trivial⟩
                case measure => simp [intOf] <;> omega
              · refine hK _ _ ?_
                clear hK K
                try simp only [Act.put, List.setIfInBounds_toArray, List.set_cons_zero, List.set_cons_succ]
                refine wpAnyIn_take (i := 16) (oi := { dst := some 33, op := Op.unOp UnOp.not 4 (Operand.tmp 32), type := 4, pos := "l15_blocks.go:80", after := #[{ on := 15, ground := Ground.data }], guard := none }) (v := ?_) rfl rfl (by kernel_rfl) (by kernel_rfl) (by kernel_rfl) (fun _ _ _ h => h) ⟨Or.inl ⟨by rfl, ?hy⟩, fun _ => rfl⟩ ?_
                case hy => (intro w'; go_simp; try with_reducible rfl)
                simp only [Act.put, List.setIfInBounds_toArray, List.set_cons_zero, List.set_cons_succ]
                refine wpAnyIn_done (by kernel_rfl) ?_ _
                clear x1 x2 x5 x7 y1 y2 y7 u0 u1 r0 r1 hy
                gi_wp2
                refine bodyPost_ret (results_none rfl _ _ _) rfl ?_
                exact ⟨⟨_, rfl⟩, .inr ⟨_, ⟨t * C + j + 1, hlt2, by rw [rndsO_succ hlt2]⟩, hJx3⟩⟩
            · go_simp
              refine hK _ _ ?_
              clear hK K
              try simp only [Act.put, List.setIfInBounds_toArray, List.set_cons_zero, List.set_cons_succ]
              refine wpAnyIn_ready (rs := [7]) (by kernel_rfl) (by simp) ?_
              refine AllReadyIn.cons (o := { dst := some 24, op := Op.load 2 (Operand.tmp 23), type := 2, pos := "l15_blocks.go:80", after := #[{ on := 6, ground := Ground.data }], guard := none }) rfl (fun K hK => ?_) AllReadyIn.nil
              go_simp
              refine hK _ _ ?_
              clear hK K
              try simp only [Act.put, List.setIfInBounds_toArray, List.set_cons_zero, List.set_cons_succ]
              refine wpAnyIn_take (i := 8) (oi := { dst := some 25, op := Op.binOp BinOp.mul 2 (Operand.tmp 22) (Operand.tmp 24) 2, type := 2, pos := "l15_blocks.go:80", after := #[{ on := 5, ground := Ground.data }, { on := 7, ground := Ground.data }], guard := none }) (v := ?_) rfl rfl (by kernel_rfl) (by kernel_rfl) (by kernel_rfl) (fun _ _ _ h => h) ⟨Or.inl ⟨by rfl, ?hy⟩, fun _ => rfl⟩ ?_
              case hy => (intro w'; go_simp; try with_reducible rfl)
              simp only [Act.put, List.setIfInBounds_toArray, List.set_cons_zero, List.set_cons_succ]
              refine wpAnyIn_take (i := 9) (oi := { dst := some 26, op := Op.binOp BinOp.add 2 (Operand.tmp 21) (Operand.tmp 25) 2, type := 2, pos := "l15_blocks.go:80", after := #[{ on := 4, ground := Ground.data }, { on := 8, ground := Ground.data }], guard := none }) (v := ?_) rfl rfl (by kernel_rfl) (by kernel_rfl) (by kernel_rfl) (fun _ _ _ h => h) ⟨Or.inl ⟨by rfl, ?hy⟩, fun _ => rfl⟩ ?_
              case hy => (intro w'; go_simp; try with_reducible rfl)
              simp only [Act.put, List.setIfInBounds_toArray, List.set_cons_zero, List.set_cons_succ]
              refine wpAnyIn_take (i := 13) (oi := { dst := some 30, op := Op.binOp BinOp.rem 2 (Operand.tmp 26) (Operand.tmp 29) 2, type := 2, pos := "l15_blocks.go:80", after := #[{ on := 9, ground := Ground.data }, { on := 12, ground := Ground.data }], guard := none }) (v := ?_) rfl rfl (by kernel_rfl) (by kernel_rfl) (by kernel_rfl) (fun _ _ _ h => h) ⟨Or.inl ⟨by rfl, ?hy⟩, fun _ => rfl⟩ ?_
              case hy => (intro w'; go_simp; try with_reducible rfl)
              simp only [Act.put, List.setIfInBounds_toArray, List.set_cons_zero, List.set_cons_succ]
              refine wpAnyIn_ready (rs := [14]) (by kernel_rfl) (by simp) ?_
              refine AllReadyIn.cons (o := { dst := some 31, op := Op.call { callee := Callee.value (Operand.func 54), args := #[Operand.tmp 19, Operand.tmp 20, Operand.tmp 30], argTypes := #[70, 2, 2] }, type := 2, pos := "l15_blocks.go:80", after := #[{ on := 2, ground := Ground.data }, { on := 3, ground := Ground.data }, { on := 13, ground := Ground.data }], guard := none }) rfl (fun K hK => ?_) AllReadyIn.nil
              go_simp
              refine ⟨trivial, (fun h => absurd h (by decide)), (callsIn_wide.2 (IX.out _)).mono ?_⟩
              rintro e w3 ⟨rfl, hb3⟩
              have HJ3 := Lib.hid (hJ2.out _ _ w3 none HJ.out ⟨hb3.os, hb3.tape, hb3.output, hb3.size, fun k hk _ => hb3.block k hk⟩ (fun r e => by cases e))
              have HKB3 := Lib.hid (KBo.trans HKB.out (hb3.block Bs (by rw [show (wr.drew).heap.size = wr.heap.size from rfl]; exact hBr)))
              clear hb3
              obtain ⟨fn, tmps, assign, body, hy, hR⟩ := hY _ ⟨t * C + j, hlt2⟩ w3 HJ3.out (by rw [rndsO_length (Nat.le_of_lt hlt2)]; exact hlt2)
              dsimp only [ordEnc] at hy
              rw [hoe.out] at hy
              refine hK _ _ ?_
              clear hK K
              try simp only [Act.put, List.setIfInBounds_toArray, List.set_cons_zero, List.set_cons_succ]
              refine wpAnyIn_ready (rs := [15]) (by kernel_rfl) (by simp) ?_
              refine AllReadyIn.cons (o := { dst := some 32, op := Op.call { callee := Callee.value (Operand.tmp 17), args := #[Operand.tmp 31], argTypes := #[2] }, type := 4, pos := "l15_blocks.go:80", after := #[{ on := 0, ground := Ground.data }, { on := 14, ground := Ground.data }, { on := 14, ground := Ground.chain }], guard := none }) rfl (fun K hK => ?_) AllReadyIn.nil
              go_simp
              refine ⟨(fun h => absurd h (by decide)), hR.mono ?_⟩
              rintro e W3 (⟨rfl, hJ4, hk4⟩ | ⟨rfl, hJx3⟩)
              · refine hK _ _ ?_
                clear hK K
                try simp only [Act.put, List.setIfInBounds_toArray, List.set_cons_zero, List.set_cons_succ]
                refine wpAnyIn_take (i := 16) (oi := { dst := some 33, op := Op.unOp UnOp.not 4 (Operand.tmp 32), type := 4, pos := "l15_blocks.go:80", after := #[{ on := 15, ground := Ground.data }], guard := none }) (v := ?_) rfl rfl (by kernel_rfl) (by kernel_rfl) (by kernel_rfl) (fun _ _ _ h => h) ⟨Or.inl ⟨by rfl, ?hy⟩, fun _ => rfl⟩ ?_
                case hy => (intro w'; go_simp; try with_reducible rfl)
                simp only [Act.put, List.setIfInBounds_toArray, List.set_cons_zero, List.set_cons_succ]
                refine wpAnyIn_done (by kernel_rfl) ?_ _
                have HJ4 := Lib.hid hJ4; have hkb4 := KBo.trans HKB3.out hk4; clear hJ4 hk4 hoe
                clear x1 x2 x5 x7 y1 y2 y7 u0 u1 r0 r1 hy
                gi_wp2
                go_roundw
                case rel => exact ⟨j + 1, by omega, by go_num, Lib.hid (by rw [show t * C + (j + 1) = t * C + j + 1 by omega, rndsO_succ hlt2]; exact HJ4.out), hkb4, hJ2, trivial⟩
                case measure => simp [intOf] <;> omega
              · refine hK _ _ ?_
                clear hK K
                try simp only [Act.put, List.setIfInBounds_toArray, List.set_cons_zero, List.set_cons_succ]
                refine wpAnyIn_take (i := 16) (oi := { dst := some 33, op := Op.unOp UnOp.not 4 (Operand.tmp 32), type := 4, pos := "l15_blocks.go:80", after := #[{ on := 15, ground := Ground.data }], guard := none }) (v := ?_) rfl rfl (by kernel_rfl) (by kernel_rfl) (by kernel_rfl) (fun _ _ _ h => h) ⟨Or.inl ⟨by rfl, ?hy⟩, fun _ => rfl⟩ ?_
                case hy => (intro w'; go_simp; try with_reducible rfl)
                simp only [Act.put, List.setIfInBounds_toArray, List.set_cons_zero, List.set_cons_succ]
                refine wpAnyIn_done (by kernel_rfl) ?_ _
                clear x1 x2 x5 x7 y1 y2 y7 u0 u1 r0 r1 hy
                gi_wp2
                refine bodyPost_ret (results_none rfl _ _ _) rfl ?_
                exact ⟨⟨_, rfl⟩, .inr ⟨_, ⟨t * C + j + 1, hlt2, by rw [rndsO_succ hlt2]⟩, hJx3⟩⟩
          · go_simp
            refine hK _ _ ?_
            clear hK K
            try simp only [Act.put, List.setIfInBounds_toArray, List.set_cons_zero, List.set_cons_succ]
            refine wpAnyIn_take (i := 8) (oi := { dst := some 25, op := Op.binOp BinOp.mul 2 (Operand.tmp 22) (Operand.tmp 24) 2, type := 2, pos := "l15_blocks.go:80", after := #[{ on := 5, ground := Ground.data }, { on := 7, ground := Ground.data }], guard := none }) (v := ?_) rfl rfl (by kernel_rfl) (by kernel_rfl) (by kernel_rfl) (fun _ _ _ h => h) ⟨Or.inl ⟨by rfl, ?hy⟩, fun _ => rfl⟩ ?_
            case hy => (intro w'; go_simp; try with_reducible rfl)
            simp only [Act.put, List.setIfInBounds_toArray, List.set_cons_zero, List.set_cons_succ]
            refine wpAnyIn_take (i := 9) (oi := { dst := some 26, op := Op.binOp BinOp.add 2 (Operand.tmp 21) (Operand.tmp 25) 2, type := 2, pos := "l15_blocks.go:80", after := #[{ on := 4, ground := Ground.data }, { on := 8, ground := Ground.data }], guard := none }) (v := ?_) rfl rfl (by kernel_rfl) (by kernel_rfl) (by kernel_rfl) (fun _ _ _ h => h) ⟨Or.inl ⟨by rfl, ?hy⟩, fun _ => rfl⟩ ?_
            case hy => (intro w'; go_simp; try with_reducible rfl)
            simp only [Act.put, List.setIfInBounds_toArray, List.set_cons_zero, List.set_cons_succ]
            refine wpAnyIn_ready (rs := [2, 12]) (by kernel_rfl) (by simp) ?_
            refine AllReadyIn.cons (o := { dst := some 19, op := Op.load 70 (Operand.tmp 18), type := 70, pos := "l15_blocks.go:80", after := #[{ on := 1, ground := Ground.data }], guard := none }) rfl (fun K hK => ?_) (AllReadyIn.cons (o := { dst := some 29, op := Op.load 2 (Operand.tmp 28), type := 2, pos := "l15_blocks.go:80", after := #[{ on := 11, ground := Ground.data }], guard := none }) rfl (fun K hK => ?_) AllReadyIn.nil)
            · go_simp
              refine hK _ _ ?_
              clear hK K
              try simp only [Act.put, List.setIfInBounds_toArray, List.set_cons_zero, List.set_cons_succ]
              refine wpAnyIn_ready (rs := [12]) (by kernel_rfl) (by simp) ?_
              refine AllReadyIn.cons (o := { dst := some 29, op := Op.load 2 (Operand.tmp 28), type := 2, pos := "l15_blocks.go:80", after := #[{ on := 11, ground := Ground.data }], guard := none }) rfl (fun K hK => ?_) AllReadyIn.nil
              go_simp
              refine hK _ _ ?_
              clear hK K
              try simp only [Act.put, List.setIfInBounds_toArray, List.set_cons_zero, List.set_cons_succ]
              refine wpAnyIn_take (i := 13) (oi := { dst := some 30, op := Op.binOp BinOp.rem 2 (Operand.tmp 26) (Operand.tmp 29) 2, type := 2, pos := "l15_blocks.go:80", after := #[{ on := 9, ground := Ground.data }, { on := 12, ground := Ground.data }], guard := none }) (v := ?_) rfl rfl (by kernel_rfl) (by kernel_rfl) (by kernel_rfl) (fun _ _ _ h => h) ⟨Or.inl ⟨by rfl, ?hy⟩, fun _ => rfl⟩ ?_
              case hy => (intro w'; go_simp; try with_reducible rfl)
              simp only [Act.put, List.setIfInBounds_toArray, List.set_cons_zero, List.set_cons_succ]
              refine wpAnyIn_ready (rs := [14]) (by kernel_rfl) (by simp) ?_
              refine AllReadyIn.cons (o := { dst := some 31, op := Op.call { callee := Callee.value (Operand.func 54), args := #[Operand.tmp 19, Operand.tmp 20, Operand.tmp 30], argTypes := #[70, 2, 2] }, type := 2, pos := "l15_blocks.go:80", after := #[{ on := 2, ground := Ground.data }, { on := 3, ground := Ground.data }, { on := 13, ground := Ground.data }], guard := none }) rfl (fun K hK => ?_) AllReadyIn.nil
              go_simp
              refine ⟨trivial, (fun h => absurd h (by decide)), (callsIn_wide.2 (IX.out _)).mono ?_⟩
              rintro e w3 ⟨rfl, hb3⟩
              have HJ3 := Lib.hid (hJ2.out _ _ w3 none HJ.out ⟨hb3.os, hb3.tape, hb3.output, hb3.size, fun k hk _ => hb3.block k hk⟩ (fun r e => by cases e))
              have HKB3 := Lib.hid (KBo.trans HKB.out (hb3.block Bs (by rw [show (wr.drew).heap.size = wr.heap.size from rfl]; exact hBr)))
              clear hb3
              obtain ⟨fn, tmps, assign, body, hy, hR⟩ := hY _ ⟨t * C + j, hlt2⟩ w3 HJ3.out (by rw [rndsO_length (Nat.le_of_lt hlt2)]; exact hlt2)
              dsimp only [ordEnc] at hy
              rw [hoe.out] at hy
              refine hK _ _ ?_
              clear hK K
              try simp only [Act.put, List.setIfInBounds_toArray, List.set_cons_zero, List.set_cons_succ]
              refine wpAnyIn_ready (rs := [15]) (by kernel_rfl) (by simp) ?_
              refine AllReadyIn.cons (o := { dst := some 32, op := Op.call { callee := Callee.value (Operand.tmp 17), args := #[Operand.tmp 31], argTypes := #[2] }, type := 4, pos := "l15_blocks.go:80", after := #[{ on := 0, ground := Ground.data }, { on := 14, ground := Ground.data }, { on := 14, ground := Ground.chain }], guard := none }) rfl (fun K hK => ?_) AllReadyIn.nil
              go_simp
              refine ⟨(fun h => absurd h (by decide)), hR.mono ?_⟩
              rintro e W3 (⟨rfl, hJ4, hk4⟩ | ⟨rfl, hJx3⟩)
              · refine hK _ _ ?_
                clear hK K
                try simp only [Act.put, List.setIfInBounds_toArray, List.set_cons_zero, List.set_cons_succ]
                refine wpAnyIn_take (i := 16) (oi := { dst := some 33, op := Op.unOp UnOp.not 4 (Operand.tmp 32), type := 4, pos := "l15_blocks.go:80", after := #[{ on := 15, ground := Ground.data }], guard := none }) (v := ?_) rfl rfl (by kernel_rfl) (by kernel_rfl) (by kernel_rfl) (fun _ _ _ h => h) ⟨Or.inl ⟨by rfl, ?hy⟩, fun _ => rfl⟩ ?_
                case hy => (intro w'; go_simp; try with_reducible rfl)
                simp only [Act.put, List.setIfInBounds_toArray, List.set_cons_zero, List.set_cons_succ]
                refine wpAnyIn_done (by kernel_rfl) ?_ _
                have HJ4 := Lib.hid hJ4; have hkb4 := KBo.trans HKB3.out hk4; clear hJ4 hk4 hoe
                clear x1 x2 x5 x7 y1 y2 y7 u0 u1 r0 r1 hy
                gi_wp2
                go_roundw
                case rel => exact ⟨j + 1, by omega, by go_num, Lib.hid (by rw [show t * C + (j + 1) = t * C + j + 1 by omega, rndsO_succ hlt2]; exact HJ4.out), hkb4, hJ2, trivial⟩
                case measure => simp [intOf] <;> omega
              · refine hK _ _ ?_
                clear hK K
                try simp only [Act.put, List.setIfInBounds_toArray, List.set_cons_zero, List.set_cons_succ]
                refine wpAnyIn_take (i := 16) (oi := { dst := some 33, op := Op.unOp UnOp.not 4 (Operand.tmp 32), type := 4, pos := "l15_blocks.go:80", after := #[{ on := 15, ground := Ground.data }], guard := none }) (v := ?_) rfl rfl (by kernel_rfl) (by kernel_rfl) (by kernel_rfl) (fun _ _ _ h => h) ⟨Or.inl ⟨by rfl, ?hy⟩, fun _ => rfl⟩ ?_
                case hy => (intro w'; go_simp; try with_reducible rfl)
                simp only [Act.put, List.setIfInBounds_toArray, List.set_cons_zero, List.set_cons_succ]
                refine wpAnyIn_done (by kernel_rfl) ?_ _
                clear x1 x2 x5 x7 y1 y2 y7 u0 u1 r0 r1 hy
                gi_wp2
                refine bodyPost_ret (results_none rfl _ _ _) rfl ?_
                exact ⟨⟨_, rfl⟩, .inr ⟨_, ⟨t * C + j + 1, hlt2, by rw [rndsO_succ hlt2]⟩, hJx3⟩⟩
            · go_simp
              refine hK _ _ ?_
              clear hK K
              try simp only [Act.put, List.setIfInBounds_toArray, List.set_cons_zero, List.set_cons_succ]
              refine wpAnyIn_take (i := 13) (oi := { dst := some 30, op := Op.binOp BinOp.rem 2 (Operand.tmp 26) (Operand.tmp 29) 2, type := 2, pos := "l15_blocks.go:80", after := #[{ on := 9, ground := Ground.data }, { on := 12, ground := Ground.data }], guard := none }) (v := ?_) rfl rfl (by kernel_rfl) (by kernel_rfl) (by kernel_rfl) (fun _ _ _ h => h) ⟨Or.inl ⟨by rfl, ?hy⟩, fun _ => rfl⟩ ?_
              case hy => (intro w'; go_simp; try with_reducible rfl)
              simp only [Act.put, List.setIfInBounds_toArray, List.set_cons_zero, List.set_cons_succ]
              refine wpAnyIn_ready (rs := [2]) (by kernel_rfl) (by simp) ?_
              refine AllReadyIn.cons (o := { dst := some 19, op := Op.load 70 (Operand.tmp 18), type := 70, pos := "l15_blocks.go:80", after := #[{ on := 1, ground := Ground.data }], guard := none }) rfl (fun K hK => ?_) AllReadyIn.nil
              go_simp
              refine hK _ _ ?_
              clear hK K
              try simp only [Act.put, List.setIfInBounds_toArray, List.set_cons_zero, List.set_cons_succ]
              refine wpAnyIn_ready (rs := [14]) (by kernel_rfl) (by simp) ?_
              refine AllReadyIn.cons (o := { dst := some 31, op := Op.call { callee := Callee.value (Operand.func 54), args := #[Operand.tmp 19, Operand.tmp 20, Operand.tmp 30], argTypes := #[70, 2, 2] }, type := 2, pos := "l15_blocks.go:80", after := #[{ on := 2, ground := Ground.data }, { on := 3, ground := Ground.data }, { on := 13, ground := Ground.data }], guard := none }) rfl (fun K hK => ?_) AllReadyIn.nil
              go_simp
              refine ⟨trivial, (fun h => absurd h (by decide)), (callsIn_wide.2 (IX.out _)).mono ?_⟩
              rintro e w3 ⟨rfl, hb3⟩
              have HJ3 := Lib.hid (hJ2.out _ _ w3 none HJ.out ⟨hb3.os, hb3.tape, hb3.output, hb3.size, fun k hk _ => hb3.block k hk⟩ (fun r e => by cases e))
              have HKB3 := Lib.hid (KBo.trans HKB.out (hb3.block Bs (by rw [show (wr.drew).heap.size = wr.heap.size from rfl]; exact hBr)))
              clear hb3
              obtain ⟨fn, tmps, assign, body, hy, hR⟩ := hY _ ⟨t * C + j, hlt2⟩ w3 HJ3.out (by rw [rndsO_length (Nat.le_of_lt hlt2)]; exact hlt2)
              dsimp only [ordEnc] at hy
              rw [hoe.out] at hy
              refine hK _ _ ?_
              clear hK K
              try simp only [Act.put, List.setIfInBounds_toArray, List.set_cons_zero, List.set_cons_succ]
              refine wpAnyIn_ready (rs := [15]) (by kernel_rfl) (by simp) ?_
              refine AllReadyIn.cons (o := { dst := some 32, op := Op.call { callee := Callee.value (Operand.tmp 17), args := #[Operand.tmp 31], argTypes := #[2] }, type := 4, pos := "l15_blocks.go:80", after := #[{ on := 0, ground := Ground.data }, { on := 14, ground := Ground.data }, { on := 14, ground := Ground.chain }], guard := none }) rfl (fun K hK => ?_) AllReadyIn.nil
              go_simp
              refine ⟨(fun h => absurd h (by decide)), hR.mono ?_⟩
              rintro e W3 (⟨rfl, hJ4, hk4⟩ | ⟨rfl, hJx3⟩)
              · refine hK _ _ ?_
                clear hK K
                try simp only [Act.put, List.setIfInBounds_toArray, List.set_cons_zero, List.set_cons_succ]
                refine wpAnyIn_take (i := 16) (oi := { dst := some 33, op := Op.unOp UnOp.not 4 (Operand.tmp 32), type := 4, pos := "l15_blocks.go:80", after := #[{ on := 15, ground := Ground.data }], guard := none }) (v := ?_) rfl rfl (by kernel_rfl) (by kernel_rfl) (by kernel_rfl) (fun _ _ _ h => h) ⟨Or.inl ⟨by rfl, ?hy⟩, fun _ => rfl⟩ ?_
                case hy => (intro w'; go_simp; try with_reducible rfl)
                simp only [Act.put, List.setIfInBounds_toArray, List.set_cons_zero, List.set_cons_succ]
                refine wpAnyIn_done (by kernel_rfl) ?_ _
                have HJ4 := Lib.hid hJ4; have hkb4 := KBo.trans HKB3.out hk4; clear hJ4 hk4 hoe
                clear x1 x2 x5 x7 y1 y2 y7 u0 u1 r0 r1 hy
                gi_wp2
                go_roundw
                case rel => exact ⟨j + 1, by omega, by go_num, Lib.hid (by rw [show t * C + (j + 1) = t * C + j + 1 by omega, rndsO_succ hlt2]; exact HJ4.out), hkb4, hJ2, trivial⟩
                case measure => simp [intOf] <;> omega
              · refine hK _ _ ?_
                clear hK K
                try simp only [Act.put, List.setIfInBounds_toArray, List.set_cons_zero, List.set_cons_succ]
                refine wpAnyIn_take (i := 16) (oi := { dst := some 33, op := Op.unOp UnOp.not 4 (Operand.tmp 32), type := 4, pos := "l15_blocks.go:80", after := #[{ on := 15, ground := Ground.data }], guard := none }) (v := ?_) rfl rfl (by kernel_rfl) (by kernel_rfl) (by kernel_rfl) (fun _ _ _ h => h) ⟨Or.inl ⟨by rfl, ?hy⟩, fun _ => rfl⟩ ?_
                case hy => (intro w'; go_simp; try with_reducible rfl)
                simp only [Act.put, List.setIfInBounds_toArray, List.set_cons_zero, List.set_cons_succ]
                refine wpAnyIn_done (by kernel_rfl) ?_ _
                clear x1 x2 x5 x7 y1 y2 y7 u0 u1 r0 r1 hy
                gi_wp2
                refine bodyPost_ret (results_none rfl _ _ _) rfl ?_
                exact ⟨⟨_, rfl⟩, .inr ⟨_, ⟨t * C + j + 1, hlt2, by rw [rndsO_succ hlt2]⟩, hJx3⟩⟩
          · go_simp
            refine hK _ _ ?_
            clear hK K
            try simp only [Act.put, List.setIfInBounds_toArray, List.set_cons_zero, List.set_cons_succ]
            refine wpAnyIn_ready (rs := [2, 7]) (by kernel_rfl) (by simp) ?_
            refine AllReadyIn.cons (o := { dst := some 19, op := Op.load 70 (Operand.tmp 18), type := 70, pos := "l15_blocks.go:80", after := #[{ on := 1, ground := Ground.data }], guard := none }) rfl (fun K hK => ?_) (AllReadyIn.cons (o := { dst := some 24, op := Op.load 2 (Operand.tmp 23), type := 2, pos := "l15_blocks.go:80", after := #[{ on := 6, ground := Ground.data }], guard := none }) rfl (fun K hK => ?_) AllReadyIn.nil)
            · go_simp
              refine hK _ _ ?_
              clear hK K
              try simp only [Act.put, List.setIfInBounds_toArray, List.set_cons_zero, List.set_cons_succ]
              refine wpAnyIn_ready (rs := [7]) (by kernel_rfl) (by simp) ?_
              refine AllReadyIn.cons (o := { dst := some 24, op := Op.load 2 (Operand.tmp 23), type := 2, pos := "l15_blocks.go:80", after := #[{ on := 6, ground := Ground.data }], guard := none }) rfl (fun K hK => ?_) AllReadyIn.nil
              go_simp
              refine hK _ _ ?_
              clear hK K
              try simp only [Act.put, List.setIfInBounds_toArray, List.set_cons_zero, List.set_cons_succ]
              refine wpAnyIn_take (i := 8) (oi := { dst := some 25, op := Op.binOp BinOp.mul 2 (Operand.tmp 22) (Operand.tmp 24) 2, type := 2, pos := "l15_blocks.go:80", after := #[{ on := 5, ground := Ground.data }, { on := 7, ground := Ground.data }], guard := none }) (v := ?_) rfl rfl (by kernel_rfl) (by kernel_rfl) (by kernel_rfl) (fun _ _ _ h => h) ⟨Or.inl ⟨by rfl, ?hy⟩, fun _ => rfl⟩ ?_
              case hy => (intro w'; go_simp; try with_reducible rfl)
              simp only [Act.put, List.setIfInBounds_toArray, List.set_cons_zero, List.set_cons_succ]
              refine wpAnyIn_take (i := 9) (oi := { dst := some 26, op := Op.binOp BinOp.add 2 (Operand.tmp 21) (Operand.tmp 25) 2, type := 2, pos := "l15_blocks.go:80", after := #[{ on := 4, ground := Ground.data }, { on := 8, ground := Ground.data }], guard := none }) (v := ?_) rfl rfl (by kernel_rfl) (by kernel_rfl) (by kernel_rfl) (fun _ _ _ h => h) ⟨Or.inl ⟨by rfl, ?hy⟩, fun _ => rfl⟩ ?_
              case hy => (intro w'; go_simp; try with_reducible rfl)
              simp only [Act.put, List.setIfInBounds_toArray, List.set_cons_zero, List.set_cons_succ]
              refine wpAnyIn_take (i := 13) (oi := { dst := some 30, op := Op.binOp BinOp.rem 2 (Operand.tmp 26) (Operand.tmp 29) 2, type := 2, pos := "l15_blocks.go:80", after := #[{ on := 9, ground := Ground.data }, { on := 12, ground := Ground.data }], guard := none }) (v := ?_) rfl rfl (by kernel_rfl) (by kernel_rfl) (by kernel_rfl) (fun _ _ _ h => h) ⟨Or.inl ⟨by rfl, ?hy⟩, fun _ => rfl⟩ ?_
              case hy => (intro w'; go_simp; try with_reducible rfl)
              simp only [Act.put, List.setIfInBounds_toArray, List.set_cons_zero, List.set_cons_succ]
              refine wpAnyIn_ready (rs := [14]) (by kernel_rfl) (by simp) ?_
              refine AllReadyIn.cons (o := { dst := some 31, op := Op.call { callee := Callee.value (Operand.func 54), args := #[Operand.tmp 19, Operand.tmp 20, Operand.tmp 30], argTypes := #[70, 2, 2] }, type := 2, pos := "l15_blocks.go:80", after := #[{ on := 2, ground := Ground.data }, { on := 3, ground := Ground.data }, { on := 13, ground := Ground.data }], guard := none }) rfl (fun K hK => ?_) AllReadyIn.nil
              go_simp
              refine ⟨trivial, (fun h => absurd h (by decide)), (callsIn_wide.2 (IX.out _)).mono ?_⟩
              rintro e w3 ⟨rfl, hb3⟩
              have HJ3 := Lib.hid (hJ2.out _ _ w3 none HJ.out ⟨hb3.os, hb3.tape, hb3.output, hb3.size, fun k hk _ => hb3.block k hk⟩ (fun r e => by cases e))
              have HKB3 := Lib.hid (KBo.trans HKB.out (hb3.block Bs (by rw [show (wr.drew).heap.size = wr.heap.size from rfl]; exact hBr)))
              clear hb3
              obtain ⟨fn, tmps, assign, body, hy, hR⟩ := hY _ ⟨t * C + j, hlt2⟩ w3 HJ3.out (by rw [rndsO_length (Nat.le_of_lt hlt2)]; exact hlt2)
              dsimp only [ordEnc] at hy
              rw [hoe.out] at hy
              refine hK _ _ ?_
              clear hK K
              try simp only [Act.put, List.setIfInBounds_toArray, List.set_cons_zero, List.set_cons_succ]
              refine wpAnyIn_ready (rs := [15]) (by kernel_rfl) (by simp) ?_
              refine AllReadyIn.cons (o := { dst := some 32, op := Op.call { callee := Callee.value (Operand.tmp 17), args := #[Operand.tmp 31], argTypes := #[2] }, type := 4, pos := "l15_blocks.go:80", after := #[{ on := 0, ground := Ground.data }, { on := 14, ground := Ground.data }, { on := 14, ground := Ground.chain }], guard := none }) rfl (fun K hK => ?_) AllReadyIn.nil
              go_simp
              refine ⟨(fun h => absurd h (by decide)), hR.mono ?_⟩
              rintro e W3 (⟨rfl, hJ4, hk4⟩ | ⟨rfl, hJx3⟩)
              · refine hK _ _ ?_
                clear hK K
                try simp only [Act.put, List.setIfInBounds_toArray, List.set_cons_zero, List.set_cons_succ]
                refine wpAnyIn_take (i := 16) (oi := { dst := some 33, op := Op.unOp UnOp.not 4 (Operand.tmp 32), type := 4, pos := "l15_blocks.go:80", after := #[{ on := 15, ground := Ground.data }], guard := none }) (v := ?_) rfl rfl (by kernel_rfl) (by kernel_rfl) (by kernel_rfl) (fun _ _ _ h => h) ⟨Or.inl ⟨by rfl, ?hy⟩, fun _ => rfl⟩ ?_
                case hy => (intro w'; go_simp; try with_reducible rfl)
                simp only [Act.put, List.setIfInBounds_toArray, List.set_cons_zero, List.set_cons_succ]
                refine wpAnyIn_done (by kernel_rfl) ?_ _
                have HJ4 := Lib.hid hJ4; have hkb4 := KBo.trans HKB3.out hk4; clear hJ4 hk4 hoe
                clear x1 x2 x5 x7 y1 y2 y7 u0 u1 r0 r1 hy
                gi_wp2
                go_roundw
                case rel => exact ⟨j + 1, by omega, by go_num, Lib.hid (by rw [show t * C + (j + 1) = t * C + j + 1 by omega, rndsO_succ hlt2]; exact HJ4.out), hkb4, hJ2, trivial⟩
                case measure => simp [intOf] <;> omega
              · refine hK _ _ ?_
                clear hK K
                try simp only [Act.put, List.setIfInBounds_toArray, List.set_cons_zero, List.set_cons_succ]
                refine wpAnyIn_take (i := 16) (oi := { dst := some 33, op := Op.unOp UnOp.not 4 (Operand.tmp 32), type := 4, pos := "l15_blocks.go:80", after := #[{ on := 15, ground := Ground.data }], guard := none }) (v := ?_) rfl rfl (by kernel_rfl) (by kernel_rfl) (by kernel_rfl) (fun _ _ _ h => h) ⟨Or.inl ⟨by rfl, ?hy⟩, fun _ => rfl⟩ ?_
                case hy => (intro w'; go_simp; try with_reducible rfl)
                simp only [Act.put, List.setIfInBounds_toArray, List.set_cons_zero, List.set_cons_succ]
                refine wpAnyIn_done (by kernel_rfl) ?_ _
                clear x1 x2 x5 x7 y1 y2 y7 u0 u1 r0 r1 hy
                gi_wp2
                refine bodyPost_ret (results_none rfl _ _ _) rfl ?_
                exact ⟨⟨_, rfl⟩, .inr ⟨_, ⟨t * C + j + 1, hlt2, by rw [rndsO_succ hlt2]⟩, hJx3⟩⟩
            · go_simp
              refine hK _ _ ?_
              clear hK K
              try simp only [Act.put, List.setIfInBounds_toArray, List.set_cons_zero, List.set_cons_succ]
              refine wpAnyIn_take (i := 8) (oi := { dst := some 25, op := Op.binOp BinOp.mul 2 (Operand.tmp 22) (Operand.tmp 24) 2, type := 2, pos := "l15_blocks.go:80", after := #[{ on := 5, ground := Ground.data }, { on := 7, ground := Ground.data }], guard := none }) (v := ?_) rfl rfl (by kernel_rfl) (by kernel_rfl) (by kernel_rfl) (fun _ _ _ h => h) ⟨Or.inl ⟨by rfl, ?hy⟩, fun _ => rfl⟩ ?_
              case hy => (intro w'; go_simp; try with_reducible rfl)
              simp only [Act.put, List.setIfInBounds_toArray, List.set_cons_zero, List.set_cons_succ]
              refine wpAnyIn_take (i := 9) (oi := { dst := some 26, op := Op.binOp BinOp.add 2 (Operand.tmp 21) (Operand.tmp 25) 2, type := 2, pos := "l15_blocks.go:80", after := #[{ on := 4, ground := Ground.data }, { on := 8, ground := Ground.data }], guard := none }) (v := ?_) rfl rfl (by kernel_rfl) (by kernel_rfl) (by kernel_rfl) (fun _ _ _ h => h) ⟨Or.inl ⟨by rfl, ?hy⟩, fun _ => rfl⟩ ?_
              case hy => (intro w'; go_simp; try with_reducible rfl)
              simp only [Act.put, List.setIfInBounds_toArray, List.set_cons_zero, List.set_cons_succ]
              refine wpAnyIn_take (i := 13) (oi := { dst := some 30, op := Op.binOp BinOp.rem 2 (Operand.tmp 26) (Operand.tmp 29) 2, type := 2, pos := "l15_blocks.go:80", after := #[{ on := 9, ground := Ground.data }, { on := 12, ground := Ground.data }], guard := none }) (v := ?_) rfl rfl (by kernel_rfl) (by kernel_rfl) (by kernel_rfl) (fun _ _ _ h => h) ⟨Or.inl ⟨by rfl, ?hy⟩, fun _ => rfl⟩ ?_
              case hy => (intro w'; go_simp; try with_reducible rfl)
              simp only [Act.put, List.setIfInBounds_toArray, List.set_cons_zero, List.set_cons_succ]
              refine wpAnyIn_ready (rs := [2]) (by kernel_rfl) (by simp) ?_
              refine AllReadyIn.cons (o := { dst := some 19, op := Op.load 70 (Operand.tmp 18), type := 70, pos := "l15_blocks.go:80", after := #[{ on := 1, ground := Ground.data }], guard := none }) rfl (fun K hK => ?_) AllReadyIn.nil
              go_simp
              refine hK _ _ ?_
              clear hK K
              try simp only [Act.put, List.setIfInBounds_toArray, List.set_cons_zero, List.set_cons_succ]
              refine wpAnyIn_ready (rs := [14]) (by kernel_rfl) (by simp) ?_
              refine AllReadyIn.cons (o := { dst := some 31, op := Op.call { callee := Callee.value (Operand.func 54), args := #[Operand.tmp 19, Operand.tmp 20, Operand.tmp 30], argTypes := #[70, 2, 2] }, type := 2, pos := "l15_blocks.go:80", after := #[{ on := 2, ground := Ground.data }, { on := 3, ground := Ground.data }, { on := 13, ground := Ground.data }], guard := none }) rfl (fun K hK => ?_) AllReadyIn.nil
              go_simp
              refine ⟨trivial, (fun h => absurd h (by decide)), (callsIn_wide.2 (IX.out _)).mono ?_⟩
              rintro e w3 ⟨rfl, hb3⟩
              have HJ3 := Lib.hid (hJ2.out _ _ w3 none HJ.out ⟨hb3.os, hb3.tape, hb3.output, hb3.size, fun k hk _ => hb3.block k hk⟩ (fun r e => by cases e))
              have HKB3 := Lib.hid (KBo.trans HKB.out (hb3.block Bs (by rw [show (wr.drew).heap.size = wr.heap.size from rfl]; exact hBr)))
              clear hb3
              obtain ⟨fn, tmps, assign, body, hy, hR⟩ := hY _ ⟨t * C + j, hlt2⟩ w3 HJ3.out (by rw [rndsO_length (Nat.le_of_lt hlt2)]; exact hlt2)
              dsimp only [ordEnc] at hy
              rw [hoe.out] at hy
              refine hK _ _ ?_
              clear hK K
              try simp only [Act.put, List.setIfInBounds_toArray, List.set_cons_zero, List.set_cons_succ]
              refine wpAnyIn_ready (rs := [15]) (by kernel_rfl) (by simp) ?_
              refine AllReadyIn.cons (o := { dst := some 32, op := Op.call { callee := Callee.value (Operand.tmp 17), args := #[Operand.tmp 31], argTypes := #[2] }, type := 4, pos := "l15_blocks.go:80", after := #[{ on := 0, ground := Ground.data }, { on := 14, ground := Ground.data }, { on := 14, ground := Ground.chain }], guard := none }) rfl (fun K hK => ?_) AllReadyIn.nil
              go_simp
              refine ⟨(fun h => absurd h (by decide)), hR.mono ?_⟩
              rintro e W3 (⟨rfl, hJ4, hk4⟩ | ⟨rfl, hJx3⟩)
              · refine hK _ _ ?_
                clear hK K
                try simp only [Act.put, List.setIfInBounds_toArray, List.set_cons_zero, List.set_cons_succ]
                refine wpAnyIn_take (i := 16) (oi := { dst := some 33, op := Op.unOp UnOp.not 4 (Operand.tmp 32), type := 4, pos := "l15_blocks.go:80", after := #[{ on := 15, ground := Ground.data }], guard := none }) (v := ?_) rfl rfl (by kernel_rfl) (by kernel_rfl) (by kernel_rfl) (fun _ _ _ h => h) ⟨Or.inl ⟨by rfl, ?hy⟩, fun _ => rfl⟩ ?_
                case hy => (intro w'; go_simp; try with_reducible rfl)
                simp only [Act.put, List.setIfInBounds_toArray, List.set_cons_zero, List.set_cons_succ]
                refine wpAnyIn_done (by kernel_rfl) ?_ _
                have HJ4 := Lib.hid hJ4; have hkb4 := KBo.trans HKB3.out hk4; clear hJ4 hk4 hoe
                clear x1 x2 x5 x7 y1 y2 y7 u0 u1 r0 r1 hy
                gi_wp2
                go_roundw
                case rel => exact ⟨j + 1, by omega, by go_num, Lib.hid (by rw [show t * C + (j + 1) = t * C + j + 1 by omega, rndsO_succ hlt2]; exact HJ4.out), hkb4, hJ2, trivial⟩
                case measure => simp [intOf] <;> omega
              · refine hK _ _ ?_
                clear hK K
                try simp only [Act.put, List.setIfInBounds_toArray, List.set_cons_zero, List.set_cons_succ]
                refine wpAnyIn_take (i := 16) (oi := { dst := some 33, op := Op.unOp UnOp.not 4 (Operand.tmp 32), type := 4, pos := "l15_blocks.go:80", after := #[{ on := 15, ground := Ground.data }], guard := none }) (v := ?_) rfl rfl (by kernel_rfl) (by kernel_rfl) (by kernel_rfl) (fun _ _ _ h => h) ⟨Or.inl ⟨by rfl, ?hy⟩, fun _ => rfl⟩ ?_
                case hy => (intro w'; go_simp; try with_reducible rfl)
                simp only [Act.put, List.setIfInBounds_toArray, List.set_cons_zero, List.set_cons_succ]
                refine wpAnyIn_done (by kernel_rfl) ?_ _
                clear x1 x2 x5 x7 y1 y2 y7 u0 u1 r0 r1 hy
                gi_wp2
                refine bodyPost_ret (results_none rfl _ _ _) rfl ?_
                exact ⟨⟨_, rfl⟩, .inr ⟨_, ⟨t * C + j + 1, hlt2, by rw [rndsO_succ hlt2]⟩, hJx3⟩⟩
        · have e2 : ¬ (j : Int) < (C : Int) := by omega
          obtain rfl : j = C := by omega
          gi_wp2
          go_roundw
          case rel => exact ⟨t + 1, by omega, by go_num, by rw [Nat.add_mul, Nat.one_mul]; exact HJ, hkb⟩
          case measure => simp [intOf] <;> omega
    · have e1 : ¬ (t : Int) < (T : Int) := by omega
      obtain rfl : t = T := by omega
      gi_wp2
      go_end0
      have hfin : J (rndsO N N) wr := by have h := hJs.out; rw [← HNN.out] at h; exact h
      first | exact ⟨⟨_, rfl⟩, .inl ⟨_, rfl, hfin⟩⟩ | exact ⟨⟨_, rfl⟩, .inl hfin⟩
end Go.Proofs.Ytllcbiafghhcmaa
