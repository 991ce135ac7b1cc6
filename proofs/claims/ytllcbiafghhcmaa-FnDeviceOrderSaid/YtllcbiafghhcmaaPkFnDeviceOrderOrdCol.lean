/- (impl.deviceShape).order: as a value; slices.Collect over it. -/
import Derived.Test.YtllcbiafghhcmaaPkFnDeviceOrderOrdIt
import Derived.Maps.AppendAt
namespace Go.Proofs.Ytllcbiafghhcmaa
open Go.RowKit
open Go.Shelf
set_option linter.unusedVariables false
attribute [local go_sem] Oper.semAt_some
/-- The cells of a shape. -/
abbrev shC (a b d sp : Int) (C S : Nat) : Array Value := #[.int .i64 a, .int .i64 b, .int .i64 (C : Int), .int .i64 d, .int .i64 (S : Int), .int .i64 sp]
def cellsO (W : World) (g : Nat) (C : Array Value) (T : TypeId) : Prop := W.heap[g]? = some (.cells C T (0, 0))
theorem cellsO_own {β : Type} (C : Array Value) (g : Nat) (T : TypeId) : Own (fun (_ : β) W => cellsO W g C T) := fun s W W' row hs hg hr => (grownBy_keeps_cells hg hr hs rfl).trans hs
theorem row_keptO {W W' : World} {B : Nat} {cs : Array Value} {t e : TypeId} (h : W.heap[B]? = some (.cells cs t (0, 0))) (hte : t ≠ e) {base size k : Nat} {v : Value} {xs : List Value} (hr : W.ownsRow base e size v k xs) (hg : W.grownBy W' v.ownBlock) :
    W'.heap[B]? = some (.cells cs t (0, 0)) := by
  refine (hg.block B (Array.getElem?_eq_some_iff.1 h).1 ?_).trans h
  rcases hr.2 with ⟨rfl, _⟩ | ⟨g, cap, cur, rfl, _, hgb, _⟩
  · simp [Value.ownBlock]
  · intro e'
    obtain rfl : B = g := by simpa [Value.ownBlock] using e'
    have := h.symm.trans hgb
    simp at this
    exact hte this.2
theorem cells_appO {W w1 : World} {B b : Nat} {cs : Array Value} {t e : TypeId} {tmp : Obj} (h : cellsO W B cs t) (hte : t ≠ e) {base size k : Nat} {v : Value} {xs : List Value} (hr : W.ownsRow base e size v k xs)
    (hg : (W.alloc tmp).grownBy w1 v.ownBlock) (hb : B ≠ b) (v' : Value) : cellsO (w1.setCell ⟨b, 0, none⟩ v') B cs t := by
  have h0 : (W.alloc tmp).heap[B]? = some (.cells cs t (0, 0)) := by rw [Below.heap_alloc _ _ _ (Array.getElem?_eq_some_iff.1 h).1]; exact h
  have h1 := row_keptO h0 hte (hr.alloc tmp) hg
  unfold cellsO
  rw [Below.heap_setCell _ _ _ _ hb]; exact h1
theorem order_stops (n Bs : Nat) (a b d sp : Int) (T C S N : Nat) (hg : geoB a b (C : Int) d = true) (hT : a * b = (T : Int)) (hN : N = T * C) (hS : S ≤ 7) (w : World) (hBs : cellsO w Bs (shC a b d sp C S) 72) :
    SeqStopsK Fence.wide n Try.prog 71 #[.pointer (some ⟨Bs, 0, none⟩)] (ordEnc C S (N := N)) (KBo Bs) (fun ys => ys = rndsO N N)
      (fun pre => ∃ k, k ≤ N ∧ pre = rndsO N k) N w := fun l J Jx W hW hJ _ hY h0 =>
  order1_in n l Bs a b d sp T C S N hg hT hN hS J Jx hY W hJ (by rw [hW.block Bs (Array.getElem?_eq_some_iff.1 hBs).1]; exact hBs) h0
theorem kbo_obj {Bs : Nat} {w : World} (hlt : Bs < w.heap.size) (W : World) (l : Nat) (o o' : Obj) (hl : w.heap.size ≤ l) (_ : W.heap[l]? = some o) (_ : o.isCells = false) (_ : o.isWalk = false) : KBo Bs W (W.putObj l o') :=
  (grownBy_putObj' W l o').block Bs (by rename_i h _ _; have := (Array.getElem?_eq_some_iff.1 h).1; omega) (by simp; omega)
set_option maxHeartbeats 1000000 in
theorem order_any (a b d sp : Int) (C S : Nat) (w : World) :
    Calls Try.prog 36 #[.agg (shC a b d sp C S)] w fun e w' => e = .returned (.func (.func 71) #[] #[.pointer (some ⟨w.heap.size, 0, none⟩)]) ∧ w' = w.alloc (.cells (shC a b d sp C S) 72) := by
  go_enter Try.func36, Try.ntmps36
  go_wp2
  go_ret
  exact ⟨rfl, rfl⟩
def ordP (C S : Nat) {N : Nat} (pre : List (Fin N)) : List Int := pre.map fun x => ((ordAt C S x.val : Nat) : Int)
theorem ordP_snoc (C S : Nat) {N : Nat} (pre : List (Fin N)) (x : Fin N) : ordP C S (pre ++ [x]) = ordP C S pre ++ [((ordAt C S x.val : Nat) : Int)] := by simp [ordP]
theorem ordP_len (C S : Nat) {N : Nat} (pre : List (Fin N)) : (ordP C S pre).length = pre.length := by simp [ordP]
/-- A row of numbers that the call made, with room for them. -/
def OrdRes (l : List Int) (w : World) (e : Ending) (w' : World) : Prop := ∃ g cap, e = .returned (.slice (some ⟨g, 0, none⟩) l.length cap) ∧ l.length ≤ cap ∧ cap ≤ maxLen ∧ OwnBlkI w' w.heap.size g l ∧ Below w.heap.size w w'
theorem OrdRes.of {w w' : World} {v : Value} {l : List Int} (hne : l ≠ []) (h : w'.ownsRow w.heap.size 2 1 v l.length (l.map (Value.int .i64))) (hb : Below w.heap.size w w') : OrdRes l w (.returned v) w' := by
  obtain ⟨h1, h2⟩ := h
  rcases h2 with ⟨rfl, hl⟩ | ⟨g, cap, cur, rfl, hg, hh, hn, hm, hs, ht⟩
  · exact absurd (List.length_eq_zero_iff.1 hl) hne
  · refine ⟨g, cap, rfl, hn, hm, ⟨(cur.toList.drop l.length).toArray, hg, ?_⟩, hb⟩
    rw [hh]
    congr 2
    apply Array.ext'
    simp only [Array.toList_append]
    rw [Nat.mul_one] at ht
    rw [← ht]
    simp
set_option maxRecDepth 100000 in
set_option maxHeartbeats 4000000 in
theorem appendOrd_in (Bs : Nat) (a b d sp : Int) (T C S N : Nat) (hg : geoB a b (C : Int) d = true) (hT : a * b = (T : Int)) (hN : N = T * C) (hS : S ≤ 7) (h1 : 1 ≤ N) (h8 : N ≤ 128) (w : World) (hBs : cellsO w Bs (shC a b d sp C S) 72) :
    CallsIn Fence.wide 3 Try.prog 70 #[.slice none 0 0, .func (.func 71) #[] #[.pointer (some ⟨Bs, 0, none⟩)]] w (OrdRes (ordL C S N) w) := by
  have hlt := (Array.getElem?_eq_some_iff.1 hBs).1
  refine callsIn_of_wp_marks Try.func70 rfl trivial ?_ rfl
  simp only [Try.ntmps70, List.size_toArray, List.length_cons, List.length_nil, Nat.reduceAdd, Nat.reduceSub, Array.replicate_succ, Array.replicate_zero, List.push_toArray, List.append_toArray, List.nil_append, List.cons_append]
  gi_wp2
  obtain ⟨i0, hi, hz0, hz1, hz2⟩ := info_parts i64info
  have bO := Boxed.new w 29 (.slice none 0 0)
  have bN : cellsO (w.alloc (.cells #[.slice none 0 0] 29)) Bs (shC a b d sp C S) 72 := (Below.heap_alloc _ _ _ hlt).trans hBs
  have hB0 : Below w.heap.size w (w.alloc (.cells #[.slice none 0 0] 29)) := (Below.refl _ w).alloc (Nat.le_refl _) _
  have hszW : (w.alloc (.cells #[.slice none 0 0] 29)).heap.size = w.heap.size + 1 := World.size_alloc _ _
  generalize w.alloc (.cells #[.slice none 0 0] 29) = W0 at *
  have HBN := Lib.hid (And.intro h1 h8)
  refine wpIn_rangeFunc_ownG rfl (by decide) (gf := 71) (lb := #[.pointer (some ⟨Bs, 0, none⟩)]) rfl trivial (enters_of Try.func71 (by kernel_rfl) rfl)
    (order_stops 2 Bs a b d sp T C S N hg hT hN hS W0 bN) KBo.trans (kbo_obj (by omega)) (Below.refl _ _) (fun _ => rfl)
    (fun pre W => (∃ v, Boxed W w.heap.size 29 v ∧ W.ownsRow w.heap.size 2 1 v (ordP C S pre).length ((ordP C S pre).map (Value.int .i64)) ∧ True) ∧ cellsO W Bs (shC a b d sp C S) 72 ∧ Below w.heap.size w W)
    (fun _ _ _ => False)
    (OwnFrom.and (Own.from (holdsRow_own w.heap.size w.heap.size 29 2 1 (fun pre => (ordP C S pre).length) (fun pre => (ordP C S pre).map (Value.int .i64)) (fun _ _ => True)) _)
      (OwnFrom.and (Own.from (cellsO_own _ _ _) _) (ownFrom_below (Nat.le_refl _) (by omega))))
    (fun _ _ _ _ _ hs _ _ => hs)
    ⟨⟨_, bO, World.ownsRow_nil _ _ _ _, trivial⟩, bN, hB0⟩
    (fun x => { tmps := #[.slice none 0 0, .func (.func 71) #[] #[.pointer (some ⟨Bs, 0, none⟩)], .pointer (some ⟨w.heap.size, 0, none⟩), undef, .slice none 0 0, .int .i64 ((ordAt C S x.val : Nat) : Int), .func (.func 71) #[] #[.pointer (some ⟨Bs, 0, none⟩)], .int .i64 ((ordAt C S x.val : Nat) : Int), undef, undef, undef, undef, undef], defers := [] }) ?assign ?body ?done ?stop
  case assign =>
    intro l x W K hK
    dsimp only [ordEnc]
    gi_wp2
    exact hK
  case body =>
    rintro l pre x W ⟨⟨v, hv, hrow, -⟩, hN', hB⟩ hlt'
    have hxl := x.isLt
    have hpl : (ordP C S pre).length ≤ N := by rw [ordP_len]; omega
    have hc := hv.cell
    have HAN := Lib.hid hN'; clear hN'
    gi_wp2_with (gi_at_builtin; refine wpListIn_append_own _ rfl _ _ 29 rfl w.heap.size 2 i0 (.int .i64 0) 1 8 Try.underlying29 hi hz0 hz1 hz2 rfl (by decide) _ _ _ rfl (hrow.alloc _) ⟨W.heap.size, 0, none⟩ 1 1 [.int .i64 ((ordAt C S x.val : Nat) : Int)] rfl rfl (cell_one_new _ _ _) (by simp [Value.oneCell']) (by unfold maxLen; omega) (by omega) (by have := hB.size; simp; omega) ?_; intro v' w1 hown' hgrow _; obtain ⟨g', cap', rfl⟩ := ownsRow_succ hown'; obtain ⟨hv1, hv2, hr2, hk2, hb2⟩ := hv.appended (by decide) hrow hB.size (Nat.le_refl _) hown' hgrow; have hc1 := hv1.cell; have hf1 := hv1.frozen)
    have hN2 := cells_appO HAN.out (by decide) hrow hgrow (show Bs ≠ w.heap.size by omega) (.slice (some ⟨g', 0, none⟩) ((ordP C S pre).length + 1) cap')
    exact ⟨hk2.from _, Eq.trans hN2 (Eq.symm HAN.out), ⟨_, hv2, by rw [ordP_snoc]; simpa using hr2, trivial⟩, hN2, hB.trans hb2⟩
  case done =>
    rintro D ys W hD rfl ⟨⟨v, hv, hrow, -⟩, hN', hB⟩ hK
    have hc := hv.cell
    gi_wp2
    refine ⟨by simp, .inl ⟨_, _, rfl, run_takeDeferred hK, ?_⟩⟩
    rw [show ordP C S (rndsO N N) = ordL C S N from rndsO_map C S N (Nat.le_refl _)] at hrow
    refine ⟨_, results_tmp rfl _ _ _, ?_⟩
    exact OrdRes.of (w := w) (v := v) (fun e => by have := ordL_len C S N; rw [e] at this; simp at this; have := HBN.out; omega) (ownsRow_putObj hrow _ hK rfl) (hB.trans (belowK_b (w := w) (Nat.le_refl _) W D _ _ (by have := hB0.size; omega) hK rfl rfl))
  case stop =>
    rintro D c pre W _ _ h _
    exact h.elim
set_option maxHeartbeats 1000000 in
theorem collectOrd_any (Bs : Nat) (a b d sp : Int) (T C S N : Nat) (hg : geoB a b (C : Int) d = true) (hT : a * b = (T : Int)) (hN : N = T * C) (hS : S ≤ 7) (h1 : 1 ≤ N) (h8 : N ≤ 128) (w : World) (hBs : cellsO w Bs (shC a b d sp C S) 72) :
    Calls Try.prog 35 #[.func (.func 71) #[] #[.pointer (some ⟨Bs, 0, none⟩)]] w (OrdRes (ordL C S N) w) := by
  have AP := Lib.hid (callsIn_wide.1 (appendOrd_in Bs a b d sp T C S N hg hT hN hS h1 h8 w hBs))
  clear hg hT hN hS hBs
  go_enter Try.func35, Try.ntmps35
  go_wp2_with fail
  refine AP.out.mono ?_
  rintro e w1 ⟨g, cap, rfl, hc, hm, ho, hb⟩
  go_wp2
  go_ret
  exact ⟨g, cap, rfl, hc, hm, ho, hb⟩
end Go.Proofs.Ytllcbiafghhcmaa
