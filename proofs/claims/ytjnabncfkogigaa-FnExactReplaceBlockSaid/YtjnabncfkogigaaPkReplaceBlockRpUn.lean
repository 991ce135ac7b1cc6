/- (impl.sparedDevice).unused, (impl.plainDevice).unused -/
import Derived.Test.YtjnabncfkogigaaPkReplaceBlockRpHas
namespace Go.Proofs.Ytjnabncfkogigaa
open Go.RowKit Go.Maps
open Go.Shelf
set_option linter.unusedVariables false
attribute [local go_sem] Oper.semAt_some
theorem ownsMap_kept {w w' : World} {k : TypeId} {R : Value → Option (DataW Unit × List MemPlace)} {b n : Nat} {D : DataW Unit} (h : w.ownsMap Try.prog k R b n D) (hk : w'.heap[b]? = w.heap[b]?) : w'.ownsMap Try.prog k R b n D := by
  obtain ⟨es, clock, hb, Ft, hs, hD⟩ := h
  exact ⟨es, clock, hk.trans hb, Ft, hs, hD⟩
/-- The last of some numbers. -/
def lastO (C S : Nat) {N : Nat} (pre : List (Fin N)) : Int := (ordP C S pre).getLast?.getD 0
theorem lastO_snoc (C S : Nat) {N : Nat} (pre : List (Fin N)) (x : Fin N) : lastO C S (pre ++ [x]) = ((ordAt C S x.val : Nat) : Int) := by unfold lastO; rw [ordP_snoc]; simp
def freeP (C S : Nat) (zs : List Int) {N : Nat} (pre : List (Fin N)) : Option Int := (ordP C S pre).find? fun z => !decide (z ∈ zs)
theorem freeP_snoc {C S : Nat} {zs : List Int} {N : Nat} {pre : List (Fin N)} (x : Fin N) (h : freeP C S zs pre = none) : freeP C S zs (pre ++ [x]) = if ((ordAt C S x.val : Nat) : Int) ∈ zs then none else some ((ordAt C S x.val : Nat) : Int) := by
  unfold freeP at *
  rw [ordP_snoc, List.find?_append, h]
  by_cases hm : (((ordAt C S x.val : Nat) : Int)) ∈ zs <;> simp [hm]
theorem freeP_rnds (C S : Nat) (zs : List Int) (N k : Nat) (h : k ≤ N) : freeP C S zs (rndsO N k) = freeK C S zs k := by
  unfold freeP freeK ordP
  rw [rndsO_map C S k h]
theorem cellsO_ownD {β : Type} (C : β → Array Value) (g : Nat) (T : TypeId) : Own (fun s W => cellsO W g (C s) T) := fun s W W' row hs hg hr => (grownBy_keeps_cells hg hr hs rfl).trans hs
def unV (o : Option Int) : Int := o.getD 0
def unC (o : Option Int) : Int := if o.isSome then 0 else 5
theorem ownFrom_constO {β : Type} {B : Nat} (p : β → Prop) : OwnFrom B (fun (s : β) (_ : World) => p s) := fun _ _ _ _ hs _ _ => hs
set_option maxRecDepth 100000 in
set_option maxHeartbeats 8000000 in
theorem unused_in (a b d sp : Int) (T C S N : Nat) (s0 s1 : Option Addr) (c0 c1 : Nat) (es : List SectorV) (zs : List Int) (hg : geoB a b (C : Int) d = true) (hT : a * b = (T : Int)) (hN : N = T * C) (hS : S ≤ 7) (h8 : N ≤ 128) (hzl : zs.length ≤ 1048576) (hz : ∀ z ∈ zs, (Lit.int .i64 z).wf = true) (w : World) (h : SlA w s1 zs) :
    CallsIn Fence.wide 3 Try.prog 129 #[.agg #[.int .i64 a, .int .i64 b, .int .i64 (C : Int), .int .i64 d, .slice s0 es.length c0, .int .i64 (S : Int), .int .i64 sp, .slice s1 zs.length c1]] w fun e w' => e = .returned (.tuple #[.int .i64 (unV (freeK C S zs N)), .int .i64 (unC (freeK C S zs N))]) ∧ Below w.heap.size w w' := by
  have SO := Lib.hid (fun w' (hb : Below w.heap.size w w') => setOf_any s1 zs c1 w' hzl hz (h.below hb (Nat.le_refl _)))
  have SH := Lib.hid (fun w => shape_any ⟨⟨a, b, (C : Int), d, es⟩, S, sp, zs⟩ s0 s1 c0 c1 w)
  have OR := Lib.hid (fun w => order_any a b d sp C S w)
  have ST := Lib.hid (fun Bs w hBs => order_stops 2 Bs a b d sp T C S N hg hT hN hS w hBs)
  have HL := Lib.hid (fun k (hk : k ≤ N) => freeP_rnds C S zs N k hk)
  have HM := Lib.hid (fun k z (hk : k ≤ N) (hf : freeK C S zs k = some z) => freeK_more (m := N) hf hk)
  have BX0 := Lib.hid (((BoxAt.new w #[.int .i64 a, .int .i64 b, .int .i64 (C : Int), .int .i64 d, .slice s0 es.length c0, .int .i64 (S : Int), .int .i64 sp, .slice s1 zs.length c1] 115 _ rfl).alloc (.cells #[.int .i64 0] 2) (by simp)).alloc (.cells #[.int .i64 0] 2) (by simp; omega))
  have R1 := Lib.hid (show cellsO (((w.alloc (.cells #[.int .i64 a, .int .i64 b, .int .i64 (C : Int), .int .i64 d, .slice s0 es.length c0, .int .i64 (S : Int), .int .i64 sp, .slice s1 zs.length c1] 115)).alloc (.cells #[.int .i64 0] 2)).alloc (.cells #[.int .i64 0] 2)) (w.heap.size + 1) #[.int .i64 0] 2 from by
    unfold cellsO
    rw [Below.heap_alloc _ _ _ (by simp)]
    have e := heap_alloc_new (w.alloc (.cells #[.int .i64 a, .int .i64 b, .int .i64 (C : Int), .int .i64 d, .slice s0 es.length c0, .int .i64 (S : Int), .int .i64 sp, .slice s1 zs.length c1] 115)) (.cells #[.int .i64 0] 2)
    simpa using e)
  have R2 := Lib.hid (show cellsO (((w.alloc (.cells #[.int .i64 a, .int .i64 b, .int .i64 (C : Int), .int .i64 d, .slice s0 es.length c0, .int .i64 (S : Int), .int .i64 sp, .slice s1 zs.length c1] 115)).alloc (.cells #[.int .i64 0] 2)).alloc (.cells #[.int .i64 0] 2)) (w.heap.size + 1 + 1) #[.int .i64 0] 2 from by
    unfold cellsO
    have e := heap_alloc_new ((w.alloc (.cells #[.int .i64 a, .int .i64 b, .int .i64 (C : Int), .int .i64 d, .slice s0 es.length c0, .int .i64 (S : Int), .int .i64 sp, .slice s1 zs.length c1] 115)).alloc (.cells #[.int .i64 0] 2)) (.cells #[.int .i64 0] 2)
    simpa using e)
  have WF := Lib.hid (fun (x : Fin N) z (hxz : ((ordAt C S x.val : Nat) : Int) = z) => (show (Lit.int .i64 z).wf = true from wf_of (by have := ordAt_lt (sk := S) (show 0 < C by rcases Nat.eq_zero_or_pos C with h0 | h0; exact absurd (geoB_iff.1 hg).2.2.1 (by omega); exact h0) (show x.val < T * C by have := x.isLt; omega); omega)))
  clear hg hT hN hS h8 hzl hz h
  refine callsIn_of_wp_marks Try.func129 rfl trivial ?_ rfl
  simp only [Try.ntmps129, List.size_toArray, List.length_cons, List.length_nil, Nat.reduceAdd, Nat.reduceSub, Array.replicate_succ, Array.replicate_zero, List.push_toArray, List.append_toArray, List.nil_append, List.cons_append]
  gi_wp2_with fail
  refine ⟨trivial, (callsIn_wide.2 (SO.out _ (by go_grown))).mono ?_⟩
  rintro e w2 ⟨bm, rfl, hown, hbm0, hbm1, hb2⟩
  have hz2 : w.heap.size + 1 + 1 < w2.heap.size := Nat.lt_of_lt_of_le (by simp) hb2.size
  have hbm : w.heap.size + 1 + 1 < bm := Nat.lt_of_lt_of_le (by simp) hbm0
  have FB := Lib.hid (show Below w.heap.size w w2 from Below.trans (by go_grown) (hb2.mono (by simp <;> omega)))
  replace BX0 := Lib.hid (BX0.out.below hb2 (by simp; omega))
  replace R1 := Lib.hid (show cellsO w2 (w.heap.size + 1) #[.int .i64 0] 2 from (hb2.block _ (by simp)).trans R1.out)
  replace R2 := Lib.hid (show cellsO w2 (w.heap.size + 1 + 1) #[.int .i64 0] 2 from (hb2.block _ (by simp)).trans R2.out)
  have HM2 := Lib.hid hown
  clear hb2 hown hbm0
  have a0 := BX0.out 0 _ rfl
  have a1 := BX0.out 1 _ rfl
  have a2 := BX0.out 2 _ rfl
  have a3 := BX0.out 3 _ rfl
  have a4 := BX0.out 4 _ rfl
  have a5 := BX0.out 5 _ rfl
  have a6 := BX0.out 6 _ rfl
  have a7 := BX0.out 7 _ rfl
  have hzz : w.heap.size < w2.heap.size := by omega
  gi_wp2_with fail
  refine ⟨trivial, (callsIn_wide.2 (SH.out _)).mono ?_⟩
  rintro e w4 ⟨rfl, hb4⟩
  have hz4 : w2.heap.size + 1 ≤ w4.heap.size := by have := hb4.size; simpa using this
  have e4 : ∀ q, q < w2.heap.size → w4.heap[q]? = w2.heap[q]? := fun q hq => (hb4.block q (by simp; omega)).trans (Below.heap_alloc _ _ _ hq)
  have B4 := Lib.hid (show cellsO w4 w2.heap.size #[.map (some bm)] 74 from (hb4.block _ (by simp)).trans (heap_alloc_new w2 _))
  replace R1 := Lib.hid (show cellsO w4 (w.heap.size + 1) #[.int .i64 0] 2 from (e4 _ (by omega)).trans R1.out)
  replace R2 := Lib.hid (show cellsO w4 (w.heap.size + 1 + 1) #[.int .i64 0] 2 from (e4 _ (by omega)).trans R2.out)
  replace HM2 := Lib.hid (ownsMap_kept HM2.out (e4 _ hbm1))
  replace FB := Lib.hid (show Below w.heap.size w w4 from (FB.out.alloc FB.out.size _).trans (hb4.mono (by have := FB.out.size; simp; omega)))
  clear hb4 e4 a0 a1 a2 a3 a4 a5 a6 a7 BX0
  gi_wp2_with fail
  refine ⟨trivial, (callsIn_wide.2 (OR.out _)).mono ?_⟩
  rintro e w5 ⟨rfl, hw5⟩
  have B5 := Lib.hid (show cellsO w5 w4.heap.size (shC a b d sp C S) 67 from by rw [hw5]; exact heap_alloc_new w4 _)
  have hz5 : w5.heap.size = w4.heap.size + 1 := by rw [hw5]; simp
  have e5 : ∀ q, q < w4.heap.size → w5.heap[q]? = w4.heap[q]? := fun q hq => by rw [hw5]; exact Below.heap_alloc _ _ _ hq
  replace B4 := Lib.hid (show cellsO w5 w2.heap.size #[.map (some bm)] 74 from (e5 _ (by omega)).trans B4.out)
  replace R1 := Lib.hid (show cellsO w5 (w.heap.size + 1) #[.int .i64 0] 2 from (e5 _ (by omega)).trans R1.out)
  replace R2 := Lib.hid (show cellsO w5 (w.heap.size + 1 + 1) #[.int .i64 0] 2 from (e5 _ (by omega)).trans R2.out)
  replace HM2 := Lib.hid (ownsMap_kept HM2.out (e5 _ (by omega)))
  replace FB := Lib.hid (show Below w.heap.size w w5 from by rw [hw5]; exact FB.out.alloc FB.out.size _)
  clear e5 hw5
  gi_wp2
  have hB0 := FB.out.size
  refine wpIn_rangeFunc_ownG rfl (by decide) (gf := 132) (lb := #[.pointer (some ⟨w4.heap.size, 0, none⟩)]) rfl trivial (enters_of Try.func132 (by kernel_rfl) rfl)
    (ST.out w4.heap.size w5 B5.out) KBo.trans (kbo_obj (by omega)) (Below.refl _ _) (fun _ => rfl)
    (fun pre W => freeP C S zs pre = none ∧ cellsO W (w.heap.size + 1) #[.int .i64 0] 2 ∧ cellsO W (w.heap.size + 1 + 1) #[.int .i64 0] 2 ∧ cellsO W w2.heap.size #[.map (some bm)] 74 ∧ cellsO W w4.heap.size (shC a b d sp C S) 67 ∧ W.ownsMap Try.prog 2 (unitElem (H := Unit)) bm zs.length (setI Unit zs) ∧ Below w.heap.size w W)
    (fun c pre W => (c = .ret ∧ freeP C S zs pre = some (lastO C S pre)) ∧ cellsO W (w.heap.size + 1) #[.int .i64 (lastO C S pre)] 2 ∧ cellsO W (w.heap.size + 1 + 1) #[.int .i64 0] 2 ∧ Below w.heap.size w W)
    (OwnFrom.and (ownFrom_constO _) (OwnFrom.and (Own.from (cellsO_own _ _ _) _) (OwnFrom.and (Own.from (cellsO_own _ _ _) _) (OwnFrom.and (Own.from (cellsO_own _ _ _) _) (OwnFrom.and (Own.from (cellsO_own _ _ _) _) (OwnFrom.and (fun s W W' row hs hg hr => ownsMap_kept hs (hg.block bm hs.lt (fun e => by have := (hr _ e.symm).1; omega))) (ownFrom_below (Nat.le_refl _) (by omega))))))))
    (fun c => OwnFrom.and (ownFrom_constO _) (OwnFrom.and (Own.from (cellsO_ownD (fun pre => #[.int .i64 (lastO C S pre)]) _ _) _) (OwnFrom.and (Own.from (cellsO_own _ _ _) _) (ownFrom_below (Nat.le_refl _) (by omega)))))
    ⟨by simp [freeP, ordP], R1.out, R2.out, B4.out, B5.out, HM2.out, FB.out⟩
    (fun x => { tmps := #[.agg #[.int .i64 a, .int .i64 b, .int .i64 (C : Int), .int .i64 d, .slice s0 es.length c0, .int .i64 (S : Int), .int .i64 sp, .slice s1 zs.length c1], .pointer (some ⟨w.heap.size, 0, none⟩), .pointer (some ⟨w.heap.size + 1, 0, none⟩), .pointer (some ⟨w.heap.size + 1 + 1, 0, none⟩), .pointer (some ⟨w2.heap.size, 0, none⟩), .int .i64 ((ordAt C S x.val : Nat) : Int), .pointer (some ⟨w.heap.size, 0, none⟩), .pointer (some ⟨w.heap.size, 7, none⟩), .slice s1 zs.length c1, .map (some bm), .pointer (some ⟨w.heap.size, 0, none⟩), .agg #[.int .i64 a, .int .i64 b, .int .i64 (C : Int), .int .i64 d, .slice s0 es.length c0, .int .i64 (S : Int), .int .i64 sp, .slice s1 zs.length c1], .agg #[.int .i64 a, .int .i64 b, .int .i64 (C : Int), .int .i64 d, .int .i64 (S : Int), .int .i64 sp], .func (.func 132) #[] #[.pointer (some ⟨w4.heap.size, 0, none⟩)], .int .i64 ((ordAt C S x.val : Nat) : Int), undef, undef, undef, undef, undef], defers := [] }) ?assign ?body ?done ?stop
  case assign =>
    intro l x W K hK
    dsimp only [ordEnc]
    gi_wp2
    exact hK
  case body =>
    rintro l pre x W ⟨hfr, q1, q2, q4, q5, qm, hB⟩ hlt
    have hxl := x.isLt
    obtain ⟨z, hz⟩ : ∃ z, ((ordAt C S x.val : Nat) : Int) = z := ⟨_, rfl⟩
    have hzw : (Lit.int .i64 z).wf = true := WF.out x z hz
    have HS := Lib.hid (freeP_snoc x hfr)
    have HLO := Lib.hid (lastO_snoc C S pre x)
    rw [hz] at HS HLO ⊢
    have HA := Lib.hid (has_any bm zs zs.length z hzw W qm)
    obtain ⟨q, hq⟩ : ∃ q, decide (z ∈ zs) = q := ⟨_, rfl⟩
    rw [hq] at HA
    have HDQ := Lib.hid hq
    have k4 : W.cell? ⟨w2.heap.size, 0, none⟩ = some (.map (some bm)) := Boxed.cell q4
    have HQ := Lib.hid (And.intro q1 (And.intro q2 (And.intro q4 (And.intro q5 (And.intro qm hB)))))
    clear q1 q2 q4 q5 qm hB hz hfr hq hzw
    cases q
    · gi_wp2_with fail
      refine ⟨trivial, (callsIn_wide.2 HA.out).mono ?_⟩
      rintro e w6 ⟨rfl, hb6⟩
      have e6 : ∀ j, j < W.heap.size → w6.heap[j]? = W.heap[j]? := fun j hj => hb6.block j hj
      have p1 : cellsO w6 (w.heap.size + 1) #[.int .i64 0] 2 := (e6 _ (Array.getElem?_eq_some_iff.1 HQ.out.1).1).trans HQ.out.1
      have p2 : cellsO w6 (w.heap.size + 1 + 1) #[.int .i64 0] 2 := (e6 _ (Array.getElem?_eq_some_iff.1 HQ.out.2.1).1).trans HQ.out.2.1
      have k1 : w6.cell? ⟨w.heap.size + 1, 0, none⟩ = some (.int .i64 0) := Boxed.cell p1
      have f1 : w6.frozen? ⟨w.heap.size + 1, 0, none⟩ = false := Boxed.frozen p1
      have k2 : w6.cell? ⟨w.heap.size + 1 + 1, 0, none⟩ = some (.int .i64 0) := Boxed.cell p2
      have f2 : w6.frozen? ⟨w.heap.size + 1 + 1, 0, none⟩ = false := Boxed.frozen p2
      have hne : (⟨w.heap.size + 1, 0, none⟩ : Addr) ≠ ⟨w.heap.size + 1 + 1, 0, none⟩ := fun e => by have := congrArg Addr.block e; simp at this
      have P1 : cellsO ((w6.setCell ⟨w.heap.size + 1, 0, none⟩ (.int .i64 z)).setCell ⟨w.heap.size + 1 + 1, 0, none⟩ (.int .i64 0)) (w.heap.size + 1) #[.int .i64 z] 2 := (Below.heap_setCell _ _ _ _ (by simp)).trans ((show Boxed w6 _ _ _ from p1).set (.int .i64 z))
      have P2 : cellsO ((w6.setCell ⟨w.heap.size + 1, 0, none⟩ (.int .i64 z)).setCell ⟨w.heap.size + 1 + 1, 0, none⟩ (.int .i64 0)) (w.heap.size + 1 + 1) #[.int .i64 0] 2 := (show Boxed (w6.setCell ⟨w.heap.size + 1, 0, none⟩ (.int .i64 z)) _ _ _ from (Below.heap_setCell _ _ _ _ (by simp)).trans p2).set (.int .i64 0)
      have BB := Lib.hid (show Below w.heap.size w ((w6.setCell ⟨w.heap.size + 1, 0, none⟩ (.int .i64 z)).setCell ⟨w.heap.size + 1 + 1, 0, none⟩ (.int .i64 0)) from ((HQ.out.2.2.2.2.2.trans (hb6.mono HQ.out.2.2.2.2.2.size)).setCell (p := ⟨w.heap.size + 1, 0, none⟩) (Nat.le_succ _) _).setCell (p := ⟨w.heap.size + 1 + 1, 0, none⟩) (by show w.heap.size ≤ w.heap.size + 1 + 1; omega) _)
      have KF := Lib.hid (show KeepsFrom w5.heap.size W ((w6.setCell ⟨w.heap.size + 1, 0, none⟩ (.int .i64 z)).setCell ⟨w.heap.size + 1 + 1, 0, none⟩ (.int .i64 0)) from KeepsFrom.trans ⟨hb6.size, fun k o _ ho _ => (e6 k (Array.getElem?_eq_some_iff.1 ho).1).trans ho⟩ (((KeepsOthers.setCell _ _ _).from _).trans ((KeepsOthers.setCell _ _ _).from _)))
      have PP := Lib.hid (And.intro P1 P2); clear P1 P2 p1 p2 e6 hb6
      gi_wp2
      have hfin : freeP C S zs (pre ++ [x]) = some z := by rw [HS.out, if_neg (of_decide_eq_false HDQ.out)]
      exact ⟨KF.out, ⟨rfl, by rw [HLO.out]; exact hfin⟩, by rw [HLO.out]; exact PP.out.1, PP.out.2, BB.out⟩
    · gi_wp2_with fail
      refine ⟨trivial, (callsIn_wide.2 HA.out).mono ?_⟩
      rintro e w6 ⟨rfl, hb6⟩
      have HB6 := Lib.hid hb6; clear hb6
      gi_wp2
      have e6 : ∀ j, j < W.heap.size → w6.heap[j]? = W.heap[j]? := fun j hj => HB6.out.block j hj
      have l1 := (Array.getElem?_eq_some_iff.1 HQ.out.1).1
      have l2 := (Array.getElem?_eq_some_iff.1 HQ.out.2.1).1
      have l4 := (Array.getElem?_eq_some_iff.1 HQ.out.2.2.1).1
      have l5 := (Array.getElem?_eq_some_iff.1 HQ.out.2.2.2.1).1
      exact ⟨⟨HB6.out.size, fun k o _ ho _ => (e6 k (Array.getElem?_eq_some_iff.1 ho).1).trans ho⟩, e6 _ l5, by rw [HS.out, if_pos (of_decide_eq_true HDQ.out)], (e6 _ l1).trans HQ.out.1, (e6 _ l2).trans HQ.out.2.1, (e6 _ l4).trans HQ.out.2.2.1, (e6 _ l5).trans HQ.out.2.2.2.1, ownsMap_kept HQ.out.2.2.2.2.1 (e6 _ HQ.out.2.2.2.2.1.lt), HQ.out.2.2.2.2.2.trans (HB6.out.mono HQ.out.2.2.2.2.2.size)⟩
  case done =>
    rintro D ys W hD rfl ⟨hfr, q1, q2, q4, q5, qm, hB⟩ hK
    have hzN := HL.out N (Nat.le_refl _)
    rw [hzN] at hfr
    have HF := Lib.hid hfr
    have k1 : W.cell? ⟨w.heap.size + 1, 0, none⟩ = some (.int .i64 0) := Boxed.cell q1
    have f1 : W.frozen? ⟨w.heap.size + 1, 0, none⟩ = false := Boxed.frozen q1
    have k2 : W.cell? ⟨w.heap.size + 1 + 1, 0, none⟩ = some (.int .i64 0) := Boxed.cell q2
    have f2 : W.frozen? ⟨w.heap.size + 1 + 1, 0, none⟩ = false := Boxed.frozen q2
    have P1 : cellsO ((W.setCell ⟨w.heap.size + 1, 0, none⟩ (.int .i64 0)).setCell ⟨w.heap.size + 1 + 1, 0, none⟩ (.int .i64 5)) (w.heap.size + 1) #[.int .i64 0] 2 := (Below.heap_setCell _ _ _ _ (by simp)).trans ((show Boxed W _ _ _ from q1).set (.int .i64 0))
    have P2 : cellsO ((W.setCell ⟨w.heap.size + 1, 0, none⟩ (.int .i64 0)).setCell ⟨w.heap.size + 1 + 1, 0, none⟩ (.int .i64 5)) (w.heap.size + 1 + 1) #[.int .i64 5] 2 := (show Boxed (W.setCell ⟨w.heap.size + 1, 0, none⟩ (.int .i64 0)) _ _ _ from (Below.heap_setCell _ _ _ _ (by simp)).trans q2).set (.int .i64 5)
    have BB := Lib.hid ((hB.setCell (p := ⟨w.heap.size + 1, 0, none⟩) (Nat.le_succ _) (.int .i64 0)).setCell (p := ⟨w.heap.size + 1 + 1, 0, none⟩) (by show w.heap.size ≤ w.heap.size + 1 + 1; omega) (.int .i64 5))
    have hK' : ((W.setCell ⟨w.heap.size + 1, 0, none⟩ (.int .i64 0)).setCell ⟨w.heap.size + 1 + 1, 0, none⟩ (.int .i64 5)).heap[D]? = some (.deferred (some [])) := ((Below.heap_setCell _ _ _ _ (by simp; omega)).trans (Below.heap_setCell _ _ _ _ (by simp; omega))).trans hK
    have PP := Lib.hid (And.intro P1 (And.intro P2 hK')); clear P1 P2 hK' q1 q2 q4 q5 qm hB hK hfr hzN
    gi_wp2
    refine ⟨by simp, .inl ⟨_, _, rfl, run_takeDeferred PP.out.2.2, ?_⟩⟩
    have g1 := cell_kept (Boxed.cell PP.out.1) (grownBy_putObj' _ D (.deferred none)) (fun r e => by cases e; exact ⟨_, PP.out.2.2, rfl⟩)
    have g2 := cell_kept (Boxed.cell PP.out.2.1) (grownBy_putObj' _ D (.deferred none)) (fun r e => by cases e; exact ⟨_, PP.out.2.2, rfl⟩)
    refine ⟨.tuple #[.int .i64 0, .int .i64 5], ?_, by rw [HF.out]; rfl, BB.out.trans (belowK_b (w := w) (Nat.le_refl _) _ D _ _ (by omega) PP.out.2.2 rfl rfl)⟩
    simp [results, Try.results129, go_sem, g1, g2]
  case stop =>
    rintro D c pre W hD ⟨k, hk, rfl⟩ ⟨⟨rfl, hfr⟩, q1, q2, hB⟩ hK
    rw [HL.out k hk] at hfr
    have HF := Lib.hid (HM.out k _ hk hfr)
    have PP := Lib.hid (And.intro q1 (And.intro q2 (And.intro hB hK))); clear q1 q2 hB hK hfr
    gi_wp2
    refine ⟨by simp, .inl ⟨_, _, rfl, run_takeDeferred PP.out.2.2.2, ?_⟩⟩
    have g1 := cell_kept (Boxed.cell PP.out.1) (grownBy_putObj' _ D (.deferred none)) (fun r e => by cases e; exact ⟨_, PP.out.2.2.2, rfl⟩)
    have g2 := cell_kept (Boxed.cell PP.out.2.1) (grownBy_putObj' _ D (.deferred none)) (fun r e => by cases e; exact ⟨_, PP.out.2.2.2, rfl⟩)
    refine ⟨.tuple #[.int .i64 (lastO C S (rndsO N k)), .int .i64 0], ?_, by rw [HF.out]; rfl, PP.out.2.2.1.trans (belowK_b (w := w) (Nat.le_refl _) W D _ _ (by omega) PP.out.2.2.2 rfl rfl)⟩
    simp [results, Try.results129, go_sem, g1, g2]
end Go.Proofs.Ytjnabncfkogigaa
