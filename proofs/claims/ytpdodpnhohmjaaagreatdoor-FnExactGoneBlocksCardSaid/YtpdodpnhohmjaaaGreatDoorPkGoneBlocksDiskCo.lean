/- impl.chainsOn: a disk with chains that is copied on writes; its blocks -/
import Derived.Test.YtpdodpnhohmjaaaGreatDoorPkGoneBlocksChLay
import Derived.Test.YtpdodpnhohmjaaaGreatDoorPkGoneBlocksE
import Derived.Laws.Tables
namespace Go.Proofs.YtpdodpnhohmjaaaGreatDoor
open Go.RowKit
set_option maxRecDepth 20000
set_option linter.unusedVariables false
set_option linter.unusedSimpArgs false
set_option maxRecDepth 20000
/-- Block p is a copied disk without copies: the given list of blocks, and 128 pointers that are nil. -/
def CD (w : World) (p : Nat) (a : Option Addr) (c : Nat) (es : List StringV) : Prop :=
  p < w.heap.size ∧ w.cell? ⟨p, 0, none⟩ = some (.slice a es.length c) ∧ ∀ n, n < 128 → w.cell? ⟨p, n + 1, none⟩ = some (.pointer none)
theorem CD.below {w w' : World} {p B : Nat} {a : Option Addr} {c : Nat} {es : List StringV} (h : CD w p a c es) (hb : Below B w w') (hp : p < B) : CD w' p a c es :=
  ⟨Nat.lt_of_lt_of_le h.1 hb.size, by rw [hb.cell (p := ⟨p, 0, none⟩) hp]; exact h.2.1, fun n hn => by rw [hb.cell (p := ⟨p, n + 1, none⟩) hp]; exact h.2.2 n hn⟩
/-- The cells of such a disk. -/
def copC (a : Option Addr) (n c : Nat) : Array Value := (Value.slice a n c :: List.replicate 128 (.pointer none)).toArray
theorem built_co (a : Option Addr) (n c : Nat) : Tryz.prog.built 74 [(0, .slice a n c)] = some (copC a n c) := by kernel_rfl
theorem CD.new (w : World) (a : Option Addr) (c : Nat) (es : List StringV) (T : TypeId) (p : Nat) (hp : w.heap.size = p) : CD (w.alloc (.cells (copC a es.length c) T)) p a c es := by
  subst hp
  have e := heap_alloc_new w (.cells (copC a es.length c) T)
  refine ⟨by simp, ?_, fun n hn => ?_⟩
  · simp only [World.cell?, e]
    simp [copC]
  · simp only [World.cell?, e]
    simp only [copC, List.getElem?_toArray, List.getElem?_cons_succ]
    rw [List.getElem?_replicate, if_pos hn]
    rfl
theorem wpList_buildTo {P : Program} {w : World} {ops : Array Oper} {o : Oper} {a : Act} {Q : Exit → Act → World → Prop} {rest : List Oper} (hgd : o.guard = none) (t : TypeId) (parts : Array (Nat × Operand)) (ho : o.op = .build t parts) (cells : Array Value)
    (hc : P.built t (parts.map fun (i, x) => (i, a.eval x)).toList = some cells) (h : wpList P ops Q rest (a.put o.dst (.agg cells)) w) : wpList P ops Q (o :: rest) a w := by
  refine wpList_plain hgd fun K hK => ?_
  unfold Oper.wp execOp
  simp only [ho, Sem.run_bind, run_build w t _ cells hc, Result.andThen_ok]
  exact hK _ _ h
def CoRes (es : List StringV) (a : Option Addr) (c : Nat) (w : World) (e : Ending) (w' : World) : Prop :=
  ∃ p, e = .returned (.tuple #[.agg #[.int .i64 (chL es).f0, .int .i64 (chL es).f1, .int .i64 (chL es).f2, .int .i64 (chL es).f3, .int .i64 (chL es).f4, .pointer (some ⟨p, 0, none⟩)], .int .i64 (chCode es)]) ∧ w.heap.size ≤ p ∧ CD w' p a c es ∧ Below w.heap.size w w'
set_option maxHeartbeats 4000000 in
theorem chainsOn_any (a : Option Addr) (c : Nat) (es : List StringV) (hm : es.length ≤ 1048576) (hs : ∀ e ∈ es, e.f0.size ≤ 1048576) (w : World) (h : SlS rowString w a es) :
    Calls Tryz.prog 22 #[.slice a es.length c] w (CoRes es a c w) := by
  have LO := Lib.hid (fun w' (hb : Below w.heap.size w w') => layoutOf_any a c es hm hs w' (h.below hb (Nat.le_refl _)))
  unfold ChRes at LO
  unfold CoRes
  generalize chL es = L at *
  generalize chCode es = cc at *
  obtain ⟨l0, l1, l2, l3, l4⟩ := L
  dsimp only at LO ⊢
  clear h hs
  go_enter Tryz.func22, Tryz.ntmps22
  have R0 := BoxF.new w #[.int .i64 0, .int .i64 0, .int .i64 0, .int .i64 0, .int .i64 0, .pointer none] 50 _ rfl
  go_wp2_with fail
  refine (LO.out _ (by go_grown)).mono ?_
  rintro e w1 ⟨rfl, hb1⟩
  obtain ⟨a0, z0⟩ := (R0.below hb1 (by simp)) 0 _ rfl
  obtain ⟨a1, z1⟩ := (R0.below hb1 (by simp)) 1 _ rfl
  obtain ⟨a2, z2⟩ := (R0.below hb1 (by simp)) 2 _ rfl
  obtain ⟨a3, z3⟩ := (R0.below hb1 (by simp)) 3 _ rfl
  obtain ⟨a4, z4⟩ := (R0.below hb1 (by simp)) 4 _ rfl
  obtain ⟨a5, z5⟩ := (R0.below hb1 (by simp)) 5 _ rfl
  have FB := Lib.hid (show Below w.heap.size w w1 from Below.trans (by go_grown) (hb1.mono (by simp)))
  have hz1 : w.heap.size < w1.heap.size := Nat.lt_of_lt_of_le (by simp) hb1.size
  clear hb1 R0
  go_upto_region 2 with (fail)
  go_step
  go_step
  go_step
  go_step
  go_step
  go_step
  go_step
  refine wpList_buildTo rfl 74 _ rfl (copC a es.length c) (by simp [go_sem]; exact built_co a es.length c) ?_
  simp only [Act.put, List.setIfInBounds_toArray, List.set_cons_zero, List.set_cons_succ]
  go_step
  go_step
  have hcd := CD.new (w1.alloc (.cells #[.int .i64 l0, .int .i64 l1, .int .i64 l2, .int .i64 l3, .int .i64 l4] 40)) a c es 74 (w1.heap.size + 1) (by simp)
  have hbA : Below w1.heap.size w1 ((w1.alloc (.cells #[.int .i64 l0, .int .i64 l1, .int .i64 l2, .int .i64 l3, .int .i64 l4] 40)).alloc (.cells (copC a es.length c) 74)) := ((Below.refl _ _).alloc (Nat.le_refl _) _).alloc (by simp) _
  generalize Value.agg (copC a es.length c) = vc at *
  generalize (w1.alloc (.cells #[.int .i64 l0, .int .i64 l1, .int .i64 l2, .int .i64 l3, .int .i64 l4] 40)).alloc (.cells (copC a es.length c) 74) = W at *
  have FW := Lib.hid (FB.out.trans (hbA.mono FB.out.size))
  have b0 : W.cell? ⟨w.heap.size, 0, none⟩ = some (.int .i64 0) := by rw [hbA.cell (p := ⟨w.heap.size, 0, none⟩) hz1]; exact a0
  have b1 : W.cell? ⟨w.heap.size, 1, none⟩ = some (.int .i64 0) := by rw [hbA.cell (p := ⟨w.heap.size, 1, none⟩) hz1]; exact a1
  have b2 : W.cell? ⟨w.heap.size, 2, none⟩ = some (.int .i64 0) := by rw [hbA.cell (p := ⟨w.heap.size, 2, none⟩) hz1]; exact a2
  have b3 : W.cell? ⟨w.heap.size, 3, none⟩ = some (.int .i64 0) := by rw [hbA.cell (p := ⟨w.heap.size, 3, none⟩) hz1]; exact a3
  have b4 : W.cell? ⟨w.heap.size, 4, none⟩ = some (.int .i64 0) := by rw [hbA.cell (p := ⟨w.heap.size, 4, none⟩) hz1]; exact a4
  have b5 : W.cell? ⟨w.heap.size, 5, none⟩ = some (.pointer none) := by rw [hbA.cell (p := ⟨w.heap.size, 5, none⟩) hz1]; exact a5
  have y0 : W.frozen? ⟨w.heap.size, 0, none⟩ = false := by rw [hbA.frozen (p := ⟨w.heap.size, 0, none⟩) hz1]; exact z0
  have y1 : W.frozen? ⟨w.heap.size, 1, none⟩ = false := by rw [hbA.frozen (p := ⟨w.heap.size, 1, none⟩) hz1]; exact z1
  have y2 : W.frozen? ⟨w.heap.size, 2, none⟩ = false := by rw [hbA.frozen (p := ⟨w.heap.size, 2, none⟩) hz1]; exact z2
  have y3 : W.frozen? ⟨w.heap.size, 3, none⟩ = false := by rw [hbA.frozen (p := ⟨w.heap.size, 3, none⟩) hz1]; exact z3
  have y4 : W.frozen? ⟨w.heap.size, 4, none⟩ = false := by rw [hbA.frozen (p := ⟨w.heap.size, 4, none⟩) hz1]; exact z4
  have y5 : W.frozen? ⟨w.heap.size, 5, none⟩ = false := by rw [hbA.frozen (p := ⟨w.heap.size, 5, none⟩) hz1]; exact z5
  have HCD := Lib.hid hcd
  clear hcd hbA a0 a1 a2 a3 a4 a5 z0 z1 z2 z3 z4 z5 FB
  go_wp2
  refine bodyPost_ret (v := .tuple #[.agg #[.int .i64 l0, .int .i64 l1, .int .i64 l2, .int .i64 l3, .int .i64 l4, .pointer (some ⟨w1.heap.size + 1, 0, none⟩)], .int .i64 cc]) (by simp [results, Tryz.results22, go_sem, b0, b1, b2, b3, b4, b5]) rfl ⟨w1.heap.size + 1, rfl, by omega, ?_, ?_⟩
  · have e : ∀ i, ((((((W.setCell ⟨w.heap.size, 0, none⟩ (.int .i64 l0)).setCell ⟨w.heap.size, 1, none⟩ (.int .i64 l1)).setCell ⟨w.heap.size, 2, none⟩ (.int .i64 l2)).setCell ⟨w.heap.size, 3, none⟩ (.int .i64 l3)).setCell ⟨w.heap.size, 4, none⟩ (.int .i64 l4)).setCell ⟨w.heap.size, 5, none⟩ (.pointer (some ⟨w1.heap.size + 1, 0, none⟩))).cell? ⟨w1.heap.size + 1, i, none⟩ = W.cell? ⟨w1.heap.size + 1, i, none⟩ := fun i => by
      apply World.cell?_of_block
      show (World.heap _)[w1.heap.size + 1]? = W.heap[w1.heap.size + 1]?
      rw [heap_setCell_ne _ _ _ _ _ (by omega), heap_setCell_ne _ _ _ _ _ (by omega), heap_setCell_ne _ _ _ _ _ (by omega), heap_setCell_ne _ _ _ _ _ (by omega), heap_setCell_ne _ _ _ _ _ (by omega), heap_setCell_ne _ _ _ _ _ (by omega)]
    exact ⟨by have := HCD.out.1; simpa [World.setCell] using this, by rw [e]; exact HCD.out.2.1, fun n hn => by rw [e]; exact HCD.out.2.2 n hn⟩
  · exact (((((FW.out.setCell (p := ⟨w.heap.size, 0, none⟩) (Nat.le_refl _) _).setCell (p := ⟨w.heap.size, 1, none⟩) (Nat.le_refl _) _).setCell (p := ⟨w.heap.size, 2, none⟩) (Nat.le_refl _) _).setCell (p := ⟨w.heap.size, 3, none⟩) (Nat.le_refl _) _).setCell (p := ⟨w.heap.size, 4, none⟩) (Nat.le_refl _) _).setCell (p := ⟨w.heap.size, 5, none⟩) (Nat.le_refl _) _
/-- A block of a disk without copies. -/
theorem cdBlock_any (p n : Nat) (a : Option Addr) (c : Nat) (es : List StringV) (e : StringV) (w : World) (h : CD w p a c es) (hn : es[n]? = some e) (hl : es.length ≤ 128) (hsl : SlS rowString w a es) :
    Calls Tryz.prog 178 #[.pointer (some ⟨p, 0, none⟩), .int .i64 (n : Int)] w fun x w' => x = .returned (.string e.f0) ∧ w = w' := by
  have hlt : n < es.length := (List.getElem?_eq_some_iff.1 hn).1
  obtain ⟨b, off, rfl, hbl, hc⟩ := hsl.at rowString_len hn
  have c0 : w.cell? ⟨b, off + n, none⟩ = some (.string e.f0) := by simpa using hc 0 _ rfl
  have p0 := h.2.1
  have pn := h.2.2 n (by omega)
  have hn1 : (n : Int) < 128 := by omega
  have hn2 : n < 128 := by omega
  have pn2 : w.cell? ⟨p, 1 + n, none⟩ = some (.pointer none) := by rw [Nat.add_comm]; exact pn
  clear h hc hsl hn
  go_enter Tryz.func178, Tryz.ntmps178
  go_wp2
  go_ret
  exact ⟨rfl, rfl⟩
end Go.Proofs.YtpdodpnhohmjaaaGreatDoor
