/- impl.parityOf. Made by mk_gfpo.py. -/
import Derived.Test.YtpgcmgbflcdjiaaGfCl
import Derived.Test.YtpgcmgbflcdjiaaRoundFlat
import Derived.Test.YtpgcmgbflcdjiaaGfUp
namespace Go.Proofs.Ytpgcmgbflcdjiaa
open Go.RowKit
open Go.Shelf
open Gf
set_option linter.unusedVariables false
set_option linter.unusedSimpArgs false
set_option maxRecDepth 100000
attribute [local go_sem] Oper.semAt_some
def bkS (es : List StringV) {N : Nat} (x : Fin N) : ByteArray := (es.getD (N - 1 - x.val) ⟨⟨#[]⟩⟩).f0
def pP (es : List StringV) (n : Nat) {N : Nat} (pre : List (Fin N)) : List UInt8 := pre.foldl (fun p x => xL p (bkS es x).data.toList) (List.replicate n 0)
def pQ (es : List StringV) (n : Nat) {N : Nat} (pre : List (Fin N)) : List UInt8 := pre.foldl (fun q x => xL (mL 2 q) (bkS es x).data.toList) (List.replicate n 0)
theorem pP_snoc (es : List StringV) (n : Nat) {N : Nat} (pre : List (Fin N)) (x : Fin N) : pP es n (pre ++ [x]) = xL (pP es n pre) (bkS es x).data.toList := by simp [pP]
theorem pQ_snoc (es : List StringV) (n : Nat) {N : Nat} (pre : List (Fin N)) (x : Fin N) : pQ es n (pre ++ [x]) = xL (mL 2 (pQ es n pre)) (bkS es x).data.toList := by simp [pQ]
theorem TBk.cells {w : World} {b : Nat} {l : List UInt8} (h : TBk w b l) (hl : 0 < l.length) : ∃ C T fr, w.heap[b]? = some (.cells C T fr) := by
  have h1 := (h 0 hl).1
  unfold World.cell? at h1
  dsimp only at h1
  cases e : w.heap[b]? with
  | none => rw [e] at h1; simp at h1
  | some o =>
    rw [e] at h1
    cases o with
    | cells C T fr => exact ⟨C, T, fr, rfl⟩
    | _ => simp at h1
/-- Both sums lie in rows to which the two boxes lead. -/
def PQ (n P4 P5 : Nat) (pl ql : List UInt8) (W : World) : Prop :=
  ∃ gp gq cq, Boxed W P4 26 (.slice (some ⟨gp, 0, none⟩) n n) ∧ Boxed W P5 26 (.slice (some ⟨gq, 0, none⟩) n cq) ∧ TBk W gp pl ∧ TBk W gq ql ∧ pl.length = n ∧ ql.length = n ∧ 1 ≤ n
theorem PQ.own {β : Type} (n P4 P5 : Nat) (pl ql : β → List UInt8) : Own (fun (s : β) W => PQ n P4 P5 (pl s) (ql s) W) := by
  intro s W W' row hs hg hr
  obtain ⟨gp, gq, cq, h4, h5, tp, tq, l1, l2, hn⟩ := hs
  refine ⟨gp, gq, cq, (grownBy_keeps_cells hg hr h4 rfl).trans h4, (grownBy_keeps_cells hg hr h5 rfl).trans h5, ?_, ?_, l1, l2, hn⟩
  · obtain ⟨C, T, fr, hh⟩ := tp.cells (by omega)
    exact tp.kept (grownBy_keeps_cells hg hr hh rfl)
  · obtain ⟨C, T, fr, hh⟩ := tq.cells (by omega)
    exact tq.kept (grownBy_keeps_cells hg hr hh rfl)
theorem boxed_own {β : Type} (B : Nat) (T : TypeId) (v : Value) : Own (fun (_ : β) W => Boxed W B T v) := fun s W W' row hs hg hr => (grownBy_keeps_cells hg hr hs rfl).trans hs
theorem pq_next (n P4 P5 Bs b Z g1 g2 base : Nat) (w W w6 : World) (T : TypeId) (vB v4 v5 : Value) (pl ql : List UInt8)
    (hP4 : Z ≤ P4) (hP5 : Z ≤ P5) (h45 : P4 ≠ P5) (hB4 : Bs ≠ P4) (hB5 : Bs ≠ P5) (hb : b < Z)
    (k4 : Boxed W P4 26 v4) (k5 : Boxed W P5 26 v5) (kB : Boxed W Bs T vB) (hbel : Below Z w W) (h6 : Below W.heap.size W w6)
    (hz : Z ≤ W.heap.size) (hg1 : W.heap.size ≤ g1) (hg2 : W.heap.size ≤ g2) (t1 : TBk w6 g1 pl) (t2 : TBk w6 g2 ql) (l1 : pl.length = n) (l2 : ql.length = n) (hn : 1 ≤ n) :
    KeepsFrom base W ((w6.setCell ⟨P4, 0, none⟩ (.slice (some ⟨g1, 0, none⟩) n n)).setCell ⟨P5, 0, none⟩ (.slice (some ⟨g2, 0, none⟩) n n)) ∧
    KBb Bs b W ((w6.setCell ⟨P4, 0, none⟩ (.slice (some ⟨g1, 0, none⟩) n n)).setCell ⟨P5, 0, none⟩ (.slice (some ⟨g2, 0, none⟩) n n)) ∧
    PQ n P4 P5 pl ql ((w6.setCell ⟨P4, 0, none⟩ (.slice (some ⟨g1, 0, none⟩) n n)).setCell ⟨P5, 0, none⟩ (.slice (some ⟨g2, 0, none⟩) n n)) ∧
    Boxed ((w6.setCell ⟨P4, 0, none⟩ (.slice (some ⟨g1, 0, none⟩) n n)).setCell ⟨P5, 0, none⟩ (.slice (some ⟨g2, 0, none⟩) n n)) Bs T vB ∧
    Below Z w ((w6.setCell ⟨P4, 0, none⟩ (.slice (some ⟨g1, 0, none⟩) n n)).setCell ⟨P5, 0, none⟩ (.slice (some ⟨g2, 0, none⟩) n n)) := by
  have e4 : w6.heap[P4]? = W.heap[P4]? := h6.block _ k4.lt
  have e5 : w6.heap[P5]? = W.heap[P5]? := h6.block _ k5.lt
  have eB : w6.heap[Bs]? = W.heap[Bs]? := h6.block _ kB.lt
  have eb : w6.heap[b]? = W.heap[b]? := h6.block _ (by omega)
  have l4 := k4.lt
  have l5 := k5.lt
  have f4 : Boxed w6 P4 26 v4 := e4.trans k4
  have f5 : Boxed w6 P5 26 v5 := e5.trans k5
  have fB : Boxed w6 Bs T vB := eB.trans kB
  refine ⟨?_, ⟨?_, ?_⟩, ⟨g1, g2, n, ?_, ?_, ?_, ?_, l1, l2, hn⟩, ?_, ?_⟩
  · refine KeepsFrom.trans ⟨h6.size, fun k o _ hk _ => (h6.block k (Array.getElem?_eq_some_iff.1 hk).1).trans hk⟩ (((KeepsOthers.setCell _ _ _).trans (KeepsOthers.setCell _ _ _)).from _)
  · rw [heap_setCell_ne _ _ _ _ _ hB5, heap_setCell_ne _ _ _ _ _ hB4]; exact eB
  · rw [heap_setCell_ne _ _ _ _ _ (by omega), heap_setCell_ne _ _ _ _ _ (by omega)]; exact eb
  · exact (f4.set _).other h45 _
  · exact (f5.other (Ne.symm h45) _).set _
  · exact t1.kept (by rw [heap_setCell_ne _ _ _ _ _ (by omega), heap_setCell_ne _ _ _ _ _ (by omega)])
  · exact t2.kept (by rw [heap_setCell_ne _ _ _ _ _ (by omega), heap_setCell_ne _ _ _ _ _ (by omega)])
  · exact (fB.other hB4 _).other hB5 _
  · exact ((hbel.trans (h6.mono hz)).setCell (p := ⟨P4, 0, none⟩) hP4 _).setCell (p := ⟨P5, 0, none⟩) hP5 _
set_option maxHeartbeats 8000000 in
theorem parityOf_in (a : Option Addr) (c n N : Nat) (es : List StringV) (w : World) (hN : N = es.length) (h1 : 1 ≤ N) (h2 : N ≤ 128) (hn1 : 1 ≤ n) (hn2 : n ≤ 64) (hz : ∀ e ∈ es, e.f0.size = n) (h : SlS rowString w a es) :
    CallsIn Fence.wide 4 Try.prog 47 #[.slice a N c] w fun e w' => e = .returned (.tuple #[.string ⟨(pP es n (rndsB N N)).toArray⟩, .string ⟨(pQ es n (rndsB N N)).toArray⟩]) ∧ Below w.heap.size w w' := by
  obtain ⟨e0, he0⟩ : ∃ e0, es[0]? = some e0 := ⟨es[0]'(by omega), by simp⟩
  obtain ⟨b, off, rfl, hbl, hc0⟩ := SlS.at rowString_len h he0
  have hcs : ∀ k e, es[k]? = some e → w.cell? ⟨b, off + k, none⟩ = some (.string e.f0) := by
    intro k e hk
    obtain ⟨b', off', hv, _, hc⟩ := SlS.at rowString_len h hk
    cases hv
    have := hc 0 _ rfl
    simpa using this
  have hc0 : w.cell? ⟨b, off, none⟩ = some (.string e0.f0) := by have := hcs 0 e0 he0; simpa using this
  have hz0 : e0.f0.size = n := hz e0 (List.mem_of_getElem? he0)
  have HC := Lib.hid hcs
  have HZ := Lib.hid hz
  have HZ0 := Lib.hid hz0
  have HN := Lib.hid hN
  have hmk : ∀ w : World, (Instr.makeSlice 26 (.int .i64 (e0.f0.size : Int)) (.int .i64 (e0.f0.size : Int))).run Try.prog w = .ok (.slice (some ⟨w.heap.size, 0, none⟩) n n) (w.alloc (.cells (madeCells #[Value.int .u8 0] n) 5)) := fun w => by rw [hz0]; exact gfMake n (by omega) w
  have hMS := World.size_alloc w (.cells (madeCells #[Value.int .u8 0] n) 5)
  have MT := Lib.hid (TBk.made w n 5)
  have MB := Lib.hid (show Below w.heap.size w (w.alloc (.cells (madeCells #[Value.int .u8 0] n) 5)) from (Below.refl _ _).alloc (Nat.le_refl _) _)
  clear h he0 hcs hz hz0 hN
  generalize w.alloc (.cells (madeCells #[Value.int .u8 0] n) 5) = W1 at *
  refine callsIn_of_wp_marks Try.func47 rfl trivial ?_ rfl
  simp only [Try.ntmps47, List.size_toArray, List.length_cons, List.length_nil, Nat.reduceAdd, Nat.reduceSub, Array.replicate_succ, Array.replicate_zero, List.push_toArray, List.append_toArray, List.nil_append, List.cons_append]
  gi_wp2_with fail
  have BA4 := Boxed.new (w.alloc (Obj.cells (madeCells #[Value.int IntKind.u8 0] n) 5)) 26 (.slice (some ⟨w.heap.size, 0, none⟩) n n)
  rw [World.size_alloc] at BA4
  have hAs : ((w.alloc (Obj.cells (madeCells #[Value.int IntKind.u8 0] n) 5)).alloc (Obj.cells #[Value.slice (some ⟨w.heap.size, 0, none⟩) n n] 26)).heap.size = w.heap.size + 1 + 1 := by rw [World.size_alloc, World.size_alloc]
  have TA := Lib.hid (show TBk ((w.alloc (Obj.cells (madeCells #[Value.int IntKind.u8 0] n) 5)).alloc (Obj.cells #[Value.slice (some ⟨w.heap.size, 0, none⟩) n n] 26)) w.heap.size (List.replicate n 0) from (TBk.made w n 5).kept (Below.heap_alloc _ _ _ (by simp)))
  have BA := Lib.hid (show Below w.heap.size w ((w.alloc (Obj.cells (madeCells #[Value.int IntKind.u8 0] n) 5)).alloc (Obj.cells #[Value.slice (some ⟨w.heap.size, 0, none⟩) n n] 26)) from ((Below.refl _ _).alloc (Nat.le_refl _) _).alloc (by simp) _)
  generalize (w.alloc (Obj.cells (madeCells #[Value.int IntKind.u8 0] n) 5)).alloc (Obj.cells #[Value.slice (some ⟨w.heap.size, 0, none⟩) n n] 26) = WA at *
  clear hmk
  have CL := Lib.hid (cloneB_any w.heap.size n (List.replicate n 0) n WA (by simp) TA.out hn1 hn2)
  have HA4 := Lib.hid BA4
  clear BA4
  refine ⟨trivial, (callsIn_wide.2 CL.out).mono ?_⟩
  rintro e w2 ⟨g5, c5, rfl, t5, hg5, b2⟩
  have T25 := Lib.hid t5
  have T24 := Lib.hid (TBk.on b2 (by rw [hAs]; omega) TA.out)
  have B24 := Lib.hid (show Boxed w2 (w.heap.size + 1) 26 (.slice (some ⟨w.heap.size, 0, none⟩) n n) from (b2.block _ HA4.out.lt).trans HA4.out)
  have B2 := Lib.hid (BA.out.trans (b2.mono BA.out.size))
  have hs2 : w.heap.size + 1 + 1 ≤ w2.heap.size := by rw [← hAs]; exact b2.size
  have hg5b := T25.out.lt (by simp; omega)
  have hg5c : w.heap.size + 1 + 1 ≤ g5 := by rw [← hAs]; exact hg5
  clear t5 b2 CL TA HA4 BA hAs hg5 MT MB hMS
  gi_wp2_with fail
  refine ⟨trivial, (back_in _ _ _ _ _).mono ?_⟩
  rintro e w3 ⟨rfl, rfl⟩
  have hs3 : (w2.alloc (Obj.cells #[Value.slice (some ⟨g5, 0, none⟩) n c5] 26)).heap.size = w2.heap.size + 1 := World.size_alloc _ _
  have B5 := (Boxed.new w2 26 (.slice (some ⟨g5, 0, none⟩) n c5)).alloc (.cells #[Value.slice (some ⟨b, off, none⟩) N c] 33)
  have BS := Boxed.new (w2.alloc (Obj.cells #[Value.slice (some ⟨g5, 0, none⟩) n c5] 26)) 33 (Value.slice (some ⟨b, off, none⟩) N c)
  rw [hs3] at BS
  have hs4 : ((w2.alloc (Obj.cells #[Value.slice (some ⟨g5, 0, none⟩) n c5] 26)).alloc (.cells #[Value.slice (some ⟨b, off, none⟩) N c] 33)).heap.size = w2.heap.size + 1 + 1 := by rw [World.size_alloc, hs3]
  have b34 : Below w2.heap.size w2 ((w2.alloc (Obj.cells #[Value.slice (some ⟨g5, 0, none⟩) n c5] 26)).alloc (.cells #[Value.slice (some ⟨b, off, none⟩) N c] 33)) := ((Below.refl _ _).alloc (Nat.le_refl _) _).alloc (by simp) _
  gi_wp2
  generalize (w2.alloc (Obj.cells #[Value.slice (some ⟨g5, 0, none⟩) n c5] 26)).alloc (.cells #[Value.slice (some ⟨b, off, none⟩) N c] 33) = W0 at *
  have T04 := T24.out.below b34 (by omega)
  have T05 := T25.out.below b34 hg5b
  have B04 : Boxed W0 (w.heap.size + 1) 26 (.slice (some ⟨w.heap.size, 0, none⟩) n n) := (b34.block _ B24.out.lt).trans B24.out
  have B0 : Below w.heap.size w W0 := B2.out.trans (b34.mono B2.out.size)
  clear hs3 b34 T24 T25 B24 B2
  have hP54 : w.heap.size + 1 < w2.heap.size := by omega
  have hZP : w.heap.size ≤ w.heap.size + 1 := by omega
  have hZ5 : w.heap.size ≤ w2.heap.size := by omega
  have hbW : b < w.heap.size := hbl
  clear hs2 hg5b hg5c hbl
  generalize w.heap.size + 1 = P4 at *
  generalize w2.heap.size = P5 at *
  have hpl0 : (List.replicate n (0 : UInt8)).length = n := by simp
  have HSZ := Lib.hid (fun (x : Fin N) => show (bkS es x).size = n from by
    unfold bkS
    have hx : N - 1 - x.val < es.length := by have := HN.out; have := x.isLt; omega
    have : es.getD (N - 1 - x.val) ⟨⟨#[]⟩⟩ = es[N - 1 - x.val] := by simp [List.getD, hx]
    rw [this]
    exact HZ.out _ (List.getElem_mem hx))
  refine wpIn_rangeFunc_ownG rfl (by decide) (gf := 63) (lb := #[.pointer (some ⟨P5 + 1, 0, none⟩)]) rfl trivial (enters_of Try.func63 (by kernel_rfl) rfl)
    (back_stops 3 (P5 + 1) b off c N es HN.out h1 h2 W0 BS (by omega) (fun k e he => by rw [B0.cell (p := ⟨b, off + k, none⟩) hbW]; exact HC.out k e he)) KBb.trans (kbb_obj (by omega) (by omega)) (Below.refl _ _) (fun _ => rfl)
    (fun pre W => (PQ n P4 P5 (pP es n pre) (pQ es n pre) W ∧ Boxed W (P5 + 1) 33 (Value.slice (some ⟨b, off, none⟩) N c)) ∧ Below w.heap.size w W)
    (fun _ _ _ => False)
    (OwnFrom.and (OwnFrom.and (Own.from (PQ.own n P4 P5 (pP es n) (pQ es n)) _) (Own.from (boxed_own _ _ _) _)) (ownFrom_below (Nat.le_refl _) (by omega)))
    (fun _ _ _ _ _ hs _ _ => hs)
    ⟨⟨⟨_, _, _, B04, B5, T04, T05, hpl0, hpl0, hn1⟩, BS⟩, B0⟩
    (fun x => { tmps := #[.slice (some ⟨b, off, none⟩) N c, undef, .string ⟨#[]⟩, .string ⟨#[]⟩, .pointer (some ⟨P4, 0, none⟩), .pointer (some ⟨P5, 0, none⟩), undef, .string (bkS es x), .slice (some ⟨b, off, none⟩) N c, .pointer (some ⟨b, off, none⟩), .string e0.f0, .int .i64 (e0.f0.size : Int), .slice (some ⟨w.heap.size, 0, none⟩) n n, .slice (some ⟨w.heap.size, 0, none⟩) n n, .slice (some ⟨g5, 0, none⟩) n c5, .slice (some ⟨b, off, none⟩) N c, .func (.func 63) #[] #[.pointer (some ⟨P5 + 1, 0, none⟩)], .int .i64 ((N : Int) - 1 - (x.val : Int)), .string (bkS es x), undef, undef, undef, undef, undef, undef, undef, undef, undef, undef, undef], defers := [] }) ?assign ?body ?done ?stop
  case assign =>
    intro l x W K hK
    dsimp only [bkEnc]
    gi_wp2
    exact hK
  case body =>
    rintro l pre x W ⟨⟨⟨gp, gq, cq, k4, k5, tp, tq, l1, l2, hn⟩, kB⟩, hB⟩ hlt
    have hsx := HSZ.out x
    have HPs := Lib.hid (pP_snoc es n pre x)
    have HQs := Lib.hid (pQ_snoc es n pre x)
    generalize bkS es x = s at *
    generalize pP es n pre = pl at *
    generalize pQ es n pre = ql at *
    have TP := Lib.hid tp
    have TQ := Lib.hid tq
    have HLQ := Lib.hid (tq.lt (by omega))
    have HML := Lib.hid (mL_len 2 l2)
    have S1 := Lib.hid (fun w (t : TBk w gp pl) => sumrs_any gp n pl s n w l1 t hsx hn1 hn2)
    have S2 := Lib.hid (fun w (t : TBk w gq ql) => multiple_any gq cq ql n 2 w l2 t (by omega) hn1 hn2)
    have S3 := Lib.hid (fun g w (t : TBk w g (mL 2 ql)) => sumrs_any g n (mL 2 ql) s n w HML.out t hsx hn1 hn2)
    have BX4 := Lib.hid k4
    have BX5 := Lib.hid k5
    have BXB := Lib.hid kB
    have HBW := Lib.hid hB
    have K4 := Lib.hid (fun w' (hb : Below W.heap.size W w') => show w'.cell? ⟨P4, 0, none⟩ = some (.slice (some ⟨gp, 0, none⟩) n n) from Boxed.cell ((hb.block _ BX4.out.lt).trans BX4.out))
    have K5 := Lib.hid (fun w' (hb : Below W.heap.size W w') => show w'.cell? ⟨P5, 0, none⟩ = some (.slice (some ⟨gq, 0, none⟩) n cq) from Boxed.cell ((hb.block _ BX5.out.lt).trans BX5.out))
    have F4 := Lib.hid (fun w' (hb : Below W.heap.size W w') => show w'.frozen? ⟨P4, 0, none⟩ = false from Boxed.frozen ((hb.block _ BX4.out.lt).trans BX4.out))
    have F5 := Lib.hid (fun w' (hb : Below W.heap.size W w') => show w'.frozen? ⟨P5, 0, none⟩ = false from Boxed.frozen ((hb.block _ BX5.out.lt).trans BX5.out))
    have d4 := K4.out W (Below.refl _ _)
    have d5 := K5.out W (Below.refl _ _)
    have HL1 := Lib.hid (And.intro l1 (And.intro l2 hsx))
    clear k4 k5 kB tp tq hB l1 l2 hsx
    gi_wp2
    refine wpIn_region_any (by kernel_rfl) ?_
    try (change wpAnyIn _ _ _ _ _ _ _ _ _ (World.drew _))
    refine (wpAnyIn_flat (by kernel_rfl) _ _ _ _).2 ?_
    refine wpAnyIn_take (i := 1) (oi := { dst := some 20, op := Op.move (Operand.tmp 7), type := 9, pos := "l23_parity.go:65", after := #[], guard := none }) (v := ?_) rfl rfl (by kernel_rfl) (by kernel_rfl) (by kernel_rfl) (fun _ _ _ h => h) ⟨Or.inl ⟨by rfl, ?hy⟩, fun _ => rfl⟩ ?_
    case hy => (intro w'; go_simp; try with_reducible rfl)
    simp only [Act.put, List.setIfInBounds_toArray, List.set_cons_zero, List.set_cons_succ]
    refine wpAnyIn_take (i := 5) (oi := { dst := some 24, op := Op.move (Operand.tmp 7), type := 9, pos := "l23_parity.go:65", after := #[], guard := none }) (v := ?_) rfl rfl (by kernel_rfl) (by kernel_rfl) (by kernel_rfl) (fun _ _ _ h => h) ⟨Or.inl ⟨by rfl, ?hy⟩, fun _ => rfl⟩ ?_
    case hy => (intro w'; go_simp; try with_reducible rfl)
    simp only [Act.put, List.setIfInBounds_toArray, List.set_cons_zero, List.set_cons_succ]
    refine wpAnyIn_ready (rs := [0, 3]) (by kernel_rfl) (by simp) ?_
    refine AllReadyIn.cons (o := { dst := some 19, op := Op.load 26 (Operand.tmp 4), type := 26, pos := "l23_parity.go:65", after := #[], guard := none }) rfl (fun K hK => ?_) (AllReadyIn.cons (o := { dst := some 22, op := Op.load 26 (Operand.tmp 5), type := 26, pos := "l23_parity.go:65", after := #[], guard := none }) rfl (fun K hK => ?_) AllReadyIn.nil)
    · go_simp
      refine hK _ _ ?_
      clear hK K
      try simp only [Act.put, List.setIfInBounds_toArray, List.set_cons_zero, List.set_cons_succ]
      refine wpAnyIn_ready (rs := [2, 3]) (by kernel_rfl) (by simp) ?_
      refine AllReadyIn.cons (o := { dst := some 21, op := Op.call { callee := Callee.value (Operand.func 56), args := #[Operand.tmp 19, Operand.tmp 20], argTypes := #[26, 9] }, type := 26, pos := "l23_parity.go:65", after := #[{ on := 0, ground := Ground.data }, { on := 1, ground := Ground.data }], guard := none }) rfl (fun K hK => ?_) (AllReadyIn.cons (o := { dst := some 22, op := Op.load 26 (Operand.tmp 5), type := 26, pos := "l23_parity.go:65", after := #[], guard := none }) rfl (fun K hK => ?_) AllReadyIn.nil)
      · go_simp
        refine ⟨trivial, (callsIn_wide.2 (S1.out _ TP.out.drew)).mono ?_⟩
        rintro e w3 ⟨rfl, t3, b3, s3⟩
        have B3 := Lib.hid (((Below.refl W.heap.size W).drew).trans b3)
        have T3 := Lib.hid t3
        have TQ3 := Lib.hid (TBk.on b3 HLQ.out TQ.out.drew)
        have d43 := K4.out w3 B3.out
        have d53 := K5.out w3 B3.out
        clear b3 t3
        refine hK _ _ ?_
        clear hK K
        try simp only [Act.put, List.setIfInBounds_toArray, List.set_cons_zero, List.set_cons_succ]
        refine wpAnyIn_ready (rs := [3]) (by kernel_rfl) (by simp) ?_
        refine AllReadyIn.cons (o := { dst := some 22, op := Op.load 26 (Operand.tmp 5), type := 26, pos := "l23_parity.go:65", after := #[], guard := none }) rfl (fun K hK => ?_) AllReadyIn.nil
        go_simp
        refine hK _ _ ?_
        clear hK K
        try simp only [Act.put, List.setIfInBounds_toArray, List.set_cons_zero, List.set_cons_succ]
        refine wpAnyIn_ready (rs := [4]) (by kernel_rfl) (by simp) ?_
        refine AllReadyIn.cons (o := { dst := some 23, op := Op.call { callee := Callee.value (Operand.func 43), args := #[Operand.tmp 22, Operand.const (Value.int IntKind.i64 2)], argTypes := #[26, 2] }, type := 26, pos := "l23_parity.go:65", after := #[{ on := 3, ground := Ground.data }, { on := 2, ground := Ground.chain }], guard := none }) rfl (fun K hK => ?_) AllReadyIn.nil
        go_simp
        refine ⟨trivial, (callsIn_wide.2 (S2.out _ TQ3.out)).mono ?_⟩
        rintro e w4 ⟨rfl, t4, b4, s4⟩
        have B4 := Lib.hid (B3.out.trans (b4.mono B3.out.size))
        have T4 := Lib.hid t4
        have T34 := Lib.hid (TBk.on b4 s3 T3.out)
        have hs4 := b4.size
        clear b4 t4
        refine hK _ _ ?_
        clear hK K
        try simp only [Act.put, List.setIfInBounds_toArray, List.set_cons_zero, List.set_cons_succ]
        refine wpAnyIn_ready (rs := [6]) (by kernel_rfl) (by simp) ?_
        refine AllReadyIn.cons (o := { dst := some 25, op := Op.call { callee := Callee.value (Operand.func 56), args := #[Operand.tmp 23, Operand.tmp 24], argTypes := #[26, 9] }, type := 26, pos := "l23_parity.go:65", after := #[{ on := 4, ground := Ground.data }, { on := 5, ground := Ground.data }, { on := 4, ground := Ground.chain }], guard := none }) rfl (fun K hK => ?_) AllReadyIn.nil
        go_simp
        refine ⟨trivial, (callsIn_wide.2 (S3.out _ _ T4.out)).mono ?_⟩
        rintro e w6 ⟨rfl, t6, b6, s6⟩
        have B6 := Lib.hid (B4.out.trans (b6.mono B4.out.size))
        have T6 := Lib.hid t6
        have T36 := Lib.hid (TBk.on b6 (Nat.lt_of_lt_of_le s3 hs4) T34.out)
        have d46 := K4.out w6 B6.out
        have d56 := K5.out w6 B6.out
        have f46 := F4.out w6 B6.out
        have f56 := F5.out w6 B6.out
        clear b6 t6
        refine hK _ _ ?_
        clear hK K
        try simp only [Act.put, List.setIfInBounds_toArray, List.set_cons_zero, List.set_cons_succ]
        refine wpAnyIn_ready (rs := [7]) (by kernel_rfl) (by simp) ?_
        refine AllReadyIn.cons (o := { dst := none, op := Op.store 26 (Operand.tmp 4) (Operand.tmp 21), type := 0, pos := "l23_parity.go:65", after := #[{ on := 2, ground := Ground.data }, { on := 6, ground := Ground.chain }, { on := 0, ground := Ground.phase }, { on := 1, ground := Ground.phase }, { on := 2, ground := Ground.phase }, { on := 3, ground := Ground.textOnly Departure.inlinedCapture }, { on := 4, ground := Ground.textOnly Departure.lateStoresUnsure }, { on := 5, ground := Ground.textOnly Departure.lateStores }, { on := 6, ground := Ground.textOnly Departure.lateStoresUnsure }], guard := none }) rfl (fun K hK => ?_) AllReadyIn.nil
        go_simp
        refine hK _ _ ?_
        clear hK K
        try simp only [Act.put, List.setIfInBounds_toArray, List.set_cons_zero, List.set_cons_succ]
        refine wpAnyIn_ready (rs := [8]) (by kernel_rfl) (by simp) ?_
        refine AllReadyIn.cons (o := { dst := none, op := Op.store 26 (Operand.tmp 5) (Operand.tmp 25), type := 0, pos := "l23_parity.go:65", after := #[{ on := 6, ground := Ground.data }, { on := 7, ground := Ground.chain }, { on := 0, ground := Ground.phase }, { on := 1, ground := Ground.phase }, { on := 2, ground := Ground.phase }, { on := 3, ground := Ground.phase }, { on := 4, ground := Ground.phase }, { on := 5, ground := Ground.phase }, { on := 6, ground := Ground.phase }, { on := 7, ground := Ground.phase }], guard := none }) rfl (fun K hK => ?_) AllReadyIn.nil
        go_simp
        refine hK _ _ ?_
        clear hK K
        try simp only [Act.put, List.setIfInBounds_toArray, List.set_cons_zero, List.set_cons_succ]
        refine wpAnyIn_done (by kernel_rfl) ?_ _
        gi_wp2
        have HF := pq_next n P4 P5 (P5 + 1) b w.heap.size W.heap.size w4.heap.size W0.heap.size w W w6 33 (.slice (some ⟨b, off, none⟩) N c) _ _ _ _ hZP hZ5 (by omega) (by omega) (by omega) hbW BX4.out BX5.out BXB.out HBW.out B6.out HBW.out.size (Nat.le_refl _) B4.out.size T36.out T6.out (xL_len HL1.out.1 (str_len s n HL1.out.2.2)) (xL_len HML.out (str_len s n HL1.out.2.2)) hn1
        exact ⟨HF.1, HF.2.1, ⟨by rw [HPs.out, HQs.out]; exact HF.2.2.1, HF.2.2.2.1⟩, HF.2.2.2.2⟩
      · go_simp
        refine hK _ _ ?_
        clear hK K
        try simp only [Act.put, List.setIfInBounds_toArray, List.set_cons_zero, List.set_cons_succ]
        refine wpAnyIn_ready (rs := [2]) (by kernel_rfl) (by simp) ?_
        refine AllReadyIn.cons (o := { dst := some 21, op := Op.call { callee := Callee.value (Operand.func 56), args := #[Operand.tmp 19, Operand.tmp 20], argTypes := #[26, 9] }, type := 26, pos := "l23_parity.go:65", after := #[{ on := 0, ground := Ground.data }, { on := 1, ground := Ground.data }], guard := none }) rfl (fun K hK => ?_) AllReadyIn.nil
        go_simp
        refine ⟨trivial, (callsIn_wide.2 (S1.out _ TP.out.drew)).mono ?_⟩
        rintro e w3 ⟨rfl, t3, b3, s3⟩
        have B3 := Lib.hid (((Below.refl W.heap.size W).drew).trans b3)
        have T3 := Lib.hid t3
        have TQ3 := Lib.hid (TBk.on b3 HLQ.out TQ.out.drew)
        have d43 := K4.out w3 B3.out
        have d53 := K5.out w3 B3.out
        clear b3 t3
        refine hK _ _ ?_
        clear hK K
        try simp only [Act.put, List.setIfInBounds_toArray, List.set_cons_zero, List.set_cons_succ]
        refine wpAnyIn_ready (rs := [4]) (by kernel_rfl) (by simp) ?_
        refine AllReadyIn.cons (o := { dst := some 23, op := Op.call { callee := Callee.value (Operand.func 43), args := #[Operand.tmp 22, Operand.const (Value.int IntKind.i64 2)], argTypes := #[26, 2] }, type := 26, pos := "l23_parity.go:65", after := #[{ on := 3, ground := Ground.data }, { on := 2, ground := Ground.chain }], guard := none }) rfl (fun K hK => ?_) AllReadyIn.nil
        go_simp
        refine ⟨trivial, (callsIn_wide.2 (S2.out _ TQ3.out)).mono ?_⟩
        rintro e w4 ⟨rfl, t4, b4, s4⟩
        have B4 := Lib.hid (B3.out.trans (b4.mono B3.out.size))
        have T4 := Lib.hid t4
        have T34 := Lib.hid (TBk.on b4 s3 T3.out)
        have hs4 := b4.size
        clear b4 t4
        refine hK _ _ ?_
        clear hK K
        try simp only [Act.put, List.setIfInBounds_toArray, List.set_cons_zero, List.set_cons_succ]
        refine wpAnyIn_ready (rs := [6]) (by kernel_rfl) (by simp) ?_
        refine AllReadyIn.cons (o := { dst := some 25, op := Op.call { callee := Callee.value (Operand.func 56), args := #[Operand.tmp 23, Operand.tmp 24], argTypes := #[26, 9] }, type := 26, pos := "l23_parity.go:65", after := #[{ on := 4, ground := Ground.data }, { on := 5, ground := Ground.data }, { on := 4, ground := Ground.chain }], guard := none }) rfl (fun K hK => ?_) AllReadyIn.nil
        go_simp
        refine ⟨trivial, (callsIn_wide.2 (S3.out _ _ T4.out)).mono ?_⟩
        rintro e w6 ⟨rfl, t6, b6, s6⟩
        have B6 := Lib.hid (B4.out.trans (b6.mono B4.out.size))
        have T6 := Lib.hid t6
        have T36 := Lib.hid (TBk.on b6 (Nat.lt_of_lt_of_le s3 hs4) T34.out)
        have d46 := K4.out w6 B6.out
        have d56 := K5.out w6 B6.out
        have f46 := F4.out w6 B6.out
        have f56 := F5.out w6 B6.out
        clear b6 t6
        refine hK _ _ ?_
        clear hK K
        try simp only [Act.put, List.setIfInBounds_toArray, List.set_cons_zero, List.set_cons_succ]
        refine wpAnyIn_ready (rs := [7]) (by kernel_rfl) (by simp) ?_
        refine AllReadyIn.cons (o := { dst := none, op := Op.store 26 (Operand.tmp 4) (Operand.tmp 21), type := 0, pos := "l23_parity.go:65", after := #[{ on := 2, ground := Ground.data }, { on := 6, ground := Ground.chain }, { on := 0, ground := Ground.phase }, { on := 1, ground := Ground.phase }, { on := 2, ground := Ground.phase }, { on := 3, ground := Ground.textOnly Departure.inlinedCapture }, { on := 4, ground := Ground.textOnly Departure.lateStoresUnsure }, { on := 5, ground := Ground.textOnly Departure.lateStores }, { on := 6, ground := Ground.textOnly Departure.lateStoresUnsure }], guard := none }) rfl (fun K hK => ?_) AllReadyIn.nil
        go_simp
        refine hK _ _ ?_
        clear hK K
        try simp only [Act.put, List.setIfInBounds_toArray, List.set_cons_zero, List.set_cons_succ]
        refine wpAnyIn_ready (rs := [8]) (by kernel_rfl) (by simp) ?_
        refine AllReadyIn.cons (o := { dst := none, op := Op.store 26 (Operand.tmp 5) (Operand.tmp 25), type := 0, pos := "l23_parity.go:65", after := #[{ on := 6, ground := Ground.data }, { on := 7, ground := Ground.chain }, { on := 0, ground := Ground.phase }, { on := 1, ground := Ground.phase }, { on := 2, ground := Ground.phase }, { on := 3, ground := Ground.phase }, { on := 4, ground := Ground.phase }, { on := 5, ground := Ground.phase }, { on := 6, ground := Ground.phase }, { on := 7, ground := Ground.phase }], guard := none }) rfl (fun K hK => ?_) AllReadyIn.nil
        go_simp
        refine hK _ _ ?_
        clear hK K
        try simp only [Act.put, List.setIfInBounds_toArray, List.set_cons_zero, List.set_cons_succ]
        refine wpAnyIn_done (by kernel_rfl) ?_ _
        gi_wp2
        have HF := pq_next n P4 P5 (P5 + 1) b w.heap.size W.heap.size w4.heap.size W0.heap.size w W w6 33 (.slice (some ⟨b, off, none⟩) N c) _ _ _ _ hZP hZ5 (by omega) (by omega) (by omega) hbW BX4.out BX5.out BXB.out HBW.out B6.out HBW.out.size (Nat.le_refl _) B4.out.size T36.out T6.out (xL_len HL1.out.1 (str_len s n HL1.out.2.2)) (xL_len HML.out (str_len s n HL1.out.2.2)) hn1
        exact ⟨HF.1, HF.2.1, ⟨by rw [HPs.out, HQs.out]; exact HF.2.2.1, HF.2.2.2.1⟩, HF.2.2.2.2⟩
    · go_simp
      refine hK _ _ ?_
      clear hK K
      try simp only [Act.put, List.setIfInBounds_toArray, List.set_cons_zero, List.set_cons_succ]
      refine wpAnyIn_ready (rs := [0]) (by kernel_rfl) (by simp) ?_
      refine AllReadyIn.cons (o := { dst := some 19, op := Op.load 26 (Operand.tmp 4), type := 26, pos := "l23_parity.go:65", after := #[], guard := none }) rfl (fun K hK => ?_) AllReadyIn.nil
      go_simp
      refine hK _ _ ?_
      clear hK K
      try simp only [Act.put, List.setIfInBounds_toArray, List.set_cons_zero, List.set_cons_succ]
      refine wpAnyIn_ready (rs := [2]) (by kernel_rfl) (by simp) ?_
      refine AllReadyIn.cons (o := { dst := some 21, op := Op.call { callee := Callee.value (Operand.func 56), args := #[Operand.tmp 19, Operand.tmp 20], argTypes := #[26, 9] }, type := 26, pos := "l23_parity.go:65", after := #[{ on := 0, ground := Ground.data }, { on := 1, ground := Ground.data }], guard := none }) rfl (fun K hK => ?_) AllReadyIn.nil
      go_simp
      refine ⟨trivial, (callsIn_wide.2 (S1.out _ TP.out.drew)).mono ?_⟩
      rintro e w3 ⟨rfl, t3, b3, s3⟩
      have B3 := Lib.hid (((Below.refl W.heap.size W).drew).trans b3)
      have T3 := Lib.hid t3
      have TQ3 := Lib.hid (TBk.on b3 HLQ.out TQ.out.drew)
      have d43 := K4.out w3 B3.out
      have d53 := K5.out w3 B3.out
      clear b3 t3
      refine hK _ _ ?_
      clear hK K
      try simp only [Act.put, List.setIfInBounds_toArray, List.set_cons_zero, List.set_cons_succ]
      refine wpAnyIn_ready (rs := [4]) (by kernel_rfl) (by simp) ?_
      refine AllReadyIn.cons (o := { dst := some 23, op := Op.call { callee := Callee.value (Operand.func 43), args := #[Operand.tmp 22, Operand.const (Value.int IntKind.i64 2)], argTypes := #[26, 2] }, type := 26, pos := "l23_parity.go:65", after := #[{ on := 3, ground := Ground.data }, { on := 2, ground := Ground.chain }], guard := none }) rfl (fun K hK => ?_) AllReadyIn.nil
      go_simp
      refine ⟨trivial, (callsIn_wide.2 (S2.out _ TQ3.out)).mono ?_⟩
      rintro e w4 ⟨rfl, t4, b4, s4⟩
      have B4 := Lib.hid (B3.out.trans (b4.mono B3.out.size))
      have T4 := Lib.hid t4
      have T34 := Lib.hid (TBk.on b4 s3 T3.out)
      have hs4 := b4.size
      clear b4 t4
      refine hK _ _ ?_
      clear hK K
      try simp only [Act.put, List.setIfInBounds_toArray, List.set_cons_zero, List.set_cons_succ]
      refine wpAnyIn_ready (rs := [6]) (by kernel_rfl) (by simp) ?_
      refine AllReadyIn.cons (o := { dst := some 25, op := Op.call { callee := Callee.value (Operand.func 56), args := #[Operand.tmp 23, Operand.tmp 24], argTypes := #[26, 9] }, type := 26, pos := "l23_parity.go:65", after := #[{ on := 4, ground := Ground.data }, { on := 5, ground := Ground.data }, { on := 4, ground := Ground.chain }], guard := none }) rfl (fun K hK => ?_) AllReadyIn.nil
      go_simp
      refine ⟨trivial, (callsIn_wide.2 (S3.out _ _ T4.out)).mono ?_⟩
      rintro e w6 ⟨rfl, t6, b6, s6⟩
      have B6 := Lib.hid (B4.out.trans (b6.mono B4.out.size))
      have T6 := Lib.hid t6
      have T36 := Lib.hid (TBk.on b6 (Nat.lt_of_lt_of_le s3 hs4) T34.out)
      have d46 := K4.out w6 B6.out
      have d56 := K5.out w6 B6.out
      have f46 := F4.out w6 B6.out
      have f56 := F5.out w6 B6.out
      clear b6 t6
      refine hK _ _ ?_
      clear hK K
      try simp only [Act.put, List.setIfInBounds_toArray, List.set_cons_zero, List.set_cons_succ]
      refine wpAnyIn_ready (rs := [7]) (by kernel_rfl) (by simp) ?_
      refine AllReadyIn.cons (o := { dst := none, op := Op.store 26 (Operand.tmp 4) (Operand.tmp 21), type := 0, pos := "l23_parity.go:65", after := #[{ on := 2, ground := Ground.data }, { on := 6, ground := Ground.chain }, { on := 0, ground := Ground.phase }, { on := 1, ground := Ground.phase }, { on := 2, ground := Ground.phase }, { on := 3, ground := Ground.textOnly Departure.inlinedCapture }, { on := 4, ground := Ground.textOnly Departure.lateStoresUnsure }, { on := 5, ground := Ground.textOnly Departure.lateStores }, { on := 6, ground := Ground.textOnly Departure.lateStoresUnsure }], guard := none }) rfl (fun K hK => ?_) AllReadyIn.nil
      go_simp
      refine hK _ _ ?_
      clear hK K
      try simp only [Act.put, List.setIfInBounds_toArray, List.set_cons_zero, List.set_cons_succ]
      refine wpAnyIn_ready (rs := [8]) (by kernel_rfl) (by simp) ?_
      refine AllReadyIn.cons (o := { dst := none, op := Op.store 26 (Operand.tmp 5) (Operand.tmp 25), type := 0, pos := "l23_parity.go:65", after := #[{ on := 6, ground := Ground.data }, { on := 7, ground := Ground.chain }, { on := 0, ground := Ground.phase }, { on := 1, ground := Ground.phase }, { on := 2, ground := Ground.phase }, { on := 3, ground := Ground.phase }, { on := 4, ground := Ground.phase }, { on := 5, ground := Ground.phase }, { on := 6, ground := Ground.phase }, { on := 7, ground := Ground.phase }], guard := none }) rfl (fun K hK => ?_) AllReadyIn.nil
      go_simp
      refine hK _ _ ?_
      clear hK K
      try simp only [Act.put, List.setIfInBounds_toArray, List.set_cons_zero, List.set_cons_succ]
      refine wpAnyIn_done (by kernel_rfl) ?_ _
      gi_wp2
      have HF := pq_next n P4 P5 (P5 + 1) b w.heap.size W.heap.size w4.heap.size W0.heap.size w W w6 33 (.slice (some ⟨b, off, none⟩) N c) _ _ _ _ hZP hZ5 (by omega) (by omega) (by omega) hbW BX4.out BX5.out BXB.out HBW.out B6.out HBW.out.size (Nat.le_refl _) B4.out.size T36.out T6.out (xL_len HL1.out.1 (str_len s n HL1.out.2.2)) (xL_len HML.out (str_len s n HL1.out.2.2)) hn1
      exact ⟨HF.1, HF.2.1, ⟨by rw [HPs.out, HQs.out]; exact HF.2.2.1, HF.2.2.2.1⟩, HF.2.2.2.2⟩
  case done =>
    rintro D ys W hD rfl ⟨⟨⟨gp, gq, cq, k4, k5, tp, tq, l1, l2, hn⟩, kB⟩, hB⟩ hK
    have d4 := k4.cell
    have d5 := k5.cell
    have cvP := TBk.conv tp.drew n n l1
    have cvQ := TBk.conv tq.drew n cq l2
    have HK := Lib.hid hK
    clear k4 k5 kB tp tq
    gi_wp2
    refine wpIn_wide.2 ?_
    go_region
    all_goals
      gi_wp2
      refine ⟨by simp, .inl ⟨_, _, rfl, run_takeDeferred (show W.drew.heap[D]? = _ from HK.out), ?_⟩⟩
      refine ⟨_, results_tmp2 rfl _ _ _, rfl, hB.drew.trans (belowK_b (w := w) (Nat.le_refl _) W.drew D _ _ (by omega) HK.out rfl rfl)⟩
  case stop =>
    rintro D c pre W _ _ h _
    exact h.elim
theorem parityOf_o (a : Option Addr) (c n N : Nat) (es : List StringV) (w : World) (hN : N = es.length) (h1 : 1 ≤ N) (h2 : N ≤ 128) (hn1 : 1 ≤ n) (hn2 : n ≤ 64) (hz : ∀ e ∈ es, e.f0.size = n) (h : SlS rowString w a es) :
    Calls Try.prog 47 #[.slice a N c] w fun e w' => e = .returned (.tuple #[.string ⟨(pP es n (rndsB N N)).toArray⟩, .string ⟨(pQ es n (rndsB N N)).toArray⟩]) ∧ Below w.heap.size w w' :=
  callsIn_wide.1 (parityOf_in a c n N es w hN h1 h2 hn1 hn2 hz h)
end Go.Proofs.Ytpgcmgbflcdjiaa
