/- impl.groupsIn: the iterator's contract; impl.GcrFaults. -/
import Derived.RangeFuncNested
import Derived.RangeFuncBound
import Derived.RangeFuncCalls
import Derived.RangeFuncLeaves
import Derived.RangeFuncBox
import Derived.RangeFuncWrites
import Derived.Shelf.Abstract
import Derived.WalkKit
import Derived.OwnWalkIn
import Derived.TacticsInMore
import Derived.LoopNIn
import Derived.LoopIn
import Derived.Laws.CopyOwn
import Derived.Test.YtffefhgemmjkoaaDoorGcrFaults
namespace Go.Proofs.YtffefhgemmjkoaaDoor
open Go.RowKit
set_option maxRecDepth 20000
set_option linter.unusedVariables false
open Go.Shelf
attribute [local go_sem] Oper.semAt_some
/-- An array stored into its variable, inside a fence. -/
theorem wpListIn_store_rowTo {F : Fence} {n : Nat} {P : Program} (w : World) {ops : Array Oper} {rest : List Oper} {o : Oper} {a : Act} {Q : Exit → Act → World → Prop} (hgd : o.guard = none) (ty : TypeId) (x y : Operand) (ho : o.op = .store ty x y) (hd : o.dst = none)
    (g : Nat) (cells : Array Value) (hx : a.eval x = .pointer (some ⟨g, 0, none⟩)) (hy : a.eval y = .agg cells)
    (t : TypeId) (old : Array Value) (hg : w.heap[g]? = some (.cells old t (0, 0))) (hi : (P.info? ty).map (·.size) = some cells.size)
    (hold : old.size = cells.size) (h1 : cells.all (·.oneCell') = true)
    (h : wpListIn F n P ops Q rest a (w.setRow g cells)) : wpListIn F n P ops Q (o :: rest) a w := by
  refine wpListIn_plain hgd fun K hK' => ?_
  unfold Oper.wpIn
  refine ⟨by simp [Oper.about, ho], ?_⟩
  rw [Oper.semAt_plain F _ _ (by rw [ho]; intro c hc'; cases hc')]
  simp only [execOp, ho, hx, hy, Instr.storeAt, Instr.sureAddr, Sem.run_bind, Sem.run_pure, Result.andThen_ok, run_storeVar_row w g t ty old cells hg hi hold h1]
  rw [Oper.uponIn_skip, hd]
  exact hK' _ _ h
def rndsG (n k : Nat) : List (Fin n) := (List.finRange n).take k
theorem rndsG_succ {n k : Nat} (h : k < n) : rndsG n (k + 1) = rndsG n k ++ [⟨k, h⟩] := by
  unfold rndsG
  rw [List.take_succ_eq_append_getElem (by simpa using h)]
  simp
theorem rndsG_length {n k : Nat} (h : k ≤ n) : (rndsG n k).length = k := by simp [rndsG]; omega
abbrev grpEnc (s : ByteArray) {N : Nat} (x : Fin N) : Array Value := #[.int .i64 (x.val : Int), .int .u8 (gP (subS s x.val) 5)]
/-- Block b lies as it lay. -/
def KB (b : Nat) (w w' : World) : Prop := w'.heap[b]? = w.heap[b]?
theorem KB.trans {b : Nat} {x y z : World} (h : KB b x y) (k : KB b y z) : KB b x z := Eq.trans k h
set_option maxRecDepth 100000 in
set_option maxHeartbeats 4000000 in
theorem groups1_in (n l Bs : Nat) (s : ByteArray) (N : Nat) (hc : cellStr s = true) (hN : s.size = 5 * N) (J Jx : List (Fin N) → World → Prop)
    (hY : ∀ pre x W, J pre W → pre.length < N → YieldAt Fence.wide (n - 1) Tryd.prog l (grpEnc s x) W fun e W' =>
      (e = .returned (.bool true) ∧ J (pre ++ [x]) W' ∧ KB Bs W W') ∨ (e = .returned (.bool false) ∧ Jx (pre ++ [x]) W'))
    (W : World) (hJ : AbidesFrom W.heap.size J) (hBs : W.heap[Bs]? = some (.cells #[.string s] 9 (0, 0))) (h0 : J [] W) :
    CallsIn Fence.wide n Tryd.prog 102 #[.func (.yield l) #[] #[], .pointer (some ⟨Bs, 0, none⟩)] W fun e W' => (∃ v, e = .returned v) ∧
      ((∃ ys, ys = rndsG N N ∧ J ys W') ∨ (∃ pre, (∃ k, k ≤ N ∧ pre = rndsG N k) ∧ Jx pre W')) := by
  have hs8 := cellStr_size hc
  have hq : (s.size : Int) / 5 = (N : Int) := by omega
  have hcell : W.cell? ⟨Bs, 0, none⟩ = some (.string s) := by simp [World.cell?, hBs]
  have HC := Lib.hid (And.intro hc (And.intro hN hBs)); clear hc hN hBs
  refine callsIn_of_wp Tryd.func102 rfl trivial ?_ rfl
  simp only [Tryd.ntmps102, List.size_toArray, List.length_cons, List.length_nil, Nat.reduceAdd, Nat.reduceSub, Array.replicate_succ, Array.replicate_zero, List.push_toArray, List.append_toArray, List.nil_append, List.cons_append]
  gi_wp2
  gi_loopw [3, 4, 8] (fun _ _ i wr => ∃ k : Nat, k ≤ N ∧ i = .int .i64 k ∧ J (rndsG N k) wr ∧ KB Bs W wr ∧ Hid (AbidesFrom W.heap.size J))
    (fun _ _ i _ => N - (intOf i).toNat)
  case atStart => exact ⟨0, Nat.zero_le _, rfl, h0, rfl, hJ⟩
  case round =>
    obtain ⟨k, hk, rfl, hJs, hkb, hJ2⟩ := hrel
    by_cases hlt : k < N
    · have e1 : (k : Int) < N := by omega
      have hk5 : 5 * k + 5 ≤ s.size := by have := HC.out.2.1; omega
      have hcell2 : wr.cell? ⟨Bs, 0, none⟩ = some (.string s) := by
        have := HC.out.2.2
        simp only [World.cell?]; rw [show wr.heap[Bs]? = W.heap[Bs]? from hkb, this]; rfl
      have s1 : (0 : Int) ≤ (k : Int) * 5 := by omega
      have s2 : (k : Int) * 5 + 5 ≤ s.size := by omega
      have s3 : ((k : Int) * 5).toNat = 5 * k := by omega
      have s4 : ((k : Int) * 5 + 5).toNat = 5 * k + 5 := by omega
      have HG := Lib.hid (fun w => groupBits_any (subS s k) (subS_ok HC.out.1 k hk5) w)
      unfold subS at HG
      have HK := Lib.hid (And.intro hJs hkb); clear hJs hkb hcell
      gi_wp2_with fail
      refine ⟨trivial, (fun h => absurd h (by decide)), (callsIn_wide.2 (HG.out _)).mono ?_⟩
      rintro e w3 ⟨rfl, hb3⟩
      have hJ3 := hJ2.out _ wr w3 none HK.out.1 ⟨hb3.os, hb3.tape, hb3.output, hb3.size, fun k hk _ => hb3.block k hk⟩ (fun r e => by cases e)
      obtain ⟨fn, tmps, assign, body, hy, hR⟩ := hY _ ⟨k, hlt⟩ w3 hJ3 (by rw [rndsG_length hk]; exact hlt)
      dsimp only [grpEnc] at hy
      unfold subS at hy
      have HJJ := Lib.hid (And.intro hJ3 hb3); clear hJ3 hb3
      gi_wp2
      refine ⟨(fun h => absurd h (by decide)), hR.mono ?_⟩
      have hkb3 : KB Bs W w3 := by
        have hlt2 : Bs < wr.heap.size := by
          have h1 := HC.out.2.2
          have h2 : wr.heap[Bs]? = W.heap[Bs]? := HK.out.2
          rw [h1] at h2
          exact (Array.getElem?_eq_some_iff.1 h2).1
        exact KB.trans HK.out.2 (HJJ.out.2.block Bs hlt2)
      rintro e W3 (⟨rfl, hJ4, hk4⟩ | ⟨rfl, hJx3⟩)
      · gi_wp2
        go_roundw
        case rel => exact ⟨k + 1, by omega, by go_num, by rw [rndsG_succ hlt]; exact hJ4, hkb3.trans hk4, hJ2⟩
        case measure => simp [intOf] <;> omega
      · gi_wp2
        refine bodyPost_ret (results_none rfl _ _ _) rfl ?_
        exact ⟨⟨_, rfl⟩, .inr ⟨_, ⟨k + 1, by omega, by rw [rndsG_succ hlt]⟩, hJx3⟩⟩
    · obtain rfl : k = N := by omega
      gi_wp2
      go_end0
      exact ⟨⟨_, rfl⟩, .inl ⟨_, rfl, hJs⟩⟩
theorem groups_stops (n Bs : Nat) (s : ByteArray) (N : Nat) (hc : cellStr s = true) (hN : s.size = 5 * N) (w : World) (hBs : w.heap[Bs]? = some (.cells #[.string s] 9 (0, 0))) :
    SeqStopsK Fence.wide n Tryd.prog 102 #[.pointer (some ⟨Bs, 0, none⟩)] (grpEnc s (N := N)) (KB Bs) (fun ys => ys = rndsG N N)
      (fun pre => ∃ k, k ≤ N ∧ pre = rndsG N k) N w := fun l J Jx W hW hJ _ hY h0 =>
  groups1_in n l Bs s N hc hN J Jx hY W hJ (by rw [hW.block Bs (Array.getElem?_eq_some_iff.1 hBs).1]; exact hBs) h0
theorem kb_obj {Bs : Nat} {w : World} (hlt : Bs < w.heap.size) (W : World) (l : Nat) (o o' : Obj) (hl : w.heap.size ≤ l) (_ : W.heap[l]? = some o) (_ : o.isCells = false) (_ : o.isWalk = false) : KB Bs W (W.putObj l o') :=
  (grownBy_putObj' W l o').block Bs (by rename_i h _ _; have := (Array.getElem?_eq_some_iff.1 h).1; omega) (by simp; omega)
theorem groupsIn_in (n : Nat) (s : ByteArray) (w : World) :
    CallsIn Fence.wide n Tryd.prog 58 #[.string s] w fun e w' => e = .returned (.func (.func 102) #[] #[.pointer (some ⟨w.heap.size, 0, none⟩)]) ∧ w' = w.alloc (.cells #[.string s] 9) := by
  refine callsIn_of_wp Tryd.func58 rfl trivial ?_ rfl
  simp only [Tryd.ntmps58, List.size_toArray, List.length_cons, List.length_nil, Nat.reduceAdd, Nat.reduceSub, Array.replicate_succ, Array.replicate_zero, List.push_toArray, List.append_toArray, List.nil_append, List.cons_append]
  gi_wp2
  go_ret
  exact ⟨rfl, rfl⟩
def cellsG (W : World) (g : Nat) (C : Array Value) (T : TypeId) : Prop := W.heap[g]? = some (.cells C T (0, 0))
theorem cellsG_own {β : Type} (C : β → Array Value) (g : Nat) (T : TypeId) : Own (fun s W => cellsG W g (C s) T) := fun s W W' row hs hg hr => (grownBy_keeps_cells hg hr hs rfl).trans hs
def gfL (s : ByteArray) {N : Nat} (ys : List (Fin N)) : List Int := (ys.filter fun x => decide (gcrVV (subS s x.val) < 0)).map fun x => (x.val : Int)
theorem gfL_hit (s : ByteArray) {N : Nat} (pre : List (Fin N)) {x : Fin N} (h : gcrVV (subS s x.val) < 0) : gfL s (pre ++ [x]) = gfL s pre ++ [(x.val : Int)] := by simp [gfL, h]
theorem gfL_miss (s : ByteArray) {N : Nat} (pre : List (Fin N)) {x : Fin N} (h : ¬ gcrVV (subS s x.val) < 0) : gfL s (pre ++ [x]) = gfL s pre := by simp [gfL]; omega
theorem gfL_len (s : ByteArray) {N : Nat} (pre : List (Fin N)) : (gfL s pre).length ≤ pre.length := by unfold gfL; rw [List.length_map]; exact List.length_filter_le _ _
theorem gfL_rnds (s : ByteArray) (N : Nat) : ∀ k, k ≤ N → gfL s (rndsG N k) = gfR s k := by
  intro k
  induction k with
  | zero => intro _; simp [rndsG, gfL, gfR]
  | succ k ih =>
    intro hk
    rw [rndsG_succ (by omega)]
    by_cases h : gcrVV (subS s k) < 0
    · rw [gfL_hit s (x := ⟨k, by omega⟩) _ h, ih (by omega)]; conv => { rhs; unfold gfR }
      rw [if_pos h]
    · rw [gfL_miss s (x := ⟨k, by omega⟩) _ h, ih (by omega)]; conv => { rhs; unfold gfR }
      rw [if_neg h]
theorem gcrVV_of {s : ByteArray} (h : grpOk s = true) : ∃ x : Nat, x < 32 ∧ gP s 5 = x ∧ gcrVV s = valN x := by
  have hb := gP_bd h 5 (by omega)
  have e : gcrVV s = valN (gP s 5).toNat := by unfold gcrVV; rw [if_pos h]
  obtain ⟨x, hx⟩ : ∃ x : Nat, gP s 5 = x := ⟨(gP s 5).toNat, by omega⟩
  rw [hx] at hb e
  rw [Int.toNat_natCast] at e
  exact ⟨x, by have e32 : (2 : Int) ^ 5 = 32 := rfl; omega, hx, e⟩
theorem cellsAt_row32 (w : World) : ((w.alloc (.cells z32 71)).setRow w.heap.size valsV).heap[w.heap.size]? = some (.cells valsV 71 (0, 0)) := by
  exact setRow_heap _ _ _ _ _ _ (heap_alloc_new w (.cells z32 71))
theorem row_kept {W W' : World} {B : Nat} {cs : Array Value} {t e : TypeId} (h : W.heap[B]? = some (.cells cs t (0, 0))) (hte : t ≠ e) {base size k : Nat} {v : Value} {xs : List Value} (hr : W.ownsRow base e size v k xs) (hg : W.grownBy W' v.ownBlock) :
    W'.heap[B]? = some (.cells cs t (0, 0)) := by
  refine (hg.block B (Array.getElem?_eq_some_iff.1 h).1 ?_).trans h
  rcases hr.2 with ⟨rfl, _⟩ | ⟨g, cap, cur, rfl, _, hgb, _⟩
  · simp [Value.ownBlock]
  · intro e'
    obtain rfl : B = g := by simpa [Value.ownBlock] using e'
    have := h.symm.trans hgb
    simp at this
    exact hte this.2
theorem vals_at (y : Nat) (h : y < 32) : valsV[y]? = some (.int .i64 (valN y)) := valsV_at y h
theorem cells_app {W w1 : World} {B b : Nat} {cs : Array Value} {t e : TypeId} {tmp : Obj} (h : cellsG W B cs t) (hte : t ≠ e) {base size k : Nat} {v : Value} {xs : List Value} (hr : W.ownsRow base e size v k xs)
    (hg : (W.alloc tmp).grownBy w1 v.ownBlock) (hb : B ≠ b) (v' : Value) : cellsG (w1.setCell ⟨b, 0, none⟩ v') B cs t := by
  have h0 : (W.alloc tmp).heap[B]? = some (.cells cs t (0, 0)) := by rw [Below.heap_alloc _ _ _ (Array.getElem?_eq_some_iff.1 h).1]; exact h
  have h1 := row_kept h0 hte (hr.alloc tmp) hg
  unfold cellsG
  rw [Below.heap_setCell _ _ _ _ hb]; exact h1
set_option maxRecDepth 100000 in
set_option maxHeartbeats 4000000 in
theorem gcrFaults_in (s : ByteArray) (h : s.size ≤ 1048576) (hc : cellStr s = true) (h5 : s.size % 5 = 0) (w : World) (hw : 0 < w.heap.size) (ht : GrpTab w) :
    CallsIn Fence.wide 3 Tryd.prog 23 #[.string s] w (SlRes (gfR s (s.size / 5)) w) := by
  have hgs := fun w => isGroupString_any s h w
  have e : (cellStr s && decide (s.size % 5 = 0)) = true := by simp [hc, h5]
  rw [e] at hgs
  have hs8 := cellStr_size hc
  obtain ⟨N, hN⟩ : ∃ N, s.size / 5 = N := ⟨_, rfl⟩
  have hN5 : s.size = 5 * N := by omega
  rw [hN]
  have HC := Lib.hid (And.intro hc hN5)
  have HS := Lib.hid h
  have HGS := Lib.hid hgs
  have HT := Lib.hid ht
  clear hgs e hc h5 hN hN5 ht
  refine callsIn_of_wp_marks Tryd.func23 rfl trivial ?_ rfl
  simp only [Tryd.ntmps23, List.size_toArray, List.length_cons, List.length_nil, Nat.reduceAdd, Nat.reduceSub, Array.replicate_succ, Array.replicate_zero, List.push_toArray, List.append_toArray, List.nil_append, List.cons_append]
  gi_wp2_with fail
  refine ⟨trivial, (callsIn_wide.2 (HGS.out _)).mono ?_⟩
  rintro e w1 ⟨rfl, hb1⟩
  gi_wp2_with fail
  refine ⟨trivial, (callsIn_wide.2 (groupValues_any w1 (Nat.lt_of_lt_of_le hw hb1.size) (HT.out.below hb1 hw))).mono ?_⟩
  rintro e w2 ⟨rfl, hb2⟩
  have h12 := hb1.trans (hb2.mono hb1.size)
  clear hb1 hb2
  have hsz2 := h12.size
  have HV0 := Lib.hid (heap_alloc_new w2 (.cells z32 71))
  gi_wp2_with (refine wpListIn_store_rowTo _ rfl 71 _ _ rfl rfl w2.heap.size valsV rfl rfl 71 z32 HV0.out (by kernel_rfl) (by rw [zero32]; rfl) vals_one ?_)
  clear HV0
  refine ⟨trivial, (groupsIn_in _ s _).mono ?_⟩
  rintro e w3 ⟨rfl, rfl⟩
  gi_wp2
  obtain ⟨i0, hi, hz0, hz1, hz2⟩ := info_parts i64info
  have bA0 := cellsAt_row32 w2
  have hsz0 : ((w2.alloc (.cells z32 71)).setRow w2.heap.size valsV).heap.size = w2.heap.size + 1 := by rw [size_setRow, World.size_alloc]
  have hB00 : Below w.heap.size w ((w2.alloc (.cells z32 71)).setRow w2.heap.size valsV) := below_setRow (h12.alloc hsz2 _) hsz2 _
  show Code.wpIn _ _ _ _ _ _ ((((w2.alloc (.cells z32 71)).setRow w2.heap.size valsV).alloc (.cells #[.slice none 0 0] 37)).alloc (.cells #[.string s] 9))
  generalize (w2.alloc (.cells z32 71)).setRow w2.heap.size valsV = WA at *
  have bO1 := Boxed.new WA 37 (.slice none 0 0)
  have bN := Boxed.new (WA.alloc (.cells #[.slice none 0 0] 37)) 9 (.string s)
  rw [World.size_alloc, hsz0] at bN
  rw [hsz0] at bO1
  have bO := bO1.alloc (.cells #[.string s] 9)
  have bA : ((WA.alloc (.cells #[.slice none 0 0] 37)).alloc (.cells #[.string s] 9)).heap[w2.heap.size]? = some (.cells valsV 71 (0, 0)) := by
    rw [Below.heap_alloc _ _ _ (by rw [World.size_alloc]; omega), Below.heap_alloc _ _ _ (by omega)]; exact bA0
  have hB0 : Below w.heap.size w ((WA.alloc (.cells #[.slice none 0 0] 37)).alloc (.cells #[.string s] 9)) := (hB00.alloc hB00.size _).alloc (by rw [World.size_alloc]; have := hB00.size; omega) _
  have hszW : ((WA.alloc (.cells #[.slice none 0 0] 37)).alloc (.cells #[.string s] 9)).heap.size = w2.heap.size + 3 := by rw [World.size_alloc, World.size_alloc, hsz0]
  generalize (WA.alloc (.cells #[.slice none 0 0] 37)).alloc (.cells #[.string s] 9) = W0 at *
  clear bO1 bA0 hsz0 hB00 WA
  refine wpIn_rangeFunc_ownG rfl (by decide) (gf := 102) (lb := #[.pointer (some ⟨w2.heap.size + 1 + 1, 0, none⟩)]) rfl trivial (enters_of Tryd.func102 (by kernel_rfl) rfl)
    (groups_stops 2 (w2.heap.size + 1 + 1) s N HC.out.1 HC.out.2 W0 bN) KB.trans (kb_obj bN.lt) (Below.refl _ _) (fun _ => rfl)
    (fun pre W => (∃ v, Boxed W (w2.heap.size + 1) 37 v ∧ W.ownsRow w.heap.size 2 1 v (gfL s pre).length ((gfL s pre).map (Value.int .i64)) ∧ True) ∧ cellsG W w2.heap.size valsV 71 ∧ cellsG W (w2.heap.size + 1 + 1) #[.string s] 9 ∧ Below w.heap.size w W)
    (fun _ _ _ => False)
    (OwnFrom.and (Own.from (holdsRow_own w.heap.size (w2.heap.size + 1) 37 2 1 (fun pre => (gfL s pre).length) (fun pre => (gfL s pre).map (Value.int .i64)) (fun _ _ => True)) _)
      (OwnFrom.and (Own.from (cellsG_own (fun _ => _) _ _) _) (OwnFrom.and (Own.from (cellsG_own (fun _ => _) _ _) _) (ownFrom_below (Nat.le_refl _) (by omega)))))
    (fun _ _ _ _ _ hs _ _ => hs)
    ⟨⟨_, bO, World.ownsRow_nil _ _ _ _, trivial⟩, bA, bN, hB0⟩
    (fun x => { tmps := #[.string s, undef, .slice none 0 0, .pointer (some ⟨w2.heap.size, 0, none⟩), .pointer (some ⟨w2.heap.size + 1, 0, none⟩), .int .i64 (x.val : Int), .int .u8 (gP (subS s x.val) 5), .string s, .bool true, .bool false, .agg valsV, .string s, .func (.func 102) #[] #[.pointer (some ⟨w2.heap.size + 1 + 1, 0, none⟩)], .int .i64 (x.val : Int), .int .u8 (gP (subS s x.val) 5), undef, undef, undef, undef, undef, undef, undef, undef, undef], defers := [] }) ?assign ?body ?done ?stop
  case assign =>
    intro l x W K hK
    dsimp only [grpEnc]
    gi_wp2
    exact hK
  case body =>
    rintro l pre x W ⟨⟨v, hv, hrow, -⟩, hA, hN, hB⟩ hlt
    have hxl := x.isLt
    have hk5 : 5 * x.val + 5 ≤ s.size := by have := HC.out.2; omega
    obtain ⟨y, hy, eg, ev⟩ := gcrVV_of (subS_ok HC.out.1 x.val hk5)
    have HE := Lib.hid ev
    rw [eg]
    clear eg ev hk5
    have hpl : (gfL s pre).length ≤ pre.length := gfL_len s pre
    have hN8 : N ≤ 1073741824 := by have := HC.out.2; have := HS.out; omega
    have hc := hv.cell
    have hcy : W.cell? ⟨w2.heap.size, y, none⟩ = some (.int .i64 (valN y)) := by
      simp only [World.cell?]; rw [show W.heap[w2.heap.size]? = _ from hA]; exact vals_at y hy
    have HAN := Lib.hid (And.intro hA hN); clear hA hN
    generalize valN y = z at *
    gi_wp2_with (gi_at_builtin; refine wpListIn_append_own _ rfl _ _ 37 rfl w.heap.size 2 i0 (.int .i64 0) 1 8 Tryd.underlying37 hi hz0 hz1 hz2 rfl (by decide) _ _ _ rfl (hrow.alloc _) ⟨W.heap.size, 0, none⟩ 1 1 [.int .i64 (x.val : Int)] rfl rfl (cell_one_new _ _ _) (by simp [Value.oneCell']) (by unfold maxLen; omega) (by omega) (by have := hB.size; simp; omega) ?_; intro v' w1 hown' hgrow _; obtain ⟨g', cap', rfl⟩ := ownsRow_succ hown'; obtain ⟨hv1, hv2, hr2, hk2, hb2⟩ := hv.appended (by decide) hrow hB.size (show w.heap.size ≤ w2.heap.size + 1 by omega) hown' hgrow; have hc1 := hv1.cell; have hf1 := hv1.frozen)
    · have hz : z < 0 := by assumption
      have hA2 := cells_app HAN.out.1 (by decide) hrow hgrow (show w2.heap.size ≠ w2.heap.size + 1 by omega) (.slice (some ⟨g', 0, none⟩) ((gfL s pre).length + 1) cap')
      have hN2 := cells_app HAN.out.2 (by decide) hrow hgrow (show w2.heap.size + 1 + 1 ≠ w2.heap.size + 1 by omega) (.slice (some ⟨g', 0, none⟩) ((gfL s pre).length + 1) cap')
      have hg : gcrVV (subS s x.val) < 0 := by rw [HE.out]; exact hz
      exact ⟨hk2.from _, Eq.trans hN2 (Eq.symm HAN.out.2), ⟨_, hv2, by rw [gfL_hit s pre hg]; simpa using hr2, trivial⟩, hA2, hN2, hB.trans hb2⟩
    · have hz : ¬ z < 0 := by first | assumption | omega
      have hg : ¬ gcrVV (subS s x.val) < 0 := by rw [HE.out]; exact hz
      exact ⟨KeepsFrom.refl _ _, rfl, ⟨v, hv, by rw [gfL_miss s pre hg]; exact hrow, trivial⟩, HAN.out.1, HAN.out.2, hB⟩
  case done =>
    rintro D ys W hD rfl ⟨⟨v, hv, hrow, -⟩, hA, hN, hB⟩ hK
    have hc := hv.cell
    gi_wp2
    refine ⟨by simp, .inl ⟨_, _, rfl, run_takeDeferred hK, ?_⟩⟩
    rw [gfL_rnds s N N (Nat.le_refl _)] at hrow
    refine ⟨_, results_tmp rfl _ _ _, ?_⟩
    exact SlRes.of (w := w) (v := v) (ownsRow_putObj hrow _ hK rfl) (hB.trans (belowK_b (w := w) (Nat.le_refl _) W D _ _ (by have := hB0.size; omega) hK rfl rfl))
  case stop =>
    rintro D c pre W _ _ h _
    exact h.elim
end Go.Proofs.YtffefhgemmjkoaaDoor
