/- impl.RotateFlux: the valid case. -/
import Derived.Test.YtfedlehibkgjbaaDoorPkFnFluxRotIm
import Derived.Test.YtfedlehibkgjbaaDoorPkFnFluxRoundFlat
import Derived.OrdersIn
import Derived.RegionIn
namespace Go.Proofs.YtfedlehibkgjbaaDoor
open Go.RowKit
open Go.Shelf
set_option linter.unusedVariables false
set_option linter.unusedSimpArgs false
attribute [local go_sem] Oper.semAt_some
theorem wide_at (id : Nat) {n : Nat} {P : Program} {ops : Array Oper} {fl : Bool} {Q : Exit → Act → World → Prop} {a : Act} {w : World} (h : (Code.region id ops fl).wp P Q a w) : (Code.region id ops fl).wpIn Fence.wide n P Q a w := wpIn_wide.2 h
theorem made_intsY (n : Nat) : madeCells #[Value.int .i64 0] n = ((List.replicate n (0 : Int)).map (Value.int .i64)).toArray := by
  have := cpRow_zero (List.replicate n (0 : Int))
  simp only [List.length_replicate] at this
  rw [this]
  apply Array.ext'
  simp [cpRow]
structure RotHid (P : Prop) : Prop where
  out : P
theorem rotCut {P G : Prop} (h : RotHid P → G) (k : P) : G := h ⟨k⟩
/-- The number of the last of some rounds. -/
def lastX {n : Nat} (pre : List (Fin n)) : Nat := (pre.getLast?.map Fin.val).getD 0
theorem lastX_snoc {n : Nat} (pre : List (Fin n)) (x : Fin n) : lastX (pre ++ [x]) = x.val := by simp [lastX]
theorem slB_of {w : World} {a : Option Addr} {zs : List Int} (h : SlA w a zs) (h1 : 1 ≤ zs.length) : SlB w.heap.size w a zs := by
  refine ⟨h, fun x e => ?_⟩
  rcases h with h0 | ⟨b0, off, h2, hlt, _⟩
  · subst h0; simp at h1
  · rw [h2] at e; cases e; exact hlt
theorem two_boxesY (w : World) (o1 o2 : Obj) : ((w.alloc o1).alloc o2).drew.heap[w.heap.size]? = some o1 ∧ ((w.alloc o1).alloc o2).drew.heap[w.heap.size + 1]? = some o2 ∧ Below w.heap.size w ((w.alloc o1).alloc o2).drew ∧ ((w.alloc o1).alloc o2).drew.heap.size = w.heap.size + 2 := by
  refine ⟨?_, ?_, (((Below.refl _ w).alloc (Nat.le_refl _) _).alloc (by simp) _).drew, by simp [World.drew]⟩
  · show ((w.alloc o1).alloc o2).heap[w.heap.size]? = some o1
    rw [Below.heap_alloc _ _ _ (by simp)]; exact heap_alloc_new w o1
  · show ((w.alloc o1).alloc o2).heap[w.heap.size + 1]? = some o2
    exact heap_alloc_new' _ _ _ (by simp)
theorem set2_facts {B B' : Nat} {w W : World} {pS pF : Nat} {tS tF : TypeId} {x y : Value} (hne : pS ≠ pF) (hS : B ≤ pS) (hF : B ≤ pF) (kS : cellsAt W pS #[x] tS) (kF : cellsAt W pF #[y] tF) (kB : Below B w W) (v u : Value) :
    KeepsFrom B' W ((W.setCell ⟨pS, 0, none⟩ v).setCell ⟨pF, 0, none⟩ u).drew ∧ cellsAt ((W.setCell ⟨pS, 0, none⟩ v).setCell ⟨pF, 0, none⟩ u).drew pS #[v] tS ∧ cellsAt ((W.setCell ⟨pS, 0, none⟩ v).setCell ⟨pF, 0, none⟩ u).drew pF #[u] tF ∧
      (∀ (g : Nat) (C : Array Value) (T : TypeId), g ≠ pS → g ≠ pF → cellsAt W g C T → cellsAt ((W.setCell ⟨pS, 0, none⟩ v).setCell ⟨pF, 0, none⟩ u).drew g C T) ∧ Below B w ((W.setCell ⟨pS, 0, none⟩ v).setCell ⟨pF, 0, none⟩ u).drew := by
  refine ⟨?_, ?_, ?_, ?_, ((kB.setCell hS _).setCell hF _).drew⟩
  · have hk : KeepsFrom B' W ((W.setCell ⟨pS, 0, none⟩ v).setCell ⟨pF, 0, none⟩ u) := KeepsFrom.trans ((KeepsOthers.setCell W ⟨pS, 0, none⟩ v).from _) ((KeepsOthers.setCell _ ⟨pF, 0, none⟩ u).from _)
    exact ⟨hk.size, hk.same⟩
  · show (((W.setCell ⟨pS, 0, none⟩ v).setCell ⟨pF, 0, none⟩ u)).heap[pS]? = _
    rw [Below.heap_setCell _ _ _ _ hne]
    exact Boxed.set (t := tS) v kS
  · show (((W.setCell ⟨pS, 0, none⟩ v).setCell ⟨pF, 0, none⟩ u)).heap[pF]? = _
    refine Boxed.set (t := tF) (v := y) u ?_
    show (W.setCell ⟨pS, 0, none⟩ v).heap[pF]? = _
    rw [Below.heap_setCell _ _ _ _ (fun e => hne e.symm)]
    exact kF
  · intro g C T h1 h2 h
    show (((W.setCell ⟨pS, 0, none⟩ v).setCell ⟨pF, 0, none⟩ u)).heap[g]? = _
    rw [Below.heap_setCell _ _ _ _ h2, Below.heap_setCell _ _ _ _ h1]
    exact h
theorem wrapY {n : Int} (h0 : -9223372036854775808 ≤ n) (h1 : n < 9223372036854775808) : IntKind.i64.wrap n = n := IntWalk.i64_in n ⟨h0, by omega⟩
theorem i64szY : (Tryd.prog.info? 2).map (·.size) = some 1 := by kernel_rfl
/-- A copy of int64s into a row. -/
theorem rot_copy {w : World} (dT sT ty elem : TypeId) (g o dLen dCap b0 off sLen sCap : Nat) (cur : List Value) (zs : List Int)
    (hu : Tryd.prog.underlying dT = some (.slice elem)) (hs : (Tryd.prog.info? elem).map (·.size) = some 1) {t : TypeId}
    (hg : w.heap[g]? = some (.cells cur.toArray t (0, 0))) (hn : zs.length = Nat.min sLen dLen)
    (hsrc : ∀ j x, zs[j]? = some x → w.cell? ⟨b0, off + j, none⟩ = some (.int .i64 x)) (hfit : o + zs.length ≤ cur.length) :
    ∃ w', (Builtin.copy_ #[dT, sT] ty #[.slice (some ⟨g, o, none⟩) dLen dCap, .slice (some ⟨b0, off, none⟩) sLen sCap]).run Tryd.prog w = .ok (goInt zs.length) w' ∧
      w'.heap[g]? = some (.cells (_root_.Go.splice cur o (zs.map (Value.int .i64))).toArray t (0, 0)) ∧ (∀ B, B ≤ g → Below B w w') := by
  have h := run_copy_row (P := Tryd.prog) w dT sT ty elem g o dLen dCap ⟨b0, off, none⟩ sLen sCap cur.toArray t (zs.map (Value.int .i64)) hu hs hg (by simpa using hn) (fun j v hv => by
    rw [List.getElem?_map] at hv
    obtain ⟨x, hx, rfl⟩ := Option.map_eq_some_iff.1 hv
    exact (show w.cell? (Addr.add ⟨b0, off, none⟩ j) = _ from by rw [show Addr.add ⟨b0, off, none⟩ j = (⟨b0, off + j, none⟩ : Addr) by simp [Addr.add]]; exact hsrc j x hx)) (by simpa using hfit) (by intro v hv; obtain ⟨x, _, rfl⟩ := List.mem_map.1 hv; rfl)
  rw [List.length_map] at h
  exact ⟨_, h, (show _ = _ by simpa [_root_.Go.splice] using setRow_heap w g _ _ t _ hg), fun B hB => below_setRow (Below.refl B w) hB _⟩
theorem rot_copy2 {w : World} (dT sT ty elem : TypeId) (g n s b0 off cap : Nat) (cur : List Value) (zs : List Int) (hsn : s < n)
    (hu : Tryd.prog.underlying dT = some (.slice elem)) (hs : (Tryd.prog.info? elem).map (·.size) = some 1) {t : TypeId}
    (hg : w.heap[g]? = some (.cells cur.toArray t (0, 0))) (hn : zs.length = s)
    (hsrc : ∀ j x, zs[j]? = some x → w.cell? ⟨b0, off + j, none⟩ = some (.int .i64 x)) (hfit : n ≤ cur.length) :
    ∃ w', (Builtin.copy_ #[dT, sT] ty #[.slice (if n = n - s then some ⟨g, 0, none⟩ else some ⟨g, n - s, none⟩) (n - (n - s)) (n - (n - s)), .slice (some ⟨b0, off, none⟩) s cap]).run Tryd.prog w = .ok (goInt s) w' ∧
      w'.heap[g]? = some (.cells (_root_.Go.splice cur (n - s) (zs.map (Value.int .i64))).toArray t (0, 0)) ∧ (∀ B, B ≤ g → Below B w w') := by
  by_cases h0 : s = 0
  · subst h0
    obtain rfl : zs = [] := List.eq_nil_of_length_eq_zero hn
    refine ⟨w, run_copy_none w dT sT ty elem _ _ _ _ _ _ hu hs (by simp), ?_, fun B _ => Below.refl B w⟩
    rw [hg]; simp [_root_.Go.splice]
  · rw [if_neg (by omega)]
    have h := rot_copy dT sT ty elem g (n - s) (n - (n - s)) (n - (n - s)) b0 off s cap cur zs hu hs hg (by rw [hn]; exact (Nat.min_eq_left (by omega)).symm) hsrc (by omega)
    rw [hn] at h
    exact h
theorem zero_putY {w : World} {p : Nat} (h : ZeroAt w p) (c f : Int) (a : Option Addr) (n d : Nat) : FluxAt (((w.setCell ⟨p, 0, none⟩ (.int .i64 c)).setCell ⟨p, 1, none⟩ (.int .i64 f)).setCell ⟨p, 2, none⟩ (.slice a n d)) p c f a n d := by
  obtain ⟨z0, z1, z2, y0, y1, y2⟩ := h.facts
  exact ⟨by simp [go_sem, z0], by simp [go_sem, z1], by simp [go_sem, z2]⟩
theorem rot_fin {w W3 : World} (c fr : Int) {l : List Int} {D G n : Nat} (p : Nat) (hp : w.heap.size ≤ p) (hG : w.heap.size ≤ G) (hpG : G ≠ p) (hDp : D ≠ p) (hDG : G ≠ D) (hDw : w.heap.size ≤ D) (hz : ZeroAt W3 p)
    (hg : W3.heap[G]? = some (.cells (l.map (Value.int .i64)).toArray 2 (0, 0))) (hd : W3.heap[D]? = some (.deferred (some []))) (hb : Below w.heap.size w W3) :
    ∃ X, ((W3.setCell ⟨p, 0, none⟩ (.int .i64 c)).setCell ⟨p, 1, none⟩ (.int .i64 fr)).setCell ⟨p, 2, none⟩ (.slice (some ⟨G, 0, none⟩) n n) = X ∧ X.heap[D]? = some (.deferred (some [])) ∧ FluxAt (X.putObj D (.deferred none)) p c fr (some ⟨G, 0, none⟩) n n ∧
      SlO (X.putObj D (.deferred none)) w.heap.size (some ⟨G, 0, none⟩) l ∧ Below w.heap.size w (X.putObj D (.deferred none)) := by
  have hX := zero_putY hz c fr (some ⟨G, 0, none⟩) n n
  have hB := below_set3 (B := w.heap.size) (p := p) hb hp (.int .i64 c) (.int .i64 fr) (.slice (some ⟨G, 0, none⟩) n n)
  have hh : ∀ k, k ≠ p → (((W3.setCell ⟨p, 0, none⟩ (.int .i64 c)).setCell ⟨p, 1, none⟩ (.int .i64 fr)).setCell ⟨p, 2, none⟩ (.slice (some ⟨G, 0, none⟩) n n)).heap[k]? = W3.heap[k]? := fun k hk => by
    rw [Below.heap_setCell _ _ _ _ hk, Below.heap_setCell _ _ _ _ hk, Below.heap_setCell _ _ _ _ hk]
  have hd2 := (hh D hDp).trans hd
  refine ⟨_, rfl, hd2, ?_, .inr ⟨G, #[], rfl, hG, ?_⟩, hB.trans (belowK_b (w := w) (Nat.le_refl _) _ D _ _ hDw hd2 rfl rfl)⟩
  · have e : ∀ (Y : World) i, (Y.putObj D (.deferred none)).cell? ⟨p, i, none⟩ = Y.cell? ⟨p, i, none⟩ := fun Y i => World.cell?_of_block (a := ⟨p, i, none⟩) (World.putObj_heap_other (fun e => hDp e.symm))
    exact ⟨(e _ 0).trans hX.1, (e _ 1).trans hX.2.1, (e _ 2).trans hX.2.2⟩
  · rw [World.putObj_heap_other hDG, hh G hpG, hg]; simp
theorem rnds_mem {n : Nat} (k : Nat) (hk : k ≤ n) (j : Nat) (hj : j < k) (hn : j < n) : (⟨j, hn⟩ : Fin n) ∈ rnds n k := by
  induction k with
  | zero => omega
  | succ k ih =>
    rw [rnds_succ (by omega)]
    by_cases e : j = k
    · subst e; simp
    · exact List.mem_append.2 (.inl (ih (by omega) (by omega)))
theorem rot_done {b f : Int} {zs : List Int} (h : ∀ x ∈ rnds zs.length zs.length, tAt f zs x.val < b) : IsStart b f zs zs.length :=
  ⟨Nat.le_refl _, fun j hj => h ⟨j, hj⟩ (rnds_mem _ (Nat.le_refl _) j hj hj), fun h => by omega⟩
theorem rot_stop {b f : Int} {zs : List Int} {k : Nat} {q : List (Fin zs.length)} {x : Fin zs.length} (hk : k ≤ zs.length) (e : q ++ [x] = rnds zs.length k) (hq : ∀ y : Fin zs.length, y ∈ q → tAt f zs y.val < b) (hx : b ≤ tAt f zs (lastX (q ++ [x]))) : IsStart b f zs (lastX (q ++ [x])) ∧ lastX (q ++ [x]) < zs.length := by
  rw [lastX_snoc] at hx ⊢
  match k, hk with
  | 0, _ => simp [rnds] at e
  | k + 1, hk =>
    rw [rnds_succ (by omega)] at e
    obtain ⟨e1, e2⟩ := List.append_inj' e rfl
    have e3 : x.val = k := congrArg Fin.val (List.cons.inj e2).1
    rw [e3] at hx ⊢
    exact ⟨⟨by omega, fun j hj => hq ⟨j, by omega⟩ (e1 ▸ rnds_mem k (by omega) j hj _), fun _ => hx⟩, hk⟩
theorem rot_at {c b f : Int} {zs : List Int} {k : Nat} (hv : fluxOk c f zs = true) (hn : inB 0 (zs.sum - 1) b = true) (hk : IsStart b f zs k) : rotVal c f zs b = ⟨c, rotFirst b f zs k, zs.drop (k % zs.length) ++ zs.take (k % zs.length), 0⟩ := by
  unfold rotVal; rw [if_pos hv, if_pos hn, rotStart_eq hk]
theorem flux_cells {W : World} {p : Nat} {x y z : Value} {T : TypeId} (h : cellsAt W p #[x, y, z] T) : W.cell? ⟨p, 0, none⟩ = some x ∧ W.cell? ⟨p, 1, none⟩ = some y ∧ W.cell? ⟨p, 2, none⟩ = some z := by
  unfold cellsAt at h
  simp [World.cell?, h]
theorem rot_splice (zs : List Int) (s : Nat) (hs : s ≤ zs.length) : _root_.Go.splice (_root_.Go.splice ((List.replicate zs.length (0 : Int)).map (Value.int .i64)) 0 ((zs.drop s).map (Value.int .i64))) (zs.length - s) ((zs.take s).map (Value.int .i64)) = (zs.drop s ++ zs.take s).map (Value.int .i64) := by
  unfold _root_.Go.splice
  have h1 : ((zs.drop s).map (Value.int .i64)).length = zs.length - s := by simp
  have h2 : ((zs.take s).map (Value.int .i64)).length = s := by simp; omega
  simp only [List.take_zero, List.nil_append]
  rw [← h1, List.take_left' rfl, h2, h1]
  rw [show List.drop (zs.length - s + s) (List.map (Value.int IntKind.i64) (List.drop s zs) ++ List.drop (0 + (zs.length - s)) (List.map (Value.int IntKind.i64) (List.replicate zs.length 0))) = [] from List.drop_eq_nil_of_le (by simp; omega)]
  simp
set_option maxRecDepth 100000 in
set_option maxHeartbeats 16000000 in
theorem rotateFlux_yes_in (c f : Int) (a : Option Addr) (cap : Nat) (zs : List Int) (b : Int) (hl : zs.length ≤ 1048576) (hv : fluxOk c f zs = true) (hn : inB 0 (zs.sum - 1) b = true) (hcap : zs.length ≤ cap) (w : World) (h : SlA w a zs) :
    CallsIn Fence.wide 3 Tryd.prog 19 #[.agg #[.int .i64 c, .int .i64 f, .slice a zs.length cap], .int .i64 b] w (FluxRes (rotVal c f zs b) w) := by
  have c1 := fun w' (hb : Below w.heap.size w w') => (callsIn_wide (n := 2)).2 (validFlux_any c f _ zs cap w' hl (h.below hb (Nat.le_refl _)))
  have c2 := fun w' (hb : Below w.heap.size w w') => (callsIn_wide (n := 2)).2 (revolutionOf_any c f _ zs cap w' hl (h.below hb (Nat.le_refl _)))
  have er : revOf c f zs = zs.sum := by unfold revOf; rw [if_pos hv]
  obtain ⟨b0, off, rfl, hblt, hints⟩ : ∃ b off, a = some ⟨b, off, none⟩ ∧ b < w.heap.size ∧ Ints w b off zs := by
    rcases h with rfl | h
    · have := (fluxOk_iff.1 hv).2.1.1; simp at this
    · exact h
  rw [hv] at c1
  rw [er] at c2
  obtain ⟨_, ⟨hz1, hz4⟩, hz, hsum, hf0, hf1⟩ := fluxOk_iff.1 hv
  have hn' := inB_iff.1 hn
  have hfl0 := last_bd hv
  have hsum0 : 0 ≤ zs.sum := by have := (sum_bd hz zs.length).1; rwa [List.take_length] at this
  have c3 := fun w T x hx => (callsIn_wide (n := 2)).2 (within_b 0 (zs.sum - 1) b w T x hx)
  rw [hn] at c3
  have ew : wrap64 (zs.sum - 1) = zs.sum - 1 := by unfold wrap64; omega
  have ew2 : wrap64 (zs.sum + f) = zs.sum + f := by unfold wrap64; omega
  have ew3 : wrap64 (zs.sum + f - b) = zs.sum + f - b := by unfold wrap64; omega
  have C1 := Lib.hid c1; have C2 := Lib.hid c2; have C3 := Lib.hid c3
  have hwr := Lib.hid (show ∀ i, i < zs.length → IntKind.i64.wrap (tAt f zs i - b) = tAt f zs i - b from fun i hi => by
    have h0 := tAt_le (f := f) hz (Nat.zero_le i)
    have h1 := tAt_le (f := f) hz (Nat.le_of_lt hi)
    rw [tAt_zero] at h0
    rw [tAt_last] at h1
    exact wrapY (by omega) (by omega))
  have HH := Lib.hid (And.intro h (And.intro hv (And.intro hz hn))); clear c1 c2 c3 h hv hz hn er
  refine callsIn_of_wp_marks Tryd.func19 rfl trivial ?_ rfl
  simp only [Tryd.ntmps19, List.size_toArray, List.length_cons, List.length_nil, Nat.reduceAdd, Nat.reduceSub, Array.replicate_succ, Array.replicate_zero, List.push_toArray, List.append_toArray, List.nil_append, List.cons_append]
  gi_wp2_with fail
  refine ⟨trivial, (C1.out _ (by go_grown)).mono ?_⟩
  rintro e w1 ⟨rfl, hb1⟩
  have hb2 : Below w.heap.size w w1 := Below.trans (by go_grown) (hb1.mono (by simp; omega))
  have hz : ZeroAt w1 (w.heap.size + 2) := (ZeroAt.new _ (w.heap.size + 2) (by simp)).below hb1 (by simp)
  have hX1 : cellsAt w1 w.heap.size #[.int .i64 c, .int .i64 f, .slice (some ⟨b0, off, none⟩) zs.length cap] 24 := (hb1.block _ (by simp; omega)).trans (by rw [Below.heap_alloc _ _ _ (by simp; omega), Below.heap_alloc _ _ _ (by simp)]; exact heap_alloc_new w _)
  have HX1 := Lib.hid hX1; clear hX1
  have hfl : FluxAt w1 w.heap.size c f (some ⟨b0, off, none⟩) zs.length cap := ((FluxAt.new w c f _ zs.length cap 24 w.heap.size rfl).below (B := w.heap.size + 1) (Below.alloc (Below.alloc (Below.refl _ _) (by simp) _) (by simp) _) (by omega)).below hb1 (by simp; omega)
  have hbo : Boxed w1 (w.heap.size + 1) 2 (.int .i64 b) := boxB (by unfold Boxed; rw [Below.heap_alloc _ _ _ (by simp)]; exact heap_alloc_new' _ _ _ (by simp)) hb1 (by simp)
  have q0 := hbo.cell
  obtain ⟨x0, x1, x2⟩ := hfl
  have HA := Lib.hid (And.intro hz (And.intro hb2 (And.intro hbo (show FluxAt w1 w.heap.size c f (some ⟨b0, off, none⟩) zs.length cap from ⟨x0, x1, x2⟩)))); clear hb1 hz hb2 hbo
  gi_wp2_with fail
  refine ⟨trivial, (C2.out _ HA.out.2.1).mono ?_⟩
  rintro e w2 ⟨rfl, hb3⟩
  have hb4 : Below w.heap.size w w2 := HA.out.2.1.trans (hb3.mono HA.out.2.1.size)
  have hlt := HA.out.1.lt
  have hbo2 := boxB HA.out.2.2.1 hb3 (by omega)
  have q1 := hbo2.cell
  have HZ := Lib.hid (And.intro (HA.out.1.below hb3 hlt) (And.intro hb4 (And.intro hbo2 (HA.out.2.2.2.below hb3 (by omega))))); have HX2 := Lib.hid (show cellsAt w2 w.heap.size #[.int .i64 c, .int .i64 f, .slice (some ⟨b0, off, none⟩) zs.length cap] 24 from (hb3.block _ (by omega)).trans HX1.out); clear hb3 hb4 hbo2
  clear q0 x0 x1 x2
  gi_wp2_with fail
  refine ⟨trivial, (C3.out _ _ _ (by simp)).mono ?_⟩
  rintro e w3 ⟨rfl, hb5⟩
  have hb6 : Below w.heap.size w w3 := HZ.out.2.1.trans (hb5.mono HZ.out.2.1.size)
  have hlt2 := HZ.out.1.lt
  have hbo3 := boxB HZ.out.2.2.1 hb5 (by omega)
  have hz3 := HZ.out.1.below hb5 hlt2
  have hf3 := HZ.out.2.2.2.below hb5 (by omega)
  have hsz3 : w2.heap.size ≤ w3.heap.size := hb5.size
  have hcell := hbo3.cell
  have hl2 := hz3.lt
  have hl1 : w.heap.size + 1 < w3.heap.size := by omega
  have hl0 : w.heap.size < w3.heap.size := by omega
  have HX3 := Lib.hid (show cellsAt w3 w.heap.size #[.int .i64 c, .int .i64 f, .slice (some ⟨b0, off, none⟩) zs.length cap] 24 from (hb5.block _ (by omega)).trans HX2.out)
  clear hb5 q1
  obtain ⟨x0, x1, x2⟩ := hf3
  have HB := Lib.hid (And.intro hz3 (And.intro hb6 (And.intro hbo3 (show FluxAt w3 w.heap.size c f (some ⟨b0, off, none⟩) zs.length cap from ⟨x0, x1, x2⟩)))); clear hz3 hb6 hbo3
  gi_wp2
  apply rotCut
  · intro hP
    refine wpIn_wide.2 ?_
    go_region
    all_goals
      first
      | (obtain ⟨hA, hC, hD, hE⟩ := two_boxesY w3 (Obj.cells #[Value.int IntKind.i64 (zs.sum + f - b)] 2) (Obj.cells #[Value.int IntKind.i64 0] 3)
         obtain ⟨W4, hW4⟩ : ∃ W4, ((w3.alloc (Obj.cells #[Value.int IntKind.i64 (zs.sum + f - b)] 2)).alloc (Obj.cells #[Value.int IntKind.i64 0] 3)).drew = W4 := ⟨_, rfl⟩
         rw [hW4]
         rw [hW4] at hA hC hD hE
         have hS : cellsAt W4 (w3.heap.size + 1) #[Value.int IntKind.i64 0] 3 := hC
         have hF : cellsAt W4 w3.heap.size #[Value.int IntKind.i64 (zs.sum + f - b)] 2 := hA
         have hne : (w3.heap.size + 1) ≠ w3.heap.size := by omega
         clear hW4 hA hC
         generalize hpS : w3.heap.size + 1 = pS at hS hF hne hE ⊢
         generalize hpF : w3.heap.size = pF at hF hne hpS ⊢)
      | (obtain ⟨hA, hC, hD, hE⟩ := two_boxesY w3 (Obj.cells #[Value.int IntKind.i64 0] 3) (Obj.cells #[Value.int IntKind.i64 (zs.sum + f - b)] 2)
         obtain ⟨W4, hW4⟩ : ∃ W4, ((w3.alloc (Obj.cells #[Value.int IntKind.i64 0] 3)).alloc (Obj.cells #[Value.int IntKind.i64 (zs.sum + f - b)] 2)).drew = W4 := ⟨_, rfl⟩
         rw [hW4]
         rw [hW4] at hA hC hD hE
         have hS : cellsAt W4 w3.heap.size #[Value.int IntKind.i64 0] 3 := hA
         have hF : cellsAt W4 (w3.heap.size + 1) #[Value.int IntKind.i64 (zs.sum + f - b)] 2 := hC
         have hne : w3.heap.size ≠ (w3.heap.size + 1) := by omega
         clear hW4 hA hC
         generalize hpF : w3.heap.size + 1 = pF at hF hne hE ⊢
         generalize hpS : w3.heap.size = pS at hS hne hpF ⊢)
      have hB4 : Below w.heap.size w W4 := HB.out.2.1.trans (hD.mono HB.out.2.1.size)
      have hX4 : FluxAt W4 w.heap.size c f (some ⟨b0, off, none⟩) zs.length cap := FluxAt.below (w := w3) ⟨x0, x1, x2⟩ hD hl0
      have hX4b : cellsAt W4 w.heap.size #[.int .i64 c, .int .i64 f, .slice (some ⟨b0, off, none⟩) zs.length cap] 24 := (hD.block _ hl0).trans HX3.out
      have hY4 : Boxed W4 (w.heap.size + 1) 2 (.int .i64 b) := boxB HB.out.2.2.1 hD hl1
      have hZ4 : ZeroAt W4 (w.heap.size + 2) := HB.out.1.below hD hl2
      have hgS : w.heap.size + 2 < pS := by omega
      have hgF : w.heap.size + 2 < pF := by omega
      have hlS : pS < W4.heap.size := (Array.getElem?_eq_some_iff.1 hS).1
      have hlF : pF < W4.heap.size := (Array.getElem?_eq_some_iff.1 hF).1
      clear hpS hpF hD hE
      revert hlF
      revert hlS
      revert hgF
      revert hgS
      revert hZ4
      revert hY4
      revert hX4b
      revert hX4
      revert hB4
      revert hne
      revert hF
      revert hS
      revert pF
      revert pS
      revert W4
      exact hP.out
  · intro W4 pS pF hS hF hne hB4 hX4 hX4b hY4 hZ4 hgS hgF hlS hlF
    clear x0 x1 x2 hcell hl0 hl1 hl2 HZ HA hlt hlt2 hsz3
    obtain ⟨x0, x1, x2⟩ := hX4
    gi_wp2_with fail
    refine ⟨trivial, (changesIn_in Fence.wide 2 trivial rfl _ _ _ _ _ _).mono ?_⟩
    rintro e w5 ⟨rfl, rfl⟩
    obtain ⟨W0, hW0⟩ : ∃ W0, W4.alloc (.cells #[.int .i64 c, .int .i64 f, .slice (some ⟨b0, off, none⟩) zs.length cap] 24) = W0 := ⟨_, rfl⟩
    have cB : FluxAt W0 W4.heap.size c f (some ⟨b0, off, none⟩) zs.length cap := by rw [← hW0]; exact FluxAt.new _ c f _ _ _ _ _ rfl
    have d0 : Below W4.heap.size W4 W0 := by rw [← hW0]; exact (Below.refl _ _).alloc (Nat.le_refl _) _
    have hsz0 : W0.heap.size = W4.heap.size + 1 := by rw [← hW0]; simp
    rw [hW0]
    clear hW0 x0 x1 x2
    have hS0 : cellsAt W0 pS #[Value.int IntKind.i64 0] 3 := (d0.block _ hlS).trans hS
    have hF0 : cellsAt W0 pF #[Value.int IntKind.i64 (zs.sum + f - b)] 2 := (d0.block _ hlF).trans hF
    have hY0 : cellsAt W0 (w.heap.size + 1) #[Value.int IntKind.i64 b] 2 := (d0.block _ (by omega)).trans hY4
    have hX0 : cellsAt W0 w.heap.size #[.int .i64 c, .int .i64 f, .slice (some ⟨b0, off, none⟩) zs.length cap] 24 := (d0.block _ (by omega)).trans hX4b
    have hZ0 : cellsAt W0 (w.heap.size + 2) #[.int .i64 0, .int .i64 0, .slice none 0 0] 24 := (d0.block _ (by omega)).trans hZ4
    have hB0 : Below w.heap.size w W0 := hB4.trans (d0.mono hB4.size)
    have hIB : SlB w.heap.size W0 (some ⟨b0, off, none⟩) zs := (slB_of HH.out.1 hz1).below hB0
    clear HB hS hF hY4 hZ4 hB4 C1 C2 C3
    gi_wp2
    rename_i K0 hK0
    apply rotCut
    · intro hP
      refine wpIn_rangeFunc_ownG rfl (by omega) (gf := 45) (lb := #[.pointer (some ⟨W4.heap.size, 0, none⟩)]) rfl trivial (enters_of Tryd.func45 (by kernel_rfl) rfl)
        (changes_stops Fence.wide 2 trivial rfl (by omega) W4.heap.size w.heap.size c f _ cap zs hz4 HH.out.2.2.1 hf0 hfl0 W0 (by omega) hB0.size cB hIB) belowK_t (belowK_b (by omega)) (Below.refl _ _) (fun _ => rfl)
        (fun pre W => cellsAt W pS #[.int .i64 0] 3 ∧ cellsAt W pF #[.int .i64 (zs.sum + f - b)] 2 ∧ cellsAt W (w.heap.size + 1) #[.int .i64 b] 2 ∧ cellsAt W (w.heap.size + 2) #[.int .i64 0, .int .i64 0, .slice none 0 0] 24 ∧ cellsAt W w.heap.size #[.int .i64 c, .int .i64 f, .slice (some ⟨b0, off, none⟩) zs.length cap] 24 ∧ Below w.heap.size w W ∧ (∀ x ∈ pre, tAt f zs x.val < b))
        (fun cc pre W => cellsAt W pS #[.int .i64 (lastX pre : Int)] 3 ∧ cellsAt W pF #[.int .i64 (tAt f zs (lastX pre) - b)] 2 ∧ cellsAt W (w.heap.size + 2) #[.int .i64 0, .int .i64 0, .slice none 0 0] 24 ∧ cellsAt W w.heap.size #[.int .i64 c, .int .i64 f, .slice (some ⟨b0, off, none⟩) zs.length cap] 24 ∧ Below w.heap.size w W ∧ (cc = .exit 0 ∧ b ≤ tAt f zs (lastX pre) ∧ ∃ (q : List (Fin zs.length)) (x : Fin zs.length), pre = q ++ [x] ∧ ∀ y : Fin zs.length, y ∈ q → tAt f zs y.val < b))
        (OwnFrom.and (Own.from (cellsAt_own (fun _ => _) _ _) _) (OwnFrom.and (Own.from (cellsAt_own (fun _ => _) _ _) _) (OwnFrom.and (Own.from (cellsAt_own (fun _ => _) _ _) _) (OwnFrom.and (Own.from (cellsAt_own (fun _ => _) _ _) _) (OwnFrom.and (Own.from (cellsAt_own (fun _ => _) _ _) _) (OwnFrom.and (ownFrom_below (Nat.le_refl _) (by omega)) (fun _ _ _ _ hs _ _ => hs)))))))
        (fun cc => OwnFrom.and (Own.from (cellsAt_own (fun pre => #[.int .i64 (lastX pre : Int)]) _ _) _) (OwnFrom.and (Own.from (cellsAt_own (fun pre => #[.int .i64 (tAt f zs (lastX pre) - b)]) _ _) _) (OwnFrom.and (Own.from (cellsAt_own (fun _ => _) _ _) _) (OwnFrom.and (Own.from (cellsAt_own (fun _ => _) _ _) _) (OwnFrom.and (ownFrom_below (Nat.le_refl _) (by omega)) (fun _ _ _ _ hs _ _ => hs))))))
        ⟨hS0, hF0, hY0, hZ0, hX0, hB0, by simp⟩
        (fun x => { tmps := #[.agg #[.int .i64 c, .int .i64 f, .slice (some ⟨b0, off, none⟩) zs.length cap], .int .i64 b, .pointer (some ⟨w.heap.size, 0, none⟩), .pointer (some ⟨w.heap.size + 1, 0, none⟩), .pointer (some ⟨w.heap.size + 1 + 1, 0, none⟩), .int .i64 0, .int .i64 zs.sum, .pointer (some ⟨pS, 0, none⟩), .pointer (some ⟨pF, 0, none⟩), .int .i64 (x.val : Int), .int .i64 (tAt f zs x.val), undef, undef, .agg #[.int .i64 c, .int .i64 f, .slice (some ⟨b0, off, none⟩) zs.length cap], .bool true, .bool false, undef, .agg #[.int .i64 c, .int .i64 f, .slice (some ⟨b0, off, none⟩) zs.length cap], .int .i64 zs.sum, .int .i64 zs.sum, .int .i64 (zs.sum - 1), .int .i64 b, .slice (some ⟨w2.heap.size, 0, none⟩) 1 1, .bool true, .bool false, undef, .int .i64 zs.sum, .pointer (some ⟨w.heap.size, 1, none⟩), .int .i64 f, .int .i64 (zs.sum + f), .int .i64 b, .int .i64 (zs.sum + f - b), .agg #[.int .i64 c, .int .i64 f, .slice (some ⟨b0, off, none⟩) zs.length cap], .func (.func 45) #[] #[.pointer (some ⟨W4.heap.size, 0, none⟩)], .int .i64 (x.val : Int), .int .i64 (tAt f zs x.val), undef, undef, undef, undef, undef, undef, undef, undef, undef, undef, undef, undef, undef, undef, undef, undef, undef, undef, undef, undef, undef, undef, undef, undef, undef, undef, undef, undef, undef, undef], defers := [] }) ?_ ?_ ?_ ?_
      · intro l x W K hK
        gi_wp2
        exact hK
      · rintro l pre x W ⟨kS, kF, kY, kZ, kX, kB, kP⟩ _
        clear hP
        have hxl := x.isLt
        have kc : W.cell? ⟨w.heap.size + 1, 0, none⟩ = some (.int .i64 b) := Boxed.cell kY
        by_cases hge : b ≤ tAt f zs x.val
        · have hn1 : w.heap.size + 1 ≠ pS := by omega
          have hn2 : pS ≠ w.heap.size + 1 := by omega
          have hn3 : pF ≠ pS := fun e => hne e.symm
          have fS : W.frozen? ⟨pS, 0, none⟩ = false := by simp [World.frozen?, show W.heap[pS]? = _ from kS]
          have fF : W.frozen? ⟨pF, 0, none⟩ = false := by simp [World.frozen?, show W.heap[pF]? = _ from kF]
          have cS : W.cell? ⟨pS, 0, none⟩ = some (.int .i64 0) := Boxed.cell kS
          have cF : W.cell? ⟨pF, 0, none⟩ = some (.int .i64 (zs.sum + f - b)) := Boxed.cell kF
          have ewr : IntKind.i64.wrap (tAt f zs x.val - b) = tAt f zs x.val - b := hwr.out x.val hxl
          have HF1 := Lib.hid (set2_facts (B' := W0.heap.size) hne (show w.heap.size ≤ pS by omega) (show w.heap.size ≤ pF by omega) kS kF kB (.int .i64 (x.val : Int)) (.int .i64 (tAt f zs x.val - b)))
          clear hn' hz1 hz4 hsum hf0 hf1 hfl0 hsum0 HH HX1 HX2 HX3
          gi_wp2_with fail
          rename_i Q1 K1 hK1
          have HK1 := Lib.hid hK1; clear hK1
          refine wpIn_region_any (by kernel_rfl) ?_
          try (change wpAnyIn _ _ _ _ _ _ _ _ _ (World.drew _))
          refine (wpAnyIn_flat (by kernel_rfl) _ _ _ _).2 ?_
          refine wpAnyIn_take (i := 0) (oi := { dst := some 39, op := Op.move (Operand.tmp 9), type := 3, pos := "l02_flux.go:170", after := #[], guard := none }) (v := ?_) rfl rfl (by kernel_rfl) (by kernel_rfl) (by kernel_rfl) (fun _ _ _ h => h) ⟨Or.inl ⟨by rfl, ?hy⟩, fun _ => rfl⟩ ?_
          case hy => (intro w'; go_simp; try with_reducible rfl)
          simp only [Act.put, List.setIfInBounds_toArray, List.set_cons_zero, List.set_cons_succ]
          refine wpAnyIn_take (i := 1) (oi := { dst := some 40, op := Op.move (Operand.tmp 10), type := 2, pos := "l02_flux.go:170", after := #[{ on := 4, ground := Ground.gcOnly Departure.lateStores }], guard := none }) (v := ?_) rfl rfl (by kernel_rfl) (by kernel_rfl) (by kernel_rfl) (fun _ _ _ h => h) ⟨Or.inl ⟨by rfl, ?hy⟩, fun _ => rfl⟩ ?_
          case hy => (intro w'; go_simp; try with_reducible rfl)
          simp only [Act.put, List.setIfInBounds_toArray, List.set_cons_zero, List.set_cons_succ]
          refine wpAnyIn_ready (rs := [2, 4]) (by kernel_rfl) (by simp) ?_
          refine AllReadyIn.cons (o := { dst := some 41, op := Op.load 2 (Operand.tmp 3), type := 2, pos := "l02_flux.go:170", after := #[{ on := 4, ground := Ground.gcOnly Departure.lateStores }], guard := none }) rfl (fun K hK => ?_) (AllReadyIn.cons (o := { dst := none, op := Op.store 3 (Operand.tmp 7) (Operand.tmp 39), type := 0, pos := "l02_flux.go:170", after := #[{ on := 0, ground := Ground.data }, { on := 0, ground := Ground.phase }, { on := 1, ground := Ground.textOnly Departure.lateStores }, { on := 2, ground := Ground.textOnly Departure.lateStores }, { on := 3, ground := Ground.textOnly Departure.lateStores }], guard := none }) rfl (fun K hK => ?_) AllReadyIn.nil)
          · go_simp
            refine hK _ _ ?_
            clear hK K
            try simp only [Act.put, List.setIfInBounds_toArray, List.set_cons_zero, List.set_cons_succ]
            refine wpAnyIn_take (i := 3) (oi := { dst := some 42, op := Op.binOp BinOp.sub 2 (Operand.tmp 40) (Operand.tmp 41) 2, type := 2, pos := "l02_flux.go:170", after := #[{ on := 1, ground := Ground.data }, { on := 2, ground := Ground.data }, { on := 4, ground := Ground.gcOnly Departure.lateStores }], guard := none }) (v := ?_) rfl rfl (by kernel_rfl) (by kernel_rfl) (by kernel_rfl) (fun _ _ _ h => h) ⟨Or.inl ⟨by rfl, ?hy⟩, fun _ => rfl⟩ ?_
            case hy => (intro w'; go_simp; try with_reducible rfl)
            simp only [Act.put, List.setIfInBounds_toArray, List.set_cons_zero, List.set_cons_succ]
            refine wpAnyIn_ready (rs := [4]) (by kernel_rfl) (by simp) ?_
            refine AllReadyIn.cons (o := { dst := none, op := Op.store 3 (Operand.tmp 7) (Operand.tmp 39), type := 0, pos := "l02_flux.go:170", after := #[{ on := 0, ground := Ground.data }, { on := 0, ground := Ground.phase }, { on := 1, ground := Ground.textOnly Departure.lateStores }, { on := 2, ground := Ground.textOnly Departure.lateStores }, { on := 3, ground := Ground.textOnly Departure.lateStores }], guard := none }) rfl (fun K hK => ?_) AllReadyIn.nil
            go_simp
            refine hK _ _ ?_
            clear hK K
            try simp only [Act.put, List.setIfInBounds_toArray, List.set_cons_zero, List.set_cons_succ]
            refine wpAnyIn_ready (rs := [5]) (by kernel_rfl) (by simp) ?_
            refine AllReadyIn.cons (o := { dst := none, op := Op.store 2 (Operand.tmp 8) (Operand.tmp 42), type := 0, pos := "l02_flux.go:170", after := #[{ on := 3, ground := Ground.data }, { on := 4, ground := Ground.chain }, { on := 0, ground := Ground.phase }, { on := 1, ground := Ground.phase }, { on := 2, ground := Ground.phase }, { on := 3, ground := Ground.phase }, { on := 4, ground := Ground.phase }], guard := none }) rfl (fun K hK => ?_) AllReadyIn.nil
            go_simp
            refine hK _ _ ?_
            clear hK K
            try simp only [Act.put, List.setIfInBounds_toArray, List.set_cons_zero, List.set_cons_succ]
            refine wpAnyIn_done (by kernel_rfl) ?_ _
            refine HK1.out _ _ ?_
            gi_wp2
            have ev : tAt f zs (lastX (pre ++ [x])) = tAt f zs x.val := by rw [lastX_snoc]
            refine ⟨HF1.out.1, ?_, ?_, HF1.out.2.2.2.1 _ _ _ (by omega) (by omega) kZ, HF1.out.2.2.2.1 _ _ _ (by omega) (by omega) kX, HF1.out.2.2.2.2, rfl, by rw [ev]; exact hge, pre, x, rfl, kP⟩
            · rw [lastX_snoc]; exact HF1.out.2.1
            · rw [ev]; exact HF1.out.2.2.1
          · go_simp
            refine hK _ _ ?_
            clear hK K
            try simp only [Act.put, List.setIfInBounds_toArray, List.set_cons_zero, List.set_cons_succ]
            refine wpAnyIn_ready (rs := [2]) (by kernel_rfl) (by simp) ?_
            refine AllReadyIn.cons (o := { dst := some 41, op := Op.load 2 (Operand.tmp 3), type := 2, pos := "l02_flux.go:170", after := #[{ on := 4, ground := Ground.gcOnly Departure.lateStores }], guard := none }) rfl (fun K hK => ?_) AllReadyIn.nil
            go_simp
            refine hK _ _ ?_
            clear hK K
            try simp only [Act.put, List.setIfInBounds_toArray, List.set_cons_zero, List.set_cons_succ]
            refine wpAnyIn_take (i := 3) (oi := { dst := some 42, op := Op.binOp BinOp.sub 2 (Operand.tmp 40) (Operand.tmp 41) 2, type := 2, pos := "l02_flux.go:170", after := #[{ on := 1, ground := Ground.data }, { on := 2, ground := Ground.data }, { on := 4, ground := Ground.gcOnly Departure.lateStores }], guard := none }) (v := ?_) rfl rfl (by kernel_rfl) (by kernel_rfl) (by kernel_rfl) (fun _ _ _ h => h) ⟨Or.inl ⟨by rfl, ?hy⟩, fun _ => rfl⟩ ?_
            case hy => (intro w'; go_simp; try with_reducible rfl)
            simp only [Act.put, List.setIfInBounds_toArray, List.set_cons_zero, List.set_cons_succ]
            refine wpAnyIn_ready (rs := [5]) (by kernel_rfl) (by simp) ?_
            refine AllReadyIn.cons (o := { dst := none, op := Op.store 2 (Operand.tmp 8) (Operand.tmp 42), type := 0, pos := "l02_flux.go:170", after := #[{ on := 3, ground := Ground.data }, { on := 4, ground := Ground.chain }, { on := 0, ground := Ground.phase }, { on := 1, ground := Ground.phase }, { on := 2, ground := Ground.phase }, { on := 3, ground := Ground.phase }, { on := 4, ground := Ground.phase }], guard := none }) rfl (fun K hK => ?_) AllReadyIn.nil
            go_simp
            refine hK _ _ ?_
            clear hK K
            try simp only [Act.put, List.setIfInBounds_toArray, List.set_cons_zero, List.set_cons_succ]
            refine wpAnyIn_done (by kernel_rfl) ?_ _
            refine HK1.out _ _ ?_
            gi_wp2
            have ev : tAt f zs (lastX (pre ++ [x])) = tAt f zs x.val := by rw [lastX_snoc]
            refine ⟨HF1.out.1, ?_, ?_, HF1.out.2.2.2.1 _ _ _ (by omega) (by omega) kZ, HF1.out.2.2.2.1 _ _ _ (by omega) (by omega) kX, HF1.out.2.2.2.2, rfl, by rw [ev]; exact hge, pre, x, rfl, kP⟩
            · rw [lastX_snoc]; exact HF1.out.2.1
            · rw [ev]; exact HF1.out.2.2.1
        · gi_wp2
          exact ⟨KeepsFrom.refl _ _, Below.refl _ _, kS, kF, kY, kZ, kX, kB, fun y hy => by
            rcases List.mem_append.1 hy with h | h
            · exact kP y h
            · rw [List.mem_singleton.1 h]; exact hge⟩
      · intro D xs W hD hxs ⟨kS0, kF0, kY, kZ, kX, kB, kP⟩ hdD
        obtain ⟨s, fr, kS, kF, hsn, hR⟩ : ∃ (s : Nat) (fr : Int), cellsAt W pS #[Value.int .i64 (s : Int)] 3 ∧ cellsAt W pF #[Value.int .i64 fr] 2 ∧ s < zs.length ∧ rotVal c f zs b = ⟨c, fr, zs.drop s ++ zs.take s, 0⟩ := by
          subst hxs
          have hi := rot_done kP
          have hr := rot_at HH.out.2.1 HH.out.2.2.2 hi
          unfold rotFirst at hr
          rw [if_neg (by omega), Nat.mod_self] at hr
          exact ⟨0, zs.sum + f - b, kS0, kF0, by omega, hr⟩
        clear kS0 kF0 kP hxs kY
        show K0 _ _
        revert hdD
        revert kB
        revert kX
        revert kZ
        revert hR
        revert hsn
        revert kF
        revert kS
        revert fr
        revert s
        revert hD
        revert W
        revert D
        exact hP.out
      · rintro D cc pre W hD ⟨k, hk, hpre⟩ ⟨kS0, kF0, kZ, kX, kB, rfl, kL, q, x, rfl, kQ⟩ hdD
        obtain ⟨s, fr, kS, kF, hsn, hR⟩ : ∃ (s : Nat) (fr : Int), cellsAt W pS #[Value.int .i64 (s : Int)] 3 ∧ cellsAt W pF #[Value.int .i64 fr] 2 ∧ s < zs.length ∧ rotVal c f zs b = ⟨c, fr, zs.drop s ++ zs.take s, 0⟩ := by
          obtain ⟨hi, hlt⟩ := rot_stop hk hpre kQ kL
          have hr := rot_at HH.out.2.1 HH.out.2.2.2 hi
          unfold rotFirst at hr
          rw [if_pos hlt, Nat.mod_eq_of_lt hlt] at hr
          exact ⟨_, _, kS0, kF0, hlt, hr⟩
        clear kS0 kF0 kL kQ hpre hk
        refine wpIn_exit ?_
        show K0 _ _
        revert hdD
        revert kB
        revert kX
        revert kZ
        revert hR
        revert hsn
        revert kF
        revert kS
        revert fr
        revert s
        revert hD
        revert W
        revert D
        exact hP.out
    · intro D W hD s fr kS kF hsn hR kZ kX kB hdD
      have hb0W : b0 < W.heap.size := Nat.lt_of_lt_of_le hblt kB.size
      have hIW : Ints W b0 off zs := hints.below kB hblt
      obtain ⟨X0, X1, X2⟩ := flux_cells kX
      have hlX : w.heap.size < W.heap.size := (Array.getElem?_eq_some_iff.1 (show W.heap[w.heap.size]? = _ from kX)).1
      have hlS2 : pS < W.heap.size := (Array.getElem?_eq_some_iff.1 (show W.heap[pS]? = _ from kS)).1
      have hlF2 : pF < W.heap.size := (Array.getElem?_eq_some_iff.1 (show W.heap[pF]? = _ from kF)).1
      have hlZ : w.heap.size + 2 < W.heap.size := (Array.getElem?_eq_some_iff.1 (show W.heap[w.heap.size + 2]? = _ from kZ)).1
      have hlD : D < W.heap.size := (Array.getElem?_eq_some_iff.1 hdD).1
      have cS : W.cell? ⟨pS, 0, none⟩ = some (.int .i64 (s : Int)) := Boxed.cell kS
      have cF : W.cell? ⟨pF, 0, none⟩ = some (.int .i64 fr) := Boxed.cell kF
      have hmk := fun w => run_make_row' (P := Tryd.prog) 22 2 (.int .i64 0) 8 Tryd.underlying22 i64info rfl .i64 .i64 zs.length (by omega) (by omega) w
      clear HX1 HX2 HX3 hS0 hF0 hY0 hX0 hZ0 cB d0 hsum hsum0 hf0 hf1 hfl0 hn'
      gi_wp2
      have hG0 : (W.alloc (.cells (madeCells #[Value.int .i64 0] zs.length) 2)).heap[W.heap.size]? = some (.cells ((List.replicate zs.length (0 : Int)).map (Value.int .i64)).toArray 2 (0, 0)) := by rw [← made_intsY]; exact heap_alloc_new W _
      have hBA : Below W.heap.size W (W.alloc (.cells (madeCells #[Value.int .i64 0] zs.length) 2)) := (Below.refl _ _).alloc (Nat.le_refl _) _
      have hcp := rot_copy 22 22 3 2 W.heap.size 0 zs.length zs.length b0 (off + s) (zs.length - s) (cap - s) _ (zs.drop s) Tryd.underlying22 i64szY hG0 (by rw [List.length_drop]; exact (Nat.min_eq_left (by omega)).symm) (fun j x hx => by
        rw [List.getElem?_drop] at hx
        rw [hBA.cell (p := ⟨b0, _, none⟩) hb0W, Nat.add_assoc]
        exact hIW (s + j) x hx) (by simp)
      obtain ⟨W2, hcp, hG2, hBB⟩ := hcp
      have hB2 : Below W.heap.size W W2 := hBA.trans (hBB _ (by simp)) 
      rw [hcp]
      rw [show (List.drop s zs).length = zs.length - s by simp]
      simp only [Result.andThen, Oper.uponIn_value, goInt]
      clear hcp hBA hG0 hmk
      have Y0 := (hB2.cell (p := ⟨w.heap.size, 0, none⟩) hlX).trans X0
      have Y2 := (hB2.cell (p := ⟨w.heap.size, 2, none⟩) hlX).trans X2
      have dS := (hB2.cell (p := ⟨pS, 0, none⟩) hlS2).trans cS
      have dF := (hB2.cell (p := ⟨pF, 0, none⟩) hlF2).trans cF
      have HXF := Lib.hid (And.intro X0 cF)
      clear X0 X1 X2 cS cF
      gi_wp2_with fail
      have hsc : (s : Int) ≤ (cap : Int) := by omega
      have hs0 : (0 : Int) ≤ (s : Int) := by omega
      have hns : ((zs.length - s : Nat) : Int) ≤ (zs.length : Int) := by omega
      have hns0 : (0 : Int) ≤ ((zs.length - s : Nat) : Int) := by omega
      obtain ⟨W3, hcp2, hG3, hBB2⟩ := rot_copy2 (w := W2.drew) 22 22 3 2 W.heap.size zs.length s b0 off cap _ (zs.take s) hsn Tryd.underlying22 i64szY hG2 (by rw [List.length_take]; omega) (fun j x hx => by
        rw [List.getElem?_take] at hx
        rw [show W2.drew.cell? ⟨b0, off + j, none⟩ = W2.cell? ⟨b0, off + j, none⟩ from rfl, hB2.cell (p := ⟨b0, _, none⟩) hb0W]
        split at hx
        · exact hIW j x hx
        · cases hx) (by simp [_root_.Go.splice])
      have hB3 : Below W.heap.size W W3 := hB2.drew.trans (hBB2 W.heap.size (Nat.le_refl _))
      rename_i K2 hK2
      have HK2 := Lib.hid hK2; clear hK2
      refine wpIn_mono (show Code.wpIn _ _ _ _ (Exit.then K2 (fun _ _ _ => False)) _ _ from ?_) (fun e a w h => by cases e <;> first | exact h | exact h.elim)
      refine wpIn_region_any (by kernel_rfl) ?_
      try (change wpAnyIn _ _ _ _ _ _ _ _ _ (World.drew _))
      refine wpAnyIn_take (i := 0) (oi := { dst := some 53, op := Op.move (Operand.tmp 11), type := 22, pos := "l02_flux.go:176", after := #[], guard := none }) (v := ?_) rfl rfl (by kernel_rfl) (by kernel_rfl) (by kernel_rfl) (fun _ _ _ h => h) ⟨Or.inl ⟨by rfl, ?hy⟩, fun _ => rfl⟩ ?_
      case hy => (intro w'; go_simp; try with_reducible rfl)
      simp only [Act.put, List.setIfInBounds_toArray, List.set_cons_zero, List.set_cons_succ]
      refine wpAnyIn_take (i := 1) (oi := { dst := some 54, op := Op.move (Operand.tmp 12), type := 3, pos := "l02_flux.go:176", after := #[], guard := none }) (v := ?_) rfl rfl (by kernel_rfl) (by kernel_rfl) (by kernel_rfl) (fun _ _ _ h => h) ⟨Or.inl ⟨by rfl, ?hy⟩, fun _ => rfl⟩ ?_
      case hy => (intro w'; go_simp; try with_reducible rfl)
      simp only [Act.put, List.setIfInBounds_toArray, List.set_cons_zero, List.set_cons_succ]
      refine wpAnyIn_take (i := 2) (oi := { dst := some 55, op := Op.slice 22 (Operand.tmp 53) (some (Operand.tmp 54)) none none, type := 22, pos := "l02_flux.go:176", after := #[{ on := 0, ground := Ground.data }, { on := 1, ground := Ground.data }], guard := none }) (v := ?_) rfl rfl (by kernel_rfl) (by kernel_rfl) (by kernel_rfl) (fun _ _ _ h => h) ⟨Or.inl ⟨by rfl, ?hy⟩, fun _ => rfl⟩ ?_
      case hy => (intro w'; go_simp; try with_reducible rfl)
      simp only [Act.put, List.setIfInBounds_toArray, List.set_cons_zero, List.set_cons_succ]
      refine wpAnyIn_take (i := 3) (oi := { dst := some 56, op := Op.fieldAddr 24 (Operand.tmp 2) 2, type := 0, pos := "l02_flux.go:176", after := #[], guard := none }) (v := ?_) rfl rfl (by kernel_rfl) (by kernel_rfl) (by kernel_rfl) (fun _ _ _ h => h) ⟨Or.inl ⟨by rfl, ?hy⟩, fun _ => rfl⟩ ?_
      case hy => (intro w'; go_simp; try with_reducible rfl)
      simp only [Act.put, List.setIfInBounds_toArray, List.set_cons_zero, List.set_cons_succ]
      refine wpAnyIn_ready (rs := [4, 5]) (by kernel_rfl) (by simp) ?_
      refine AllReadyIn.cons (o := { dst := some 57, op := Op.load 22 (Operand.tmp 56), type := 22, pos := "l02_flux.go:176", after := #[{ on := 3, ground := Ground.data }], guard := none }) rfl (fun K hK => ?_) (AllReadyIn.cons (o := { dst := some 58, op := Op.load 3 (Operand.tmp 7), type := 3, pos := "l02_flux.go:176", after := #[], guard := none }) rfl (fun K hK => ?_) AllReadyIn.nil)
      · go_simp
        refine hK _ _ ?_
        clear hK K
        try simp only [Act.put, List.setIfInBounds_toArray, List.set_cons_zero, List.set_cons_succ]
        refine wpAnyIn_ready (rs := [5]) (by kernel_rfl) (by simp) ?_
        refine AllReadyIn.cons (o := { dst := some 58, op := Op.load 3 (Operand.tmp 7), type := 3, pos := "l02_flux.go:176", after := #[], guard := none }) rfl (fun K hK => ?_) AllReadyIn.nil
        go_simp
        refine hK _ _ ?_
        clear hK K
        try simp only [Act.put, List.setIfInBounds_toArray, List.set_cons_zero, List.set_cons_succ]
        refine wpAnyIn_take (i := 6) (oi := { dst := some 59, op := Op.slice 22 (Operand.tmp 57) none (some (Operand.tmp 58)) none, type := 22, pos := "l02_flux.go:176", after := #[{ on := 4, ground := Ground.data }, { on := 5, ground := Ground.data }], guard := none }) (v := ?_) rfl rfl (by kernel_rfl) (by kernel_rfl) (by kernel_rfl) (fun _ _ _ h => h) ⟨Or.inl ⟨by rfl, ?hy⟩, fun _ => rfl⟩ ?_
        case hy => (intro w'; go_simp; try with_reducible rfl)
        simp only [Act.put, List.setIfInBounds_toArray, List.set_cons_zero, List.set_cons_succ]
        refine wpAnyIn_ready (rs := [7]) (by kernel_rfl) (by simp) ?_
        refine AllReadyIn.cons (o := { dst := some 60, op := Op.call { callee := Callee.builtin Builtin.copy, args := #[Operand.tmp 55, Operand.tmp 59], argTypes := #[22, 22] }, type := 3, pos := "l02_flux.go:176", after := #[{ on := 2, ground := Ground.data }, { on := 6, ground := Ground.data }], guard := none }) rfl (fun K hK => ?_) AllReadyIn.nil
        go_simp
        refine hK _ _ ?_
        clear hK K
        try simp only [Act.put, List.setIfInBounds_toArray, List.set_cons_zero, List.set_cons_succ]
        refine wpAnyIn_done (by kernel_rfl) ?_ _
        refine HK2.out _ _ ?_
        clear HK2
        have hF := rot_splice zs s (by omega)
        rw [hF] at hG3
        have E0 := (hB3.cell (p := ⟨w.heap.size, 0, none⟩) hlX).trans HXF.out.1
        have eF := (hB3.cell (p := ⟨pF, 0, none⟩) hlF2).trans HXF.out.2
        have hz3 : ZeroAt W3 (w.heap.size + 2) := ZeroAt.below (w := W) kZ hB3 hlZ
        obtain ⟨z0, z1, z2, y0, y1, y2⟩ := hz3.facts
        have hD3 : W3.heap[D]? = some (.deferred (some [])) := (hB3.block D hlD).trans hdD
        have HG3 := Lib.hid hG3
        have hd2 : w.heap.size + 1 + 1 < D := by omega
        obtain ⟨X, hXe, f1, f2, f3, f4⟩ := rot_fin (w := w) c fr (D := D) (G := W.heap.size) (n := zs.length) (w.heap.size + 1 + 1) (by omega) (by omega) (by omega) (by omega) (by omega) (by omega) hz3 hG3 hD3 (kB.trans (hB3.mono kB.size))
        have HFX := Lib.hid (And.intro hXe (And.intro f1 (And.intro f2 (And.intro f3 f4)))); clear hXe f1 f2 f3 f4
        clear Y0 Y2 dS dF hcp2 hF hG3 hG2 hBB hBB2 hz3 kX kZ kS kF hIW
        have HR := Lib.hid (And.intro hR hsn); clear hR hB2 hB3 kB hD3 hdD
        repeat (any_goals gi_step)
        obtain ⟨hXe, f1, ⟨q0, q1, q2⟩, f3, f4⟩ := HFX.out
        have hlen : (List.drop s zs ++ List.take s zs).length = zs.length := by have := HR.out.2; simp; omega
        rw [hXe]
        refine ⟨by simp, .inl ⟨_, _, rfl, run_takeDeferred f1, ?_⟩⟩
        refine ⟨.tuple #[.agg #[.int .i64 c, .int .i64 fr, .slice (some ⟨W.heap.size, 0, none⟩) zs.length zs.length], .int .i64 0], by simp [results, Tryd.results19, go_sem, q0, q1, q2], ?_⟩
        rw [HR.out.1]
        exact ⟨some ⟨W.heap.size, 0, none⟩, zs.length, by (simp only []; rw [hlen]), f3, f4⟩
      · go_simp
        refine hK _ _ ?_
        clear hK K
        try simp only [Act.put, List.setIfInBounds_toArray, List.set_cons_zero, List.set_cons_succ]
        refine wpAnyIn_ready (rs := [4]) (by kernel_rfl) (by simp) ?_
        refine AllReadyIn.cons (o := { dst := some 57, op := Op.load 22 (Operand.tmp 56), type := 22, pos := "l02_flux.go:176", after := #[{ on := 3, ground := Ground.data }], guard := none }) rfl (fun K hK => ?_) AllReadyIn.nil
        go_simp
        refine hK _ _ ?_
        clear hK K
        try simp only [Act.put, List.setIfInBounds_toArray, List.set_cons_zero, List.set_cons_succ]
        refine wpAnyIn_take (i := 6) (oi := { dst := some 59, op := Op.slice 22 (Operand.tmp 57) none (some (Operand.tmp 58)) none, type := 22, pos := "l02_flux.go:176", after := #[{ on := 4, ground := Ground.data }, { on := 5, ground := Ground.data }], guard := none }) (v := ?_) rfl rfl (by kernel_rfl) (by kernel_rfl) (by kernel_rfl) (fun _ _ _ h => h) ⟨Or.inl ⟨by rfl, ?hy⟩, fun _ => rfl⟩ ?_
        case hy => (intro w'; go_simp; try with_reducible rfl)
        simp only [Act.put, List.setIfInBounds_toArray, List.set_cons_zero, List.set_cons_succ]
        refine wpAnyIn_ready (rs := [7]) (by kernel_rfl) (by simp) ?_
        refine AllReadyIn.cons (o := { dst := some 60, op := Op.call { callee := Callee.builtin Builtin.copy, args := #[Operand.tmp 55, Operand.tmp 59], argTypes := #[22, 22] }, type := 3, pos := "l02_flux.go:176", after := #[{ on := 2, ground := Ground.data }, { on := 6, ground := Ground.data }], guard := none }) rfl (fun K hK => ?_) AllReadyIn.nil
        go_simp
        refine hK _ _ ?_
        clear hK K
        try simp only [Act.put, List.setIfInBounds_toArray, List.set_cons_zero, List.set_cons_succ]
        refine wpAnyIn_done (by kernel_rfl) ?_ _
        refine HK2.out _ _ ?_
        clear HK2
        have hF := rot_splice zs s (by omega)
        rw [hF] at hG3
        have E0 := (hB3.cell (p := ⟨w.heap.size, 0, none⟩) hlX).trans HXF.out.1
        have eF := (hB3.cell (p := ⟨pF, 0, none⟩) hlF2).trans HXF.out.2
        have hz3 : ZeroAt W3 (w.heap.size + 2) := ZeroAt.below (w := W) kZ hB3 hlZ
        obtain ⟨z0, z1, z2, y0, y1, y2⟩ := hz3.facts
        have hD3 : W3.heap[D]? = some (.deferred (some [])) := (hB3.block D hlD).trans hdD
        have HG3 := Lib.hid hG3
        have hd2 : w.heap.size + 1 + 1 < D := by omega
        obtain ⟨X, hXe, f1, f2, f3, f4⟩ := rot_fin (w := w) c fr (D := D) (G := W.heap.size) (n := zs.length) (w.heap.size + 1 + 1) (by omega) (by omega) (by omega) (by omega) (by omega) (by omega) hz3 hG3 hD3 (kB.trans (hB3.mono kB.size))
        have HFX := Lib.hid (And.intro hXe (And.intro f1 (And.intro f2 (And.intro f3 f4)))); clear hXe f1 f2 f3 f4
        clear Y0 Y2 dS dF hcp2 hF hG3 hG2 hBB hBB2 hz3 kX kZ kS kF hIW
        have HR := Lib.hid (And.intro hR hsn); clear hR hB2 hB3 kB hD3 hdD
        repeat (any_goals gi_step)
        obtain ⟨hXe, f1, ⟨q0, q1, q2⟩, f3, f4⟩ := HFX.out
        have hlen : (List.drop s zs ++ List.take s zs).length = zs.length := by have := HR.out.2; simp; omega
        rw [hXe]
        refine ⟨by simp, .inl ⟨_, _, rfl, run_takeDeferred f1, ?_⟩⟩
        refine ⟨.tuple #[.agg #[.int .i64 c, .int .i64 fr, .slice (some ⟨W.heap.size, 0, none⟩) zs.length zs.length], .int .i64 0], by simp [results, Tryd.results19, go_sem, q0, q1, q2], ?_⟩
        rw [HR.out.1]
        exact ⟨some ⟨W.heap.size, 0, none⟩, zs.length, by (simp only []; rw [hlen]), f3, f4⟩
end Go.Proofs.YtfedlehibkgjbaaDoor
