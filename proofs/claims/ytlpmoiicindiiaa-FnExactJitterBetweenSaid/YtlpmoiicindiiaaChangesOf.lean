/- impl.ChangesOf -/
import Derived.Test.YtlpmoiicindiiaaChangesIn
import Derived.Test.YtlpmoiicindiiaaOwnI
namespace Go.Proofs.Ytlpmoiicindiiaa
open Go.RowKit
set_option linter.unusedVariables false
open Go.Shelf
attribute [local go_sem] Oper.semAt_some
/-- The times of all changes. -/
def timesOf (f : Int) (zs : List Int) : List Int := (List.range zs.length).map (tAt f zs)
theorem timesOf_length (f : Int) (zs : List Int) : (timesOf f zs).length = zs.length := by simp [timesOf]
theorem timesOf_at (f : Int) (zs : List Int) (k : Nat) (h : k < zs.length) : (timesOf f zs)[k]? = some (tAt f zs k) := by simp [timesOf, h]
/-- The cells when the rounds of pre are over. -/
def rowOf (f : Int) (zs : List Int) (pre : List (Fin zs.length)) : Array Value := pre.foldl (fun C x => C.setIfInBounds x.val (.int .i64 (tAt f zs x.val))) (cpRow (timesOf f zs) 0)
theorem rowOf_snoc (f : Int) (zs : List Int) (pre : List (Fin zs.length)) (x : Fin zs.length) : rowOf f zs (pre ++ [x]) = (rowOf f zs pre).setIfInBounds x.val (.int .i64 (tAt f zs x.val)) := by simp [rowOf]
theorem rowOf_size (f : Int) (zs : List Int) (pre : List (Fin zs.length)) : (rowOf f zs pre).size = zs.length := by
  have h : ∀ (l : List (Fin zs.length)) (C : Array Value), (l.foldl (fun C x => C.setIfInBounds x.val (Value.int .i64 (tAt f zs x.val))) C).size = C.size := by
    intro l
    induction l with
    | nil => intro C; rfl
    | cons x l ih => intro C; rw [List.foldl_cons, ih]; simp
  unfold rowOf
  rw [h]
  simp [cpRow, timesOf_length]
theorem rowOf_rnds (f : Int) (zs : List Int) (k : Nat) (hk : k ≤ zs.length) : rowOf f zs (rnds zs.length k) = cpRow (timesOf f zs) k := by
  induction k with
  | zero => rfl
  | succ k ih =>
    rw [rnds_succ (by omega), rowOf_snoc, ih (by omega), cpRow_succ _ _ _ (timesOf_at f zs k (by omega))]
def cellsAt (W : World) (g : Nat) (C : Array Value) (T : TypeId) : Prop := W.heap[g]? = some (.cells C T (0, 0))
theorem cellsAt_own {β : Type} (C : β → Array Value) (g : Nat) (T : TypeId) : Own (fun s W => cellsAt W g (C s) T) := fun s W W' row hs hg hr => (grownBy_keeps_cells hg hr hs rfl).trans hs
set_option maxRecDepth 100000 in
set_option maxHeartbeats 2000000 in
theorem changesOf_in (F : Fence) (n : Nat) (h39 : F.fn 15) (h28 : F.fn 14) (h64 : F.fn 16) (h67 : F.fn 21) (hro : F.round = none) (hn : 3 ≤ n) (c f : Int) (a : Option Addr) (cap : Nat) (zs : List Int) (hv : fluxOk c f zs = true)
    (w : World) (h : SlA w a zs) (hval : ∀ W, Below w.heap.size w W → CallsIn F (n - 1) Try.prog 14 #[.agg #[.int .i64 c, .int .i64 f, .slice a zs.length cap]] W fun e w' => e = .returned (.bool true) ∧ Below W.heap.size W w') :
    CallsIn F n Try.prog 15 #[.agg #[.int .i64 c, .int .i64 f, .slice a zs.length cap]] w fun e w' => ∃ g, e = .returned (.slice (some ⟨g, 0, none⟩) zs.length zs.length) ∧ RowAt w' g (timesOf f zs) ∧ w.heap.size ≤ g ∧ Below w.heap.size w w' := by
  obtain ⟨_, ⟨hn1, hn4⟩, hz, hsum, hf0, hf1⟩ := fluxOk_iff.1 hv
  have h1 : 1 ≤ n := by omega
  have hmk := fun w => run_make_row' (P := Try.prog) 22 2 (.int .i64 0) 8 Try.underlying22 i64info rfl .i64 .i64 zs.length (by omega) (by omega) w
  obtain ⟨b, off, rfl, hblt, hints⟩ : ∃ b off, a = some ⟨b, off, none⟩ ∧ b < w.heap.size ∧ Ints w b off zs := by
    rcases h with rfl | h
    · simp at hn1
    · exact h
  have HV := Lib.hid hval; clear hval
  have HZ := Lib.hid (And.intro hz (And.intro hv h)); clear hz hv h
  refine callsIn_of_wp_marks Try.func15 rfl h39 ?_ hro
  simp only [Try.ntmps15, List.size_toArray, List.length_cons, List.length_nil, Nat.reduceAdd, Nat.reduceSub, Array.replicate_succ, Array.replicate_zero, List.push_toArray, List.append_toArray, List.nil_append, List.cons_append]
  gi_wp2_with (first
    | (gi_at_call 14; refine (HV.out _ (by go_grown)).mono ?_; rintro e w1 ⟨rfl, hb1⟩; have F1 := (FluxAt.new w c f (some ⟨b, off, none⟩) zs.length cap 28 w.heap.size rfl).below hb1 (by simp); have F2 := F1.below (Below.alloc (Below.alloc (Below.refl _ w1) (Nat.le_refl _) (.cells (madeCells #[.int .i64 0] zs.length) 2)) (by simp) (.cells #[.slice (some ⟨w1.heap.size, 0, none⟩) zs.length zs.length] 22)) F1.lt; have hl1 := F1.lt; obtain ⟨x0, x1, x2⟩ := F1; obtain ⟨q0, q1, q2⟩ := F2)
    | (gi_at_call 16; refine (changesIn_in F (n - 1) h64 hro _ _ _ _ _ _).mono ?_; rintro e w' ⟨rfl, rfl⟩))
  have hs1 : w.heap.size < w1.heap.size := by have := hb1.size; simp at this; omega
  have hb2 : Below w.heap.size w w1 := Below.trans (show Below w.heap.size w _ from (Below.refl _ _).alloc (Nat.le_refl _) _) (hb1.mono (by simp))
  have ez : madeCells #[Value.int .i64 0] zs.length = rowOf f zs [] := by
    have := cpRow_zero (timesOf f zs)
    rw [timesOf_length] at this
    rw [this]; rfl
  rw [ez]
  clear ez hmk x0 x1 x2 q0 q1 q2 hb1
  obtain ⟨W0, hW0⟩ : ∃ W0, ((w1.alloc (.cells (rowOf f zs []) 2)).alloc (.cells #[.slice (some ⟨w1.heap.size, 0, none⟩) zs.length zs.length] 22)).alloc (.cells #[.int .i64 c, .int .i64 f, .slice (some ⟨b, off, none⟩) zs.length cap] 28) = W0 := ⟨_, rfl⟩
  have cB : FluxAt W0 (w1.heap.size + 2) c f (some ⟨b, off, none⟩) zs.length cap := by rw [← hW0]; exact FluxAt.new _ c f _ _ _ _ _ (by simp)
  have cR : cellsAt W0 w1.heap.size (rowOf f zs []) 2 := by
    rw [← hW0]; unfold cellsAt
    rw [Below.heap_alloc _ _ _ (by simp; omega), Below.heap_alloc _ _ _ (by simp)]; exact heap_alloc_new w1 _
  have cS : cellsAt W0 (w1.heap.size + 1) #[.slice (some ⟨w1.heap.size, 0, none⟩) zs.length zs.length] 22 := by
    rw [← hW0]; unfold cellsAt
    rw [Below.heap_alloc _ _ _ (by simp)]
    have e := heap_alloc_new (w1.alloc (.cells (rowOf f zs []) 2)) (.cells #[.slice (some ⟨w1.heap.size, 0, none⟩) zs.length zs.length] 22)
    rw [World.size_alloc] at e; exact e
  have hB0 : Below w.heap.size w W0 := by rw [← hW0]; exact ((hb2.alloc hb2.size _).alloc (by simp; omega) _).alloc (by simp; omega) _
  have hsz : W0.heap.size = w1.heap.size + 3 := by rw [← hW0]; simp
  rw [hW0]
  clear hW0
  have hIB : SlB w.heap.size W0 (some ⟨b, off, none⟩) zs := SlB.below (w := w) ⟨.inr ⟨b, off, rfl, hblt, hints⟩, fun x e => by cases e; exact hblt⟩ hB0
  refine wpIn_rangeFunc_ownG hro h1 (gf := 21) (lb := #[.pointer (some ⟨w1.heap.size + 2, 0, none⟩)]) rfl h67 (enters_of Try.func21 (by kernel_rfl) rfl)
    (changes_stops F (n - 1) h67 hro (by omega) (w1.heap.size + 2) w.heap.size c f (some ⟨b, off, none⟩) cap zs hn4 HZ.out.1 hf0 (by have := bd_of_all HZ.out.1 (k := zs.length - 1) (x := zs[zs.length - 1]?.getD 0) (by rw [List.getElem?_eq_getElem (by omega)]; rfl); omega) W0 (by omega) hB0.size cB hIB) belowK_t (belowK_b (by omega)) (Below.refl _ _) (fun _ => rfl)
    (fun pre W => (cellsAt W w1.heap.size (rowOf f zs pre) 2 ∧ cellsAt W (w1.heap.size + 1) #[.slice (some ⟨w1.heap.size, 0, none⟩) zs.length zs.length] 22) ∧ Below w.heap.size w W)
    (fun _ _ _ => False)
    (OwnFrom.and (OwnFrom.and (Own.from (cellsAt_own _ _ _) _) (Own.from (cellsAt_own (fun _ => _) _ _) _)) (ownFrom_below (Nat.le_refl _) (by omega)))
    (fun _ _ _ _ _ hs _ _ => hs)
    ⟨⟨cR, cS⟩, hB0⟩
    (fun x => { tmps := #[.agg #[.int .i64 c, .int .i64 f, .slice (some ⟨b, off, none⟩) zs.length cap], .pointer (some ⟨w.heap.size, 0, none⟩), .slice none 0 0, .pointer (some ⟨w1.heap.size + 1, 0, none⟩), .int .i64 (x.val : Int), .int .i64 (tAt f zs x.val), .agg #[.int .i64 c, .int .i64 f, .slice (some ⟨b, off, none⟩) zs.length cap], .bool true, .bool false, .pointer (some ⟨w.heap.size, 2, none⟩), .slice (some ⟨b, off, none⟩) zs.length cap, .int .i64 zs.length, .slice (some ⟨w1.heap.size, 0, none⟩) zs.length zs.length, .agg #[.int .i64 c, .int .i64 f, .slice (some ⟨b, off, none⟩) zs.length cap], .func (.func 21) #[] #[.pointer (some ⟨w1.heap.size + 2, 0, none⟩)], .int .i64 (x.val : Int), .int .i64 (tAt f zs x.val), undef, undef, undef, undef, undef], defers := [] }) ?assign ?body ?done ?stop
  case assign =>
    intro l x W K hK
    gi_wp2
    exact hK
  case body =>
    rintro l pre x W ⟨⟨hR, hS⟩, hB⟩ _
    have hxl := x.isLt
    have hx1 : ((x.val : Nat) : Int) < (zs.length : Int) := by omega
    have hsz3 := rowOf_size f zs pre
    have hsome : (rowOf f zs pre)[x.val]?.isSome = true := by simp; omega
    obtain ⟨old, hold⟩ := Option.isSome_iff_exists.1 hsome
    have k0 : W.cell? ⟨w1.heap.size + 1, 0, none⟩ = some (.slice (some ⟨w1.heap.size, 0, none⟩) zs.length zs.length) := by
      unfold cellsAt at hS; simp [World.cell?, hS]
    have k1 : W.cell? ⟨w1.heap.size, x.val, none⟩ = some old := by
      unfold cellsAt at hR; simp only [World.cell?, hR]; simpa using hold
    have k2 : W.frozen? ⟨w1.heap.size, x.val, none⟩ = false := by
      unfold cellsAt at hR; simp [World.frozen?, hR]
    clear hold hsome
    have HR := Lib.hid hR; have HS := Lib.hid hS; clear hR hS
    gi_wp2
    refine ⟨(KeepsOthers.setCell _ _ _).from _, (Below.refl w.heap.size W).setCell (p := ⟨w1.heap.size, x.val, none⟩) (show w.heap.size ≤ w1.heap.size by omega) _, ⟨?_, ?_⟩, hB.setCell (p := ⟨w1.heap.size, x.val, none⟩) (show w.heap.size ≤ w1.heap.size by omega) _⟩
    · unfold cellsAt
      rw [heap_set_row _ _ _ _ _ _ HR.out, rowOf_snoc]
    · unfold cellsAt
      rw [Below.heap_setCell _ _ _ _ (by simp)]; exact HS.out
  case done =>
    rintro D ys W hD rfl ⟨⟨hR, hS⟩, hB⟩ hK
    have k0 : W.cell? ⟨w1.heap.size + 1, 0, none⟩ = some (.slice (some ⟨w1.heap.size, 0, none⟩) zs.length zs.length) := by
      unfold cellsAt at hS; simp [World.cell?, hS]
    gi_wp2
    refine ⟨by simp, .inl ⟨_, _, rfl, run_takeDeferred hK, ?_⟩⟩
    refine ⟨_, results_tmp rfl _ _ _, w1.heap.size, rfl, ?_, by omega, hB.trans (belowK_b (w := w) (Nat.le_refl _) W D _ _ (by omega) hK rfl rfl)⟩
    have h2 := (grownBy_keeps_cells (grownBy_putObj' W D (.deferred none)) (fun r e => by cases e; exact ⟨_, hK, rfl⟩) hR rfl).trans hR
    unfold RowAt
    rw [rowOf_rnds _ _ _ (Nat.le_refl _)] at h2
    have e := cpRow_all (timesOf f zs)
    rw [timesOf_length] at e
    rw [e] at h2
    exact h2
  case stop =>
    rintro D c pre W _ _ h _
    exact h.elim
theorem changesOf_yes (c f : Int) (a : Option Addr) (cap : Nat) (zs : List Int) (hl : zs.length ≤ 1048576) (hv : fluxOk c f zs = true) (w : World) (h : SlA w a zs) :
    Calls Try.prog 15 #[.agg #[.int .i64 c, .int .i64 f, .slice a zs.length cap]] w fun e w' => ∃ g, e = .returned (.slice (some ⟨g, 0, none⟩) zs.length zs.length) ∧ RowAt w' g (timesOf f zs) ∧ w.heap.size ≤ g ∧ Below w.heap.size w w' :=
  callsIn_wide.1 (changesOf_in Fence.wide 3 trivial trivial trivial trivial rfl (Nat.le_refl _) c f a cap zs hv w h
    (fun W hb => callsIn_wide.2 ((validFlux_any c f a zs cap W hl (h.below hb (Nat.le_refl _))).mono fun _ _ ⟨he, hw⟩ => ⟨by rw [he, hv], hw⟩)))
set_option maxRecDepth 100000 in
set_option maxHeartbeats 2000000 in
theorem changesOf_no_in (F : Fence) (n : Nat) (h39 : F.fn 15) (h28 : F.fn 14) (hro : F.round = none) (hn : 3 ≤ n) (c f : Int) (a : Option Addr) (cap len : Nat)
    (w : World) (hval : ∀ W, Below w.heap.size w W → CallsIn F (n - 1) Try.prog 14 #[.agg #[.int .i64 c, .int .i64 f, .slice a len cap]] W fun e w' => e = .returned (.bool false) ∧ Below W.heap.size W w') :
    CallsIn F n Try.prog 15 #[.agg #[.int .i64 c, .int .i64 f, .slice a len cap]] w fun e w' => e = .returned (.slice none 0 0) ∧ Below w.heap.size w w' := by
  have h1 : 1 ≤ n := by omega
  have HV := Lib.hid hval; clear hval
  refine callsIn_of_wp_marks Try.func15 rfl h39 ?_ hro
  simp only [Try.ntmps15, List.size_toArray, List.length_cons, List.length_nil, Nat.reduceAdd, Nat.reduceSub, Array.replicate_succ, Array.replicate_zero, List.push_toArray, List.append_toArray, List.nil_append, List.cons_append]
  gi_wp2_with (gi_at_call 14; refine (HV.out _ (by go_grown)).mono ?_; rintro e w1 ⟨rfl, hb1⟩)
  have hb2 : Below w.heap.size w w1 := Below.trans (show Below w.heap.size w _ from (Below.refl _ _).alloc (Nat.le_refl _) _) (hb1.mono (by simp))
  exact ⟨_, results_tmp rfl _ _ _, rfl, hb2⟩
theorem changesOf_no (c f : Int) (a : Option Addr) (cap : Nat) (zs : List Int) (hl : zs.length ≤ 1048576) (hv : fluxOk c f zs = false) (w : World) (h : SlA w a zs) :
    Calls Try.prog 15 #[.agg #[.int .i64 c, .int .i64 f, .slice a zs.length cap]] w fun e w' => e = .returned (.slice none 0 0) ∧ Below w.heap.size w w' :=
  callsIn_wide.1 (changesOf_no_in Fence.wide 3 trivial trivial rfl (Nat.le_refl _) c f a cap zs.length w
    (fun W hb => callsIn_wide.2 ((validFlux_any c f a zs cap W hl (h.below hb (Nat.le_refl _))).mono fun _ _ ⟨he, hw⟩ => ⟨by rw [he, hv], hw⟩)))
end Go.Proofs.Ytlpmoiicindiiaa
