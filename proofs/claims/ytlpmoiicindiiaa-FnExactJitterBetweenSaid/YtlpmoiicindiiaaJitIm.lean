/- impl.JitterBetween. Made by mk_jit.py. -/
import Derived.Test.YtlpmoiicindiiaaSpecChanges
import Derived.Test.YtlpmoiicindiiaaJitVal
import Derived.Test.YtlpmoiicindiiaaRoundFlat
namespace Go.Proofs.Ytlpmoiicindiiaa
open Go.RowKit
open Go.Shelf
set_option linter.unusedVariables false
set_option linter.unusedSimpArgs false
attribute [local go_sem] Oper.semAt_some
/-- The greatest difference among some places. -/
def jtP (f0 : Int) (xs0 : List Int) (ys : List Int) (pre : List (Fin xs0.length)) : Int := pre.foldl (fun m x => max m (max (tAt f0 xs0 x.val - ys[x.val]?.getD 0) (ys[x.val]?.getD 0 - tAt f0 xs0 x.val))) 0
theorem jtP_snoc (f0 : Int) (xs0 ys : List Int) (pre : List (Fin xs0.length)) (x : Fin xs0.length) : jtP f0 xs0 ys (pre ++ [x]) = max (jtP f0 xs0 ys pre) (max (tAt f0 xs0 x.val - ys[x.val]?.getD 0) (ys[x.val]?.getD 0 - tAt f0 xs0 x.val)) := by simp [jtP]
theorem jtP_rnds (f0 : Int) (xs0 ys : List Int) : ∀ k, k ≤ xs0.length → jtP f0 xs0 ys (rnds xs0.length k) = jtK (timesOf f0 xs0) ys k
  | 0, _ => by simp [jtP, rnds, jtK]
  | k + 1, h => by rw [rnds_succ (by omega), jtP_snoc, jtP_rnds f0 xs0 ys k (by omega), jtK, timesOf_at f0 xs0 k (by omega)]; rfl
theorem jtP_bd {f0 : Int} {xs0 ys : List Int} (hx : ∀ k, k < xs0.length → 0 ≤ tAt f0 xs0 k ∧ tAt f0 xs0 k ≤ 9000000000) (hy : ∀ (k : Nat) x, ys[k]? = some x → 0 ≤ x ∧ x ≤ 9000000000) : ∀ pre : List (Fin xs0.length), 0 ≤ jtP f0 xs0 ys pre ∧ jtP f0 xs0 ys pre ≤ 9000000000 := by
  intro pre
  have key : ∀ (l : List (Fin xs0.length)) (m : Int), 0 ≤ m ∧ m ≤ 9000000000 → 0 ≤ l.foldl (fun m x => max m (max (tAt f0 xs0 x.val - ys[x.val]?.getD 0) (ys[x.val]?.getD 0 - tAt f0 xs0 x.val))) m ∧ l.foldl (fun m x => max m (max (tAt f0 xs0 x.val - ys[x.val]?.getD 0) (ys[x.val]?.getD 0 - tAt f0 xs0 x.val))) m ≤ 9000000000 := by
    intro l
    induction l with
    | nil => intro m h; exact h
    | cons x l ih =>
      intro m h
      refine ih _ ?_
      have h1 := hx x.val x.isLt
      have h2 : 0 ≤ ys[x.val]?.getD 0 ∧ ys[x.val]?.getD 0 ≤ 9000000000 := by
        cases e : ys[x.val]? with
        | none => simp
        | some y => exact hy _ y e
      dsimp only
      omega
  exact key pre 0 (by omega)
set_option maxRecDepth 100000 in
set_option maxHeartbeats 16000000 in
theorem jit_in (c0 f0 : Int) (s0 : Option Addr) (cap0 : Nat) (xs0 : List Int) (c1 f1 : Int) (s1 : Option Addr) (cap1 : Nat) (xs1 : List Int) (hl0 : xs0.length ≤ 1048576) (hl1 : xs1.length ≤ 1048576) (hv0 : fluxOk c0 f0 xs0 = true) (hv1 : fluxOk c1 f1 xs1 = true) (hln : xs0.length = xs1.length) (w : World) (h0 : SlA w s0 xs0) (h1 : SlA w s1 xs1) :
    CallsIn Fence.wide 4 Try.prog 7 #[.agg #[.int .i64 c0, .int .i64 f0, .slice s0 xs0.length cap0], .agg #[.int .i64 c1, .int .i64 f1, .slice s1 xs1.length cap1]] w fun e w' => e = .returned (.tuple #[.int .i64 (jtK (timesOf f0 xs0) (timesOf f1 xs1) xs0.length), .bool true]) ∧ Below w.heap.size w w' := by
  have hz0 := (fluxOk_iff.1 hv0)
  obtain ⟨_, ⟨hn1, hn4⟩, hz, hsum, hf0, hf1⟩ := fluxOk_iff.1 hv0
  obtain ⟨b, off, rfl, hblt, hints⟩ : ∃ b off, s0 = some ⟨b, off, none⟩ ∧ b < w.heap.size ∧ Ints w b off xs0 := by
    rcases h0 with rfl | h
    · simp at hn1
    · exact h
  have VA := Lib.hid (fun W (hb : Below w.heap.size w W) => show CallsIn Fence.wide 3 Try.prog 14 #[.agg #[.int .i64 c0, .int .i64 f0, .slice (some ⟨b, off, none⟩) xs0.length cap0]] W fun e w' => e = .returned (.bool true) ∧ Below W.heap.size W w' from callsIn_wide.2 ((validFlux_any c0 f0 (some ⟨b, off, none⟩) xs0 cap0 W hl0 ((show SlA w (some ⟨b, off, none⟩) xs0 from .inr ⟨b, off, rfl, hblt, hints⟩).below hb (Nat.le_refl _))).mono fun e w' ⟨he, hw⟩ => (show e = Ending.returned (.bool true) ∧ Below W.heap.size W w' from ⟨by rw [he, hv0], hw⟩)))
  have VB := Lib.hid (fun W (hb : Below w.heap.size w W) => show CallsIn Fence.wide 3 Try.prog 14 #[.agg #[.int .i64 c1, .int .i64 f1, .slice s1 xs1.length cap1]] W fun e w' => e = .returned (.bool true) ∧ Below W.heap.size W w' from callsIn_wide.2 ((validFlux_any c1 f1 s1 xs1 cap1 W hl1 (h1.below hb (Nat.le_refl _))).mono fun e w' ⟨he, hw⟩ => (show e = Ending.returned (.bool true) ∧ Below W.heap.size W w' from ⟨by rw [he, hv1], hw⟩)))
  have CO := Lib.hid (fun W (hb : Below w.heap.size w W) => show CallsIn Fence.wide 3 Try.prog 15 #[.agg #[.int .i64 c1, .int .i64 f1, .slice s1 xs1.length cap1]] W fun e w' => ∃ g, e = .returned (.slice (some ⟨g, 0, none⟩) xs1.length xs1.length) ∧ RowAt w' g (timesOf f1 xs1) ∧ W.heap.size ≤ g ∧ Below W.heap.size W w' from callsIn_wide.2 (changesOf_yes c1 f1 s1 cap1 xs1 hl1 hv1 W (h1.below hb (Nat.le_refl _))))
  have HT0 := Lib.hid (times_bd hv0 (last_bd hv0))
  have HT1 := Lib.hid (times_bd hv1 (last_bd hv1))
  have hnl : ((xs0.length : Int) != (xs1.length : Int)) = false := by simp; omega
  have B0 := Lib.hid ((FluxAt.new w c0 f0 (some ⟨b, off, none⟩) xs0.length cap0 28 w.heap.size rfl).below (Below.alloc (Below.refl _ _) (Nat.le_refl _) (.cells #[.int .i64 c1, .int .i64 f1, .slice s1 xs1.length cap1] 28)) (by simp))
  have B1 := Lib.hid (FluxAt.new (w.alloc (.cells #[.int .i64 c0, .int .i64 f0, .slice (some ⟨b, off, none⟩) xs0.length cap0] 28)) c1 f1 s1 xs1.length cap1 28 (w.heap.size + 1) (by simp))
  have HZ := Lib.hid (And.intro hz (And.intro hln (timesOf_length f1 xs1)))
  clear hz h1 hln hz0
  refine callsIn_of_wp_marks Try.func7 rfl trivial ?_ rfl
  simp only [Try.ntmps7, List.size_toArray, List.length_cons, List.length_nil, Nat.reduceAdd, Nat.reduceSub, Array.replicate_succ, Array.replicate_zero, List.push_toArray, List.append_toArray, List.nil_append, List.cons_append]
  obtain ⟨p0, p1, p2⟩ := B0.out
  obtain ⟨r0, r1, r2⟩ := B1.out
  gi_wp2
  refine ⟨trivial, (VA.out _ (by go_grown)).mono ?_⟩
  rintro e w1 ⟨rfl, hb1⟩
  have FB1 := Lib.hid (show Below w.heap.size w w1 from Below.trans (by go_grown) (hb1.mono (by simp; omega)))
  replace B0 := Lib.hid (B0.out.below hb1 (by simp; omega))
  replace B1 := Lib.hid (B1.out.below hb1 (by simp))
  clear hb1 p0 p1 p2 r0 r1 r2 VA
  obtain ⟨p0, p1, p2⟩ := B0.out
  obtain ⟨r0, r1, r2⟩ := B1.out
  gi_wp2
  refine ⟨trivial, (VB.out _ FB1.out).mono ?_⟩
  rintro e w2 ⟨rfl, hb2⟩
  have FB2 := Lib.hid (FB1.out.trans (hb2.mono FB1.out.size))
  replace B0 := Lib.hid (B0.out.below hb2 B0.out.lt)
  replace B1 := Lib.hid (B1.out.below hb2 B1.out.lt)
  clear hb2 p0 p1 p2 r0 r1 r2 VB FB1
  obtain ⟨p0, p1, p2⟩ := B0.out
  obtain ⟨r0, r1, r2⟩ := B1.out
  gi_wp2
  refine ⟨trivial, (CO.out _ FB2.out).mono ?_⟩
  rintro e w3 ⟨g, rfl, hrow, hg, hb3⟩
  have FB3 := Lib.hid (FB2.out.trans (hb3.mono FB2.out.size))
  replace B0 := Lib.hid (B0.out.below hb3 B0.out.lt)
  have hz3 := FB3.out.size
  have hgl := hrow.lt
  have hg1 : w.heap.size ≤ g := Nat.le_trans FB2.out.size hg
  clear hb3 p0 p1 p2 r0 r1 r2 CO FB2 B1
  have FA := B0.out.below (((Below.refl w3.heap.size w3).alloc (Nat.le_refl _) (.cells #[.int .i64 0] 2)).alloc (by simp) (.cells #[.slice (some ⟨g, 0, none⟩) xs1.length xs1.length] 22)) B0.out.lt
  obtain ⟨p0, p1, p2⟩ := FA
  gi_wp2
  refine ⟨trivial, (changesIn_in Fence.wide 3 trivial rfl _ _ _ _ _ _).mono ?_⟩
  rintro e w' ⟨rfl, rfl⟩
  gi_wp2
  have hbA : Below w3.heap.size w3 (((w3.alloc (.cells #[.int .i64 0] 2)).alloc (.cells #[.slice (some ⟨g, 0, none⟩) xs1.length xs1.length] 22)).alloc (.cells #[.int .i64 c0, .int .i64 f0, .slice (some ⟨b, off, none⟩) xs0.length cap0] 28)) := (((Below.refl _ _).alloc (Nat.le_refl _) _).alloc (by simp) _).alloc (by simp <;> omega) _
  have cB : FluxAt (((w3.alloc (.cells #[.int .i64 0] 2)).alloc (.cells #[.slice (some ⟨g, 0, none⟩) xs1.length xs1.length] 22)).alloc (.cells #[.int .i64 c0, .int .i64 f0, .slice (some ⟨b, off, none⟩) xs0.length cap0] 28)) (w3.heap.size + 1 + 1) c0 f0 (some ⟨b, off, none⟩) xs0.length cap0 := FluxAt.new _ c0 f0 _ _ _ _ _ (by simp)
  have c6 : cellsAt (((w3.alloc (.cells #[.int .i64 0] 2)).alloc (.cells #[.slice (some ⟨g, 0, none⟩) xs1.length xs1.length] 22)).alloc (.cells #[.int .i64 c0, .int .i64 f0, .slice (some ⟨b, off, none⟩) xs0.length cap0] 28)) w3.heap.size #[.int .i64 0] 2 := by
    unfold cellsAt
    rw [Below.heap_alloc _ _ _ (by simp; omega), Below.heap_alloc _ _ _ (by simp)]; exact heap_alloc_new w3 _
  have c7 : cellsAt (((w3.alloc (.cells #[.int .i64 0] 2)).alloc (.cells #[.slice (some ⟨g, 0, none⟩) xs1.length xs1.length] 22)).alloc (.cells #[.int .i64 c0, .int .i64 f0, .slice (some ⟨b, off, none⟩) xs0.length cap0] 28)) (w3.heap.size + 1) #[.slice (some ⟨g, 0, none⟩) xs1.length xs1.length] 22 := by
    unfold cellsAt
    rw [Below.heap_alloc _ _ _ (by simp)]
    have e := heap_alloc_new (w3.alloc (.cells #[.int .i64 0] 2)) (.cells #[.slice (some ⟨g, 0, none⟩) xs1.length xs1.length] 22)
    rw [World.size_alloc] at e; exact e
  have hszW : (((w3.alloc (.cells #[.int .i64 0] 2)).alloc (.cells #[.slice (some ⟨g, 0, none⟩) xs1.length xs1.length] 22)).alloc (.cells #[.int .i64 c0, .int .i64 f0, .slice (some ⟨b, off, none⟩) xs0.length cap0] 28)).heap.size = w3.heap.size + 3 := by simp
  generalize ((w3.alloc (.cells #[.int .i64 0] 2)).alloc (.cells #[.slice (some ⟨g, 0, none⟩) xs1.length xs1.length] 22)).alloc (.cells #[.int .i64 c0, .int .i64 f0, .slice (some ⟨b, off, none⟩) xs0.length cap0] 28) = W0 at *
  have cG : cellsAt W0 g ((timesOf f1 xs1).map (Value.int .i64)).toArray 2 := by
    unfold cellsAt
    rw [hbA.block _ hgl]; exact hrow
  have hB0 : Below w.heap.size w W0 := FB3.out.trans (hbA.mono hz3)
  have hIB : SlB w.heap.size W0 (some ⟨b, off, none⟩) xs0 := SlB.below (w := w) ⟨.inr ⟨b, off, rfl, hblt, hints⟩, fun x e => by cases e; exact hblt⟩ hB0
  have hgne : g ≠ w3.heap.size := by omega
  have HYL := Lib.hid HZ.out.2.2
  have HTA := Lib.hid (fun k (hk : k < xs0.length) => HT0.out k _ (timesOf_at f0 xs0 k hk))
  generalize hYS : timesOf f1 xs1 = ys at *
  replace hYS := Lib.hid hYS
  clear hbA hrow B0 p0 p1 p2
  refine wpIn_rangeFunc_ownG rfl (by decide) (gf := 21) (lb := #[.pointer (some ⟨w3.heap.size + 1 + 1, 0, none⟩)]) rfl trivial (enters_of Try.func21 (by kernel_rfl) rfl)
    (changes_stops Fence.wide 3 trivial rfl (by omega) (w3.heap.size + 1 + 1) w.heap.size c0 f0 (some ⟨b, off, none⟩) cap0 xs0 hn4 HZ.out.1 hf0 (last_bd hv0) W0 (by omega) hB0.size cB hIB) belowK_t (belowK_b (by omega)) (Below.refl _ _) (fun _ => rfl)
    (fun pre W => (cellsAt W w3.heap.size #[.int .i64 (jtP f0 xs0 ys pre)] 2 ∧ cellsAt W (w3.heap.size + 1) #[.slice (some ⟨g, 0, none⟩) xs1.length xs1.length] 22 ∧ cellsAt W g (ys.map (Value.int .i64)).toArray 2) ∧ Below w.heap.size w W)
    (fun _ _ _ => False)
    (OwnFrom.and (OwnFrom.and (Own.from (cellsAt_own _ _ _) _) (OwnFrom.and (Own.from (cellsAt_own (fun _ => _) _ _) _) (Own.from (cellsAt_own (fun _ => _) _ _) _))) (ownFrom_below (Nat.le_refl _) (by omega)))
    (fun _ _ _ _ _ hs _ _ => hs)
    ⟨⟨c6, c7, cG⟩, hB0⟩
    (fun x => { tmps := #[.agg #[.int .i64 c0, .int .i64 f0, .slice (some ⟨b, off, none⟩) xs0.length cap0], .agg #[.int .i64 c1, .int .i64 f1, .slice s1 xs1.length cap1], .pointer (some ⟨w.heap.size, 0, none⟩), .pointer (some ⟨w.heap.size + 1, 0, none⟩), .int .i64 0, .bool false, .pointer (some ⟨w3.heap.size, 0, none⟩), .pointer (some ⟨w3.heap.size + 1, 0, none⟩), .int .i64 (x.val : Int), .int .i64 (tAt f0 xs0 x.val), .agg #[.int .i64 c0, .int .i64 f0, .slice (some ⟨b, off, none⟩) xs0.length cap0], .bool true, .bool false, .bool false, .agg #[.int .i64 c1, .int .i64 f1, .slice s1 xs1.length cap1], .bool true, .bool false, .bool false, .bool false, .pointer (some ⟨w.heap.size, 2, none⟩), .slice (some ⟨b, off, none⟩) xs0.length cap0, .int .i64 xs0.length, .pointer (some ⟨w.heap.size + 1, 2, none⟩), .slice s1 xs1.length cap1, .int .i64 xs1.length, .bool false, .bool false, .agg #[.int .i64 c1, .int .i64 f1, .slice s1 xs1.length cap1], .slice (some ⟨g, 0, none⟩) xs1.length xs1.length, .agg #[.int .i64 c0, .int .i64 f0, .slice (some ⟨b, off, none⟩) xs0.length cap0], .func (.func 21) #[] #[.pointer (some ⟨w3.heap.size + 1 + 1, 0, none⟩)], .int .i64 (x.val : Int), .int .i64 (tAt f0 xs0 x.val), undef, undef, undef, undef, undef, undef, undef, undef, undef, undef, undef, undef, undef, undef, undef], defers := [] }) ?assign ?body ?done ?stop
  case assign =>
    intro l x W K hK
    gi_wp2
    exact hK
  case body =>
    rintro l pre x W ⟨⟨h6, h7, hgc⟩, hB⟩ _
    have hxl := x.isLt
    have hx1 : ((x.val : Nat) : Int) < (xs1.length : Int) := by have := HZ.out.2.1; omega
    have hx2 : x.val < xs1.length := by have := HZ.out.2.1; omega
    obtain ⟨y, hy⟩ : ∃ y, ys[x.val]? = some y := getOf (by rw [HYL.out]; exact hx2)
    have k6 : W.cell? ⟨w3.heap.size, 0, none⟩ = some (.int .i64 (jtP f0 xs0 ys pre)) := by unfold cellsAt at h6; simp [World.cell?, h6]
    have k6f : W.frozen? ⟨w3.heap.size, 0, none⟩ = false := by unfold cellsAt at h6; simp [World.frozen?, h6]
    have k7 : W.cell? ⟨w3.heap.size + 1, 0, none⟩ = some (.slice (some ⟨g, 0, none⟩) xs1.length xs1.length) := by unfold cellsAt at h7; simp [World.cell?, h7]
    have ky : W.cell? ⟨g, x.val, none⟩ = some (.int .i64 y) := by unfold cellsAt at hgc; simp [World.cell?, hgc, hy]
    have hjb := jtP_bd HTA.out HT1.out pre
    have htb := HTA.out x.val hxl
    have hyb := HT1.out x.val y hy
    have HSN := Lib.hid (show jtP f0 xs0 ys (pre ++ [x]) = max (jtP f0 xs0 ys pre) (max (tAt f0 xs0 x.val - y) (y - tAt f0 xs0 x.val)) by rw [jtP_snoc, hy]; rfl)
    have HST := Lib.hid (And.intro h6 (And.intro h7 (And.intro hgc hB)))
    generalize jtP f0 xs0 ys pre = m at *
    generalize tAt f0 xs0 x.val = t at *
    have hw1 : IntKind.i64.wrap (t - y) = t - y := IntWalk.i64_in _ (by omega)
    have hw2 : IntKind.i64.wrap (y - t) = y - t := IntWalk.i64_in _ (by omega)
    have FA := Lib.hid (fun v : Int => show (W.setCell ⟨w3.heap.size, 0, none⟩ (.int .i64 v)).heap[w3.heap.size]? = some (.cells #[.int .i64 v] 2 (0, 0)) from heap_set_row _ _ _ _ _ _ h6)
    have FB := Lib.hid (fun v : Int => show cellsAt (W.setCell ⟨w3.heap.size, 0, none⟩ (.int .i64 v)) (w3.heap.size + 1) #[.slice (some ⟨g, 0, none⟩) xs1.length xs1.length] 22 from by unfold cellsAt; rw [Below.heap_setCell _ _ _ _ (by simp)]; exact h7)
    have FC := Lib.hid (fun v : Int => show cellsAt (W.setCell ⟨w3.heap.size, 0, none⟩ (.int .i64 v)) g (ys.map (Value.int .i64)).toArray 2 from by unfold cellsAt; rw [Below.heap_setCell _ _ _ _ (by exact hgne)]; exact hgc)
    clear h6 h7 hgc hB hy
    gi_wp2
    refine wpIn_region_any (by kernel_rfl) ?_
    try (change wpAnyIn _ _ _ _ _ _ _ _ _ (World.drew _))
    refine (wpAnyIn_flat (by kernel_rfl) _ _ _ _).2 ?_
    refine wpAnyIn_take (i := 1) (oi := { dst := some 34, op := Op.move (Operand.tmp 9), type := 2, pos := "l04_noise.go:195", after := #[], guard := none }) (v := ?_) rfl rfl (by kernel_rfl) (by kernel_rfl) (by kernel_rfl) (fun _ _ _ h => h) ⟨Or.inl ⟨by rfl, ?hy⟩, fun _ => rfl⟩ ?_
    case hy => (intro w'; go_simp; try with_reducible rfl)
    simp only [Act.put, List.setIfInBounds_toArray, List.set_cons_zero, List.set_cons_succ]
    refine wpAnyIn_take (i := 3) (oi := { dst := some 36, op := Op.move (Operand.tmp 8), type := 3, pos := "l04_noise.go:195", after := #[], guard := none }) (v := ?_) rfl rfl (by kernel_rfl) (by kernel_rfl) (by kernel_rfl) (fun _ _ _ h => h) ⟨Or.inl ⟨by rfl, ?hy⟩, fun _ => rfl⟩ ?_
    case hy => (intro w'; go_simp; try with_reducible rfl)
    simp only [Act.put, List.setIfInBounds_toArray, List.set_cons_zero, List.set_cons_succ]
    refine wpAnyIn_take (i := 8) (oi := { dst := some 41, op := Op.move (Operand.tmp 8), type := 3, pos := "l04_noise.go:195", after := #[], guard := none }) (v := ?_) rfl rfl (by kernel_rfl) (by kernel_rfl) (by kernel_rfl) (fun _ _ _ h => h) ⟨Or.inl ⟨by rfl, ?hy⟩, fun _ => rfl⟩ ?_
    case hy => (intro w'; go_simp; try with_reducible rfl)
    simp only [Act.put, List.setIfInBounds_toArray, List.set_cons_zero, List.set_cons_succ]
    refine wpAnyIn_take (i := 11) (oi := { dst := some 44, op := Op.move (Operand.tmp 9), type := 2, pos := "l04_noise.go:195", after := #[], guard := none }) (v := ?_) rfl rfl (by kernel_rfl) (by kernel_rfl) (by kernel_rfl) (fun _ _ _ h => h) ⟨Or.inl ⟨by rfl, ?hy⟩, fun _ => rfl⟩ ?_
    case hy => (intro w'; go_simp; try with_reducible rfl)
    simp only [Act.put, List.setIfInBounds_toArray, List.set_cons_zero, List.set_cons_succ]
    refine wpAnyIn_ready (rs := [0, 2, 7]) (by kernel_rfl) (by simp) ?_
    refine AllReadyIn.cons (o := { dst := some 33, op := Op.load 2 (Operand.tmp 6), type := 2, pos := "l04_noise.go:195", after := #[], guard := none }) rfl (fun K hK => ?_) (AllReadyIn.cons (o := { dst := some 35, op := Op.load 22 (Operand.tmp 7), type := 22, pos := "l04_noise.go:195", after := #[], guard := none }) rfl (fun K hK => ?_) (AllReadyIn.cons (o := { dst := some 40, op := Op.load 22 (Operand.tmp 7), type := 22, pos := "l04_noise.go:195", after := #[], guard := none }) rfl (fun K hK => ?_) AllReadyIn.nil))
    · go_simp
      refine hK _ _ ?_
      clear hK K
      try simp only [Act.put, List.setIfInBounds_toArray, List.set_cons_zero, List.set_cons_succ]
      refine wpAnyIn_ready (rs := [2, 7]) (by kernel_rfl) (by simp) ?_
      refine AllReadyIn.cons (o := { dst := some 35, op := Op.load 22 (Operand.tmp 7), type := 22, pos := "l04_noise.go:195", after := #[], guard := none }) rfl (fun K hK => ?_) (AllReadyIn.cons (o := { dst := some 40, op := Op.load 22 (Operand.tmp 7), type := 22, pos := "l04_noise.go:195", after := #[], guard := none }) rfl (fun K hK => ?_) AllReadyIn.nil)
      · go_simp
        refine hK _ _ ?_
        clear hK K
        try simp only [Act.put, List.setIfInBounds_toArray, List.set_cons_zero, List.set_cons_succ]
        refine wpAnyIn_take (i := 4) (oi := { dst := some 37, op := Op.indexAddr 22 (Operand.tmp 35) (Operand.tmp 36), type := 0, pos := "l04_noise.go:195", after := #[{ on := 2, ground := Ground.data }, { on := 3, ground := Ground.data }], guard := none }) (v := ?_) rfl rfl (by kernel_rfl) (by kernel_rfl) (by kernel_rfl) (fun _ _ _ h => h) ⟨Or.inl ⟨by rfl, ?hy⟩, fun _ => rfl⟩ ?_
        case hy => (intro w'; go_simp; try with_reducible rfl)
        simp only [Act.put, List.setIfInBounds_toArray, List.set_cons_zero, List.set_cons_succ]
        refine wpAnyIn_ready (rs := [5, 7]) (by kernel_rfl) (by simp) ?_
        refine AllReadyIn.cons (o := { dst := some 38, op := Op.load 2 (Operand.tmp 37), type := 2, pos := "l04_noise.go:195", after := #[{ on := 4, ground := Ground.data }], guard := none }) rfl (fun K hK => ?_) (AllReadyIn.cons (o := { dst := some 40, op := Op.load 22 (Operand.tmp 7), type := 22, pos := "l04_noise.go:195", after := #[], guard := none }) rfl (fun K hK => ?_) AllReadyIn.nil)
        · go_simp
          refine hK _ _ ?_
          clear hK K
          try simp only [Act.put, List.setIfInBounds_toArray, List.set_cons_zero, List.set_cons_succ]
          refine wpAnyIn_take (i := 6) (oi := { dst := some 39, op := Op.binOp BinOp.sub 2 (Operand.tmp 34) (Operand.tmp 38) 2, type := 2, pos := "l04_noise.go:195", after := #[{ on := 1, ground := Ground.data }, { on := 5, ground := Ground.data }], guard := none }) (v := ?_) rfl rfl (by kernel_rfl) (by kernel_rfl) (by kernel_rfl) (fun _ _ _ h => h) ⟨Or.inl ⟨by rfl, ?hy⟩, fun _ => rfl⟩ ?_
          case hy => (intro w'; go_simp; try with_reducible rfl)
          simp only [Act.put, List.setIfInBounds_toArray, List.set_cons_zero, List.set_cons_succ]
          refine wpAnyIn_ready (rs := [7]) (by kernel_rfl) (by simp) ?_
          refine AllReadyIn.cons (o := { dst := some 40, op := Op.load 22 (Operand.tmp 7), type := 22, pos := "l04_noise.go:195", after := #[], guard := none }) rfl (fun K hK => ?_) AllReadyIn.nil
          go_simp
          refine hK _ _ ?_
          clear hK K
          try simp only [Act.put, List.setIfInBounds_toArray, List.set_cons_zero, List.set_cons_succ]
          refine wpAnyIn_take (i := 9) (oi := { dst := some 42, op := Op.indexAddr 22 (Operand.tmp 40) (Operand.tmp 41), type := 0, pos := "l04_noise.go:195", after := #[{ on := 7, ground := Ground.data }, { on := 8, ground := Ground.data }], guard := none }) (v := ?_) rfl rfl (by kernel_rfl) (by kernel_rfl) (by kernel_rfl) (fun _ _ _ h => h) ⟨Or.inl ⟨by rfl, ?hy⟩, fun _ => rfl⟩ ?_
          case hy => (intro w'; go_simp; try with_reducible rfl)
          simp only [Act.put, List.setIfInBounds_toArray, List.set_cons_zero, List.set_cons_succ]
          refine wpAnyIn_ready (rs := [10]) (by kernel_rfl) (by simp) ?_
          refine AllReadyIn.cons (o := { dst := some 43, op := Op.load 2 (Operand.tmp 42), type := 2, pos := "l04_noise.go:195", after := #[{ on := 9, ground := Ground.data }], guard := none }) rfl (fun K hK => ?_) AllReadyIn.nil
          go_simp
          refine hK _ _ ?_
          clear hK K
          try simp only [Act.put, List.setIfInBounds_toArray, List.set_cons_zero, List.set_cons_succ]
          refine wpAnyIn_take (i := 12) (oi := { dst := some 45, op := Op.binOp BinOp.sub 2 (Operand.tmp 43) (Operand.tmp 44) 2, type := 2, pos := "l04_noise.go:195", after := #[{ on := 10, ground := Ground.data }, { on := 11, ground := Ground.data }], guard := none }) (v := ?_) rfl rfl (by kernel_rfl) (by kernel_rfl) (by kernel_rfl) (fun _ _ _ h => h) ⟨Or.inl ⟨by rfl, ?hy⟩, fun _ => rfl⟩ ?_
          case hy => (intro w'; go_simp; try with_reducible rfl)
          simp only [Act.put, List.setIfInBounds_toArray, List.set_cons_zero, List.set_cons_succ]
          refine wpAnyIn_ready (rs := [13]) (by kernel_rfl) (by simp) ?_
          refine AllReadyIn.cons (o := { dst := some 46, op := Op.call { callee := Callee.builtin Builtin.max, args := #[Operand.tmp 33, Operand.tmp 39, Operand.tmp 45], argTypes := #[2, 2, 2] }, type := 2, pos := "l04_noise.go:195", after := #[{ on := 0, ground := Ground.data }, { on := 6, ground := Ground.data }, { on := 12, ground := Ground.data }], guard := none }) rfl (fun K hK => ?_) AllReadyIn.nil
          go_simp
          refine hK _ _ ?_
          clear hK K
          try simp only [Act.put, List.setIfInBounds_toArray, List.set_cons_zero, List.set_cons_succ]
          refine wpAnyIn_ready (rs := [14]) (by kernel_rfl) (by simp) ?_
          refine AllReadyIn.cons (o := { dst := none, op := Op.store 2 (Operand.tmp 6) (Operand.tmp 46), type := 0, pos := "l04_noise.go:195", after := #[{ on := 13, ground := Ground.data }, { on := 0, ground := Ground.phase }, { on := 1, ground := Ground.phase }, { on := 2, ground := Ground.phase }, { on := 3, ground := Ground.phase }, { on := 4, ground := Ground.phase }, { on := 5, ground := Ground.phase }, { on := 6, ground := Ground.phase }, { on := 7, ground := Ground.phase }, { on := 8, ground := Ground.phase }, { on := 9, ground := Ground.phase }, { on := 10, ground := Ground.phase }, { on := 11, ground := Ground.phase }, { on := 12, ground := Ground.phase }, { on := 13, ground := Ground.phase }], guard := none }) rfl (fun K hK => ?_) AllReadyIn.nil
          go_simp
          refine hK _ _ ?_
          clear hK K
          try simp only [Act.put, List.setIfInBounds_toArray, List.set_cons_zero, List.set_cons_succ]
          refine wpAnyIn_done (by kernel_rfl) ?_ _
          gi_wp2
          all_goals
            refine ⟨((KeepsOthers.setCell _ _ _).trans (KeepsOthers.drew _)).from _, ((Below.refl w.heap.size W).setCell (p := ⟨w3.heap.size, 0, none⟩) (show w.heap.size ≤ w3.heap.size by omega) _).drew, ⟨?_, ?_, ?_⟩, (HST.out.2.2.2.setCell (p := ⟨w3.heap.size, 0, none⟩) (show w.heap.size ≤ w3.heap.size by omega) _).drew⟩
            · rw [HSN.out]; refine Eq.trans (FA.out _) ?_; congr 3; refine congrArg (fun v => [Value.int .i64 v]) ?_; omega
            · exact FB.out _
            · exact FC.out _
        · go_simp
          refine hK _ _ ?_
          clear hK K
          try simp only [Act.put, List.setIfInBounds_toArray, List.set_cons_zero, List.set_cons_succ]
          refine wpAnyIn_take (i := 9) (oi := { dst := some 42, op := Op.indexAddr 22 (Operand.tmp 40) (Operand.tmp 41), type := 0, pos := "l04_noise.go:195", after := #[{ on := 7, ground := Ground.data }, { on := 8, ground := Ground.data }], guard := none }) (v := ?_) rfl rfl (by kernel_rfl) (by kernel_rfl) (by kernel_rfl) (fun _ _ _ h => h) ⟨Or.inl ⟨by rfl, ?hy⟩, fun _ => rfl⟩ ?_
          case hy => (intro w'; go_simp; try with_reducible rfl)
          simp only [Act.put, List.setIfInBounds_toArray, List.set_cons_zero, List.set_cons_succ]
          refine wpAnyIn_ready (rs := [5, 10]) (by kernel_rfl) (by simp) ?_
          refine AllReadyIn.cons (o := { dst := some 38, op := Op.load 2 (Operand.tmp 37), type := 2, pos := "l04_noise.go:195", after := #[{ on := 4, ground := Ground.data }], guard := none }) rfl (fun K hK => ?_) (AllReadyIn.cons (o := { dst := some 43, op := Op.load 2 (Operand.tmp 42), type := 2, pos := "l04_noise.go:195", after := #[{ on := 9, ground := Ground.data }], guard := none }) rfl (fun K hK => ?_) AllReadyIn.nil)
          · go_simp
            refine hK _ _ ?_
            clear hK K
            try simp only [Act.put, List.setIfInBounds_toArray, List.set_cons_zero, List.set_cons_succ]
            refine wpAnyIn_take (i := 6) (oi := { dst := some 39, op := Op.binOp BinOp.sub 2 (Operand.tmp 34) (Operand.tmp 38) 2, type := 2, pos := "l04_noise.go:195", after := #[{ on := 1, ground := Ground.data }, { on := 5, ground := Ground.data }], guard := none }) (v := ?_) rfl rfl (by kernel_rfl) (by kernel_rfl) (by kernel_rfl) (fun _ _ _ h => h) ⟨Or.inl ⟨by rfl, ?hy⟩, fun _ => rfl⟩ ?_
            case hy => (intro w'; go_simp; try with_reducible rfl)
            simp only [Act.put, List.setIfInBounds_toArray, List.set_cons_zero, List.set_cons_succ]
            refine wpAnyIn_ready (rs := [10]) (by kernel_rfl) (by simp) ?_
            refine AllReadyIn.cons (o := { dst := some 43, op := Op.load 2 (Operand.tmp 42), type := 2, pos := "l04_noise.go:195", after := #[{ on := 9, ground := Ground.data }], guard := none }) rfl (fun K hK => ?_) AllReadyIn.nil
            go_simp
            refine hK _ _ ?_
            clear hK K
            try simp only [Act.put, List.setIfInBounds_toArray, List.set_cons_zero, List.set_cons_succ]
            refine wpAnyIn_take (i := 12) (oi := { dst := some 45, op := Op.binOp BinOp.sub 2 (Operand.tmp 43) (Operand.tmp 44) 2, type := 2, pos := "l04_noise.go:195", after := #[{ on := 10, ground := Ground.data }, { on := 11, ground := Ground.data }], guard := none }) (v := ?_) rfl rfl (by kernel_rfl) (by kernel_rfl) (by kernel_rfl) (fun _ _ _ h => h) ⟨Or.inl ⟨by rfl, ?hy⟩, fun _ => rfl⟩ ?_
            case hy => (intro w'; go_simp; try with_reducible rfl)
            simp only [Act.put, List.setIfInBounds_toArray, List.set_cons_zero, List.set_cons_succ]
            refine wpAnyIn_ready (rs := [13]) (by kernel_rfl) (by simp) ?_
            refine AllReadyIn.cons (o := { dst := some 46, op := Op.call { callee := Callee.builtin Builtin.max, args := #[Operand.tmp 33, Operand.tmp 39, Operand.tmp 45], argTypes := #[2, 2, 2] }, type := 2, pos := "l04_noise.go:195", after := #[{ on := 0, ground := Ground.data }, { on := 6, ground := Ground.data }, { on := 12, ground := Ground.data }], guard := none }) rfl (fun K hK => ?_) AllReadyIn.nil
            go_simp
            refine hK _ _ ?_
            clear hK K
            try simp only [Act.put, List.setIfInBounds_toArray, List.set_cons_zero, List.set_cons_succ]
            refine wpAnyIn_ready (rs := [14]) (by kernel_rfl) (by simp) ?_
            refine AllReadyIn.cons (o := { dst := none, op := Op.store 2 (Operand.tmp 6) (Operand.tmp 46), type := 0, pos := "l04_noise.go:195", after := #[{ on := 13, ground := Ground.data }, { on := 0, ground := Ground.phase }, { on := 1, ground := Ground.phase }, { on := 2, ground := Ground.phase }, { on := 3, ground := Ground.phase }, { on := 4, ground := Ground.phase }, { on := 5, ground := Ground.phase }, { on := 6, ground := Ground.phase }, { on := 7, ground := Ground.phase }, { on := 8, ground := Ground.phase }, { on := 9, ground := Ground.phase }, { on := 10, ground := Ground.phase }, { on := 11, ground := Ground.phase }, { on := 12, ground := Ground.phase }, { on := 13, ground := Ground.phase }], guard := none }) rfl (fun K hK => ?_) AllReadyIn.nil
            go_simp
            refine hK _ _ ?_
            clear hK K
            try simp only [Act.put, List.setIfInBounds_toArray, List.set_cons_zero, List.set_cons_succ]
            refine wpAnyIn_done (by kernel_rfl) ?_ _
            gi_wp2
            all_goals
              refine ⟨((KeepsOthers.setCell _ _ _).trans (KeepsOthers.drew _)).from _, ((Below.refl w.heap.size W).setCell (p := ⟨w3.heap.size, 0, none⟩) (show w.heap.size ≤ w3.heap.size by omega) _).drew, ⟨?_, ?_, ?_⟩, (HST.out.2.2.2.setCell (p := ⟨w3.heap.size, 0, none⟩) (show w.heap.size ≤ w3.heap.size by omega) _).drew⟩
              · rw [HSN.out]; refine Eq.trans (FA.out _) ?_; congr 3; refine congrArg (fun v => [Value.int .i64 v]) ?_; omega
              · exact FB.out _
              · exact FC.out _
          · go_simp
            refine hK _ _ ?_
            clear hK K
            try simp only [Act.put, List.setIfInBounds_toArray, List.set_cons_zero, List.set_cons_succ]
            refine wpAnyIn_take (i := 12) (oi := { dst := some 45, op := Op.binOp BinOp.sub 2 (Operand.tmp 43) (Operand.tmp 44) 2, type := 2, pos := "l04_noise.go:195", after := #[{ on := 10, ground := Ground.data }, { on := 11, ground := Ground.data }], guard := none }) (v := ?_) rfl rfl (by kernel_rfl) (by kernel_rfl) (by kernel_rfl) (fun _ _ _ h => h) ⟨Or.inl ⟨by rfl, ?hy⟩, fun _ => rfl⟩ ?_
            case hy => (intro w'; go_simp; try with_reducible rfl)
            simp only [Act.put, List.setIfInBounds_toArray, List.set_cons_zero, List.set_cons_succ]
            refine wpAnyIn_ready (rs := [5]) (by kernel_rfl) (by simp) ?_
            refine AllReadyIn.cons (o := { dst := some 38, op := Op.load 2 (Operand.tmp 37), type := 2, pos := "l04_noise.go:195", after := #[{ on := 4, ground := Ground.data }], guard := none }) rfl (fun K hK => ?_) AllReadyIn.nil
            go_simp
            refine hK _ _ ?_
            clear hK K
            try simp only [Act.put, List.setIfInBounds_toArray, List.set_cons_zero, List.set_cons_succ]
            refine wpAnyIn_take (i := 6) (oi := { dst := some 39, op := Op.binOp BinOp.sub 2 (Operand.tmp 34) (Operand.tmp 38) 2, type := 2, pos := "l04_noise.go:195", after := #[{ on := 1, ground := Ground.data }, { on := 5, ground := Ground.data }], guard := none }) (v := ?_) rfl rfl (by kernel_rfl) (by kernel_rfl) (by kernel_rfl) (fun _ _ _ h => h) ⟨Or.inl ⟨by rfl, ?hy⟩, fun _ => rfl⟩ ?_
            case hy => (intro w'; go_simp; try with_reducible rfl)
            simp only [Act.put, List.setIfInBounds_toArray, List.set_cons_zero, List.set_cons_succ]
            refine wpAnyIn_ready (rs := [13]) (by kernel_rfl) (by simp) ?_
            refine AllReadyIn.cons (o := { dst := some 46, op := Op.call { callee := Callee.builtin Builtin.max, args := #[Operand.tmp 33, Operand.tmp 39, Operand.tmp 45], argTypes := #[2, 2, 2] }, type := 2, pos := "l04_noise.go:195", after := #[{ on := 0, ground := Ground.data }, { on := 6, ground := Ground.data }, { on := 12, ground := Ground.data }], guard := none }) rfl (fun K hK => ?_) AllReadyIn.nil
            go_simp
            refine hK _ _ ?_
            clear hK K
            try simp only [Act.put, List.setIfInBounds_toArray, List.set_cons_zero, List.set_cons_succ]
            refine wpAnyIn_ready (rs := [14]) (by kernel_rfl) (by simp) ?_
            refine AllReadyIn.cons (o := { dst := none, op := Op.store 2 (Operand.tmp 6) (Operand.tmp 46), type := 0, pos := "l04_noise.go:195", after := #[{ on := 13, ground := Ground.data }, { on := 0, ground := Ground.phase }, { on := 1, ground := Ground.phase }, { on := 2, ground := Ground.phase }, { on := 3, ground := Ground.phase }, { on := 4, ground := Ground.phase }, { on := 5, ground := Ground.phase }, { on := 6, ground := Ground.phase }, { on := 7, ground := Ground.phase }, { on := 8, ground := Ground.phase }, { on := 9, ground := Ground.phase }, { on := 10, ground := Ground.phase }, { on := 11, ground := Ground.phase }, { on := 12, ground := Ground.phase }, { on := 13, ground := Ground.phase }], guard := none }) rfl (fun K hK => ?_) AllReadyIn.nil
            go_simp
            refine hK _ _ ?_
            clear hK K
            try simp only [Act.put, List.setIfInBounds_toArray, List.set_cons_zero, List.set_cons_succ]
            refine wpAnyIn_done (by kernel_rfl) ?_ _
            gi_wp2
            all_goals
              refine ⟨((KeepsOthers.setCell _ _ _).trans (KeepsOthers.drew _)).from _, ((Below.refl w.heap.size W).setCell (p := ⟨w3.heap.size, 0, none⟩) (show w.heap.size ≤ w3.heap.size by omega) _).drew, ⟨?_, ?_, ?_⟩, (HST.out.2.2.2.setCell (p := ⟨w3.heap.size, 0, none⟩) (show w.heap.size ≤ w3.heap.size by omega) _).drew⟩
              · rw [HSN.out]; refine Eq.trans (FA.out _) ?_; congr 3; refine congrArg (fun v => [Value.int .i64 v]) ?_; omega
              · exact FB.out _
              · exact FC.out _
      · go_simp
        refine hK _ _ ?_
        clear hK K
        try simp only [Act.put, List.setIfInBounds_toArray, List.set_cons_zero, List.set_cons_succ]
        refine wpAnyIn_take (i := 9) (oi := { dst := some 42, op := Op.indexAddr 22 (Operand.tmp 40) (Operand.tmp 41), type := 0, pos := "l04_noise.go:195", after := #[{ on := 7, ground := Ground.data }, { on := 8, ground := Ground.data }], guard := none }) (v := ?_) rfl rfl (by kernel_rfl) (by kernel_rfl) (by kernel_rfl) (fun _ _ _ h => h) ⟨Or.inl ⟨by rfl, ?hy⟩, fun _ => rfl⟩ ?_
        case hy => (intro w'; go_simp; try with_reducible rfl)
        simp only [Act.put, List.setIfInBounds_toArray, List.set_cons_zero, List.set_cons_succ]
        refine wpAnyIn_ready (rs := [2, 10]) (by kernel_rfl) (by simp) ?_
        refine AllReadyIn.cons (o := { dst := some 35, op := Op.load 22 (Operand.tmp 7), type := 22, pos := "l04_noise.go:195", after := #[], guard := none }) rfl (fun K hK => ?_) (AllReadyIn.cons (o := { dst := some 43, op := Op.load 2 (Operand.tmp 42), type := 2, pos := "l04_noise.go:195", after := #[{ on := 9, ground := Ground.data }], guard := none }) rfl (fun K hK => ?_) AllReadyIn.nil)
        · go_simp
          refine hK _ _ ?_
          clear hK K
          try simp only [Act.put, List.setIfInBounds_toArray, List.set_cons_zero, List.set_cons_succ]
          refine wpAnyIn_take (i := 4) (oi := { dst := some 37, op := Op.indexAddr 22 (Operand.tmp 35) (Operand.tmp 36), type := 0, pos := "l04_noise.go:195", after := #[{ on := 2, ground := Ground.data }, { on := 3, ground := Ground.data }], guard := none }) (v := ?_) rfl rfl (by kernel_rfl) (by kernel_rfl) (by kernel_rfl) (fun _ _ _ h => h) ⟨Or.inl ⟨by rfl, ?hy⟩, fun _ => rfl⟩ ?_
          case hy => (intro w'; go_simp; try with_reducible rfl)
          simp only [Act.put, List.setIfInBounds_toArray, List.set_cons_zero, List.set_cons_succ]
          refine wpAnyIn_ready (rs := [5, 10]) (by kernel_rfl) (by simp) ?_
          refine AllReadyIn.cons (o := { dst := some 38, op := Op.load 2 (Operand.tmp 37), type := 2, pos := "l04_noise.go:195", after := #[{ on := 4, ground := Ground.data }], guard := none }) rfl (fun K hK => ?_) (AllReadyIn.cons (o := { dst := some 43, op := Op.load 2 (Operand.tmp 42), type := 2, pos := "l04_noise.go:195", after := #[{ on := 9, ground := Ground.data }], guard := none }) rfl (fun K hK => ?_) AllReadyIn.nil)
          · go_simp
            refine hK _ _ ?_
            clear hK K
            try simp only [Act.put, List.setIfInBounds_toArray, List.set_cons_zero, List.set_cons_succ]
            refine wpAnyIn_take (i := 6) (oi := { dst := some 39, op := Op.binOp BinOp.sub 2 (Operand.tmp 34) (Operand.tmp 38) 2, type := 2, pos := "l04_noise.go:195", after := #[{ on := 1, ground := Ground.data }, { on := 5, ground := Ground.data }], guard := none }) (v := ?_) rfl rfl (by kernel_rfl) (by kernel_rfl) (by kernel_rfl) (fun _ _ _ h => h) ⟨Or.inl ⟨by rfl, ?hy⟩, fun _ => rfl⟩ ?_
            case hy => (intro w'; go_simp; try with_reducible rfl)
            simp only [Act.put, List.setIfInBounds_toArray, List.set_cons_zero, List.set_cons_succ]
            refine wpAnyIn_ready (rs := [10]) (by kernel_rfl) (by simp) ?_
            refine AllReadyIn.cons (o := { dst := some 43, op := Op.load 2 (Operand.tmp 42), type := 2, pos := "l04_noise.go:195", after := #[{ on := 9, ground := Ground.data }], guard := none }) rfl (fun K hK => ?_) AllReadyIn.nil
            go_simp
            refine hK _ _ ?_
            clear hK K
            try simp only [Act.put, List.setIfInBounds_toArray, List.set_cons_zero, List.set_cons_succ]
            refine wpAnyIn_take (i := 12) (oi := { dst := some 45, op := Op.binOp BinOp.sub 2 (Operand.tmp 43) (Operand.tmp 44) 2, type := 2, pos := "l04_noise.go:195", after := #[{ on := 10, ground := Ground.data }, { on := 11, ground := Ground.data }], guard := none }) (v := ?_) rfl rfl (by kernel_rfl) (by kernel_rfl) (by kernel_rfl) (fun _ _ _ h => h) ⟨Or.inl ⟨by rfl, ?hy⟩, fun _ => rfl⟩ ?_
            case hy => (intro w'; go_simp; try with_reducible rfl)
            simp only [Act.put, List.setIfInBounds_toArray, List.set_cons_zero, List.set_cons_succ]
            refine wpAnyIn_ready (rs := [13]) (by kernel_rfl) (by simp) ?_
            refine AllReadyIn.cons (o := { dst := some 46, op := Op.call { callee := Callee.builtin Builtin.max, args := #[Operand.tmp 33, Operand.tmp 39, Operand.tmp 45], argTypes := #[2, 2, 2] }, type := 2, pos := "l04_noise.go:195", after := #[{ on := 0, ground := Ground.data }, { on := 6, ground := Ground.data }, { on := 12, ground := Ground.data }], guard := none }) rfl (fun K hK => ?_) AllReadyIn.nil
            go_simp
            refine hK _ _ ?_
            clear hK K
            try simp only [Act.put, List.setIfInBounds_toArray, List.set_cons_zero, List.set_cons_succ]
            refine wpAnyIn_ready (rs := [14]) (by kernel_rfl) (by simp) ?_
            refine AllReadyIn.cons (o := { dst := none, op := Op.store 2 (Operand.tmp 6) (Operand.tmp 46), type := 0, pos := "l04_noise.go:195", after := #[{ on := 13, ground := Ground.data }, { on := 0, ground := Ground.phase }, { on := 1, ground := Ground.phase }, { on := 2, ground := Ground.phase }, { on := 3, ground := Ground.phase }, { on := 4, ground := Ground.phase }, { on := 5, ground := Ground.phase }, { on := 6, ground := Ground.phase }, { on := 7, ground := Ground.phase }, { on := 8, ground := Ground.phase }, { on := 9, ground := Ground.phase }, { on := 10, ground := Ground.phase }, { on := 11, ground := Ground.phase }, { on := 12, ground := Ground.phase }, { on := 13, ground := Ground.phase }], guard := none }) rfl (fun K hK => ?_) AllReadyIn.nil
            go_simp
            refine hK _ _ ?_
            clear hK K
            try simp only [Act.put, List.setIfInBounds_toArray, List.set_cons_zero, List.set_cons_succ]
            refine wpAnyIn_done (by kernel_rfl) ?_ _
            gi_wp2
            all_goals
              refine ⟨((KeepsOthers.setCell _ _ _).trans (KeepsOthers.drew _)).from _, ((Below.refl w.heap.size W).setCell (p := ⟨w3.heap.size, 0, none⟩) (show w.heap.size ≤ w3.heap.size by omega) _).drew, ⟨?_, ?_, ?_⟩, (HST.out.2.2.2.setCell (p := ⟨w3.heap.size, 0, none⟩) (show w.heap.size ≤ w3.heap.size by omega) _).drew⟩
              · rw [HSN.out]; refine Eq.trans (FA.out _) ?_; congr 3; refine congrArg (fun v => [Value.int .i64 v]) ?_; omega
              · exact FB.out _
              · exact FC.out _
          · go_simp
            refine hK _ _ ?_
            clear hK K
            try simp only [Act.put, List.setIfInBounds_toArray, List.set_cons_zero, List.set_cons_succ]
            refine wpAnyIn_take (i := 12) (oi := { dst := some 45, op := Op.binOp BinOp.sub 2 (Operand.tmp 43) (Operand.tmp 44) 2, type := 2, pos := "l04_noise.go:195", after := #[{ on := 10, ground := Ground.data }, { on := 11, ground := Ground.data }], guard := none }) (v := ?_) rfl rfl (by kernel_rfl) (by kernel_rfl) (by kernel_rfl) (fun _ _ _ h => h) ⟨Or.inl ⟨by rfl, ?hy⟩, fun _ => rfl⟩ ?_
            case hy => (intro w'; go_simp; try with_reducible rfl)
            simp only [Act.put, List.setIfInBounds_toArray, List.set_cons_zero, List.set_cons_succ]
            refine wpAnyIn_ready (rs := [5]) (by kernel_rfl) (by simp) ?_
            refine AllReadyIn.cons (o := { dst := some 38, op := Op.load 2 (Operand.tmp 37), type := 2, pos := "l04_noise.go:195", after := #[{ on := 4, ground := Ground.data }], guard := none }) rfl (fun K hK => ?_) AllReadyIn.nil
            go_simp
            refine hK _ _ ?_
            clear hK K
            try simp only [Act.put, List.setIfInBounds_toArray, List.set_cons_zero, List.set_cons_succ]
            refine wpAnyIn_take (i := 6) (oi := { dst := some 39, op := Op.binOp BinOp.sub 2 (Operand.tmp 34) (Operand.tmp 38) 2, type := 2, pos := "l04_noise.go:195", after := #[{ on := 1, ground := Ground.data }, { on := 5, ground := Ground.data }], guard := none }) (v := ?_) rfl rfl (by kernel_rfl) (by kernel_rfl) (by kernel_rfl) (fun _ _ _ h => h) ⟨Or.inl ⟨by rfl, ?hy⟩, fun _ => rfl⟩ ?_
            case hy => (intro w'; go_simp; try with_reducible rfl)
            simp only [Act.put, List.setIfInBounds_toArray, List.set_cons_zero, List.set_cons_succ]
            refine wpAnyIn_ready (rs := [13]) (by kernel_rfl) (by simp) ?_
            refine AllReadyIn.cons (o := { dst := some 46, op := Op.call { callee := Callee.builtin Builtin.max, args := #[Operand.tmp 33, Operand.tmp 39, Operand.tmp 45], argTypes := #[2, 2, 2] }, type := 2, pos := "l04_noise.go:195", after := #[{ on := 0, ground := Ground.data }, { on := 6, ground := Ground.data }, { on := 12, ground := Ground.data }], guard := none }) rfl (fun K hK => ?_) AllReadyIn.nil
            go_simp
            refine hK _ _ ?_
            clear hK K
            try simp only [Act.put, List.setIfInBounds_toArray, List.set_cons_zero, List.set_cons_succ]
            refine wpAnyIn_ready (rs := [14]) (by kernel_rfl) (by simp) ?_
            refine AllReadyIn.cons (o := { dst := none, op := Op.store 2 (Operand.tmp 6) (Operand.tmp 46), type := 0, pos := "l04_noise.go:195", after := #[{ on := 13, ground := Ground.data }, { on := 0, ground := Ground.phase }, { on := 1, ground := Ground.phase }, { on := 2, ground := Ground.phase }, { on := 3, ground := Ground.phase }, { on := 4, ground := Ground.phase }, { on := 5, ground := Ground.phase }, { on := 6, ground := Ground.phase }, { on := 7, ground := Ground.phase }, { on := 8, ground := Ground.phase }, { on := 9, ground := Ground.phase }, { on := 10, ground := Ground.phase }, { on := 11, ground := Ground.phase }, { on := 12, ground := Ground.phase }, { on := 13, ground := Ground.phase }], guard := none }) rfl (fun K hK => ?_) AllReadyIn.nil
            go_simp
            refine hK _ _ ?_
            clear hK K
            try simp only [Act.put, List.setIfInBounds_toArray, List.set_cons_zero, List.set_cons_succ]
            refine wpAnyIn_done (by kernel_rfl) ?_ _
            gi_wp2
            all_goals
              refine ⟨((KeepsOthers.setCell _ _ _).trans (KeepsOthers.drew _)).from _, ((Below.refl w.heap.size W).setCell (p := ⟨w3.heap.size, 0, none⟩) (show w.heap.size ≤ w3.heap.size by omega) _).drew, ⟨?_, ?_, ?_⟩, (HST.out.2.2.2.setCell (p := ⟨w3.heap.size, 0, none⟩) (show w.heap.size ≤ w3.heap.size by omega) _).drew⟩
              · rw [HSN.out]; refine Eq.trans (FA.out _) ?_; congr 3; refine congrArg (fun v => [Value.int .i64 v]) ?_; omega
              · exact FB.out _
              · exact FC.out _
        · go_simp
          refine hK _ _ ?_
          clear hK K
          try simp only [Act.put, List.setIfInBounds_toArray, List.set_cons_zero, List.set_cons_succ]
          refine wpAnyIn_take (i := 12) (oi := { dst := some 45, op := Op.binOp BinOp.sub 2 (Operand.tmp 43) (Operand.tmp 44) 2, type := 2, pos := "l04_noise.go:195", after := #[{ on := 10, ground := Ground.data }, { on := 11, ground := Ground.data }], guard := none }) (v := ?_) rfl rfl (by kernel_rfl) (by kernel_rfl) (by kernel_rfl) (fun _ _ _ h => h) ⟨Or.inl ⟨by rfl, ?hy⟩, fun _ => rfl⟩ ?_
          case hy => (intro w'; go_simp; try with_reducible rfl)
          simp only [Act.put, List.setIfInBounds_toArray, List.set_cons_zero, List.set_cons_succ]
          refine wpAnyIn_ready (rs := [2]) (by kernel_rfl) (by simp) ?_
          refine AllReadyIn.cons (o := { dst := some 35, op := Op.load 22 (Operand.tmp 7), type := 22, pos := "l04_noise.go:195", after := #[], guard := none }) rfl (fun K hK => ?_) AllReadyIn.nil
          go_simp
          refine hK _ _ ?_
          clear hK K
          try simp only [Act.put, List.setIfInBounds_toArray, List.set_cons_zero, List.set_cons_succ]
          refine wpAnyIn_take (i := 4) (oi := { dst := some 37, op := Op.indexAddr 22 (Operand.tmp 35) (Operand.tmp 36), type := 0, pos := "l04_noise.go:195", after := #[{ on := 2, ground := Ground.data }, { on := 3, ground := Ground.data }], guard := none }) (v := ?_) rfl rfl (by kernel_rfl) (by kernel_rfl) (by kernel_rfl) (fun _ _ _ h => h) ⟨Or.inl ⟨by rfl, ?hy⟩, fun _ => rfl⟩ ?_
          case hy => (intro w'; go_simp; try with_reducible rfl)
          simp only [Act.put, List.setIfInBounds_toArray, List.set_cons_zero, List.set_cons_succ]
          refine wpAnyIn_ready (rs := [5]) (by kernel_rfl) (by simp) ?_
          refine AllReadyIn.cons (o := { dst := some 38, op := Op.load 2 (Operand.tmp 37), type := 2, pos := "l04_noise.go:195", after := #[{ on := 4, ground := Ground.data }], guard := none }) rfl (fun K hK => ?_) AllReadyIn.nil
          go_simp
          refine hK _ _ ?_
          clear hK K
          try simp only [Act.put, List.setIfInBounds_toArray, List.set_cons_zero, List.set_cons_succ]
          refine wpAnyIn_take (i := 6) (oi := { dst := some 39, op := Op.binOp BinOp.sub 2 (Operand.tmp 34) (Operand.tmp 38) 2, type := 2, pos := "l04_noise.go:195", after := #[{ on := 1, ground := Ground.data }, { on := 5, ground := Ground.data }], guard := none }) (v := ?_) rfl rfl (by kernel_rfl) (by kernel_rfl) (by kernel_rfl) (fun _ _ _ h => h) ⟨Or.inl ⟨by rfl, ?hy⟩, fun _ => rfl⟩ ?_
          case hy => (intro w'; go_simp; try with_reducible rfl)
          simp only [Act.put, List.setIfInBounds_toArray, List.set_cons_zero, List.set_cons_succ]
          refine wpAnyIn_ready (rs := [13]) (by kernel_rfl) (by simp) ?_
          refine AllReadyIn.cons (o := { dst := some 46, op := Op.call { callee := Callee.builtin Builtin.max, args := #[Operand.tmp 33, Operand.tmp 39, Operand.tmp 45], argTypes := #[2, 2, 2] }, type := 2, pos := "l04_noise.go:195", after := #[{ on := 0, ground := Ground.data }, { on := 6, ground := Ground.data }, { on := 12, ground := Ground.data }], guard := none }) rfl (fun K hK => ?_) AllReadyIn.nil
          go_simp
          refine hK _ _ ?_
          clear hK K
          try simp only [Act.put, List.setIfInBounds_toArray, List.set_cons_zero, List.set_cons_succ]
          refine wpAnyIn_ready (rs := [14]) (by kernel_rfl) (by simp) ?_
          refine AllReadyIn.cons (o := { dst := none, op := Op.store 2 (Operand.tmp 6) (Operand.tmp 46), type := 0, pos := "l04_noise.go:195", after := #[{ on := 13, ground := Ground.data }, { on := 0, ground := Ground.phase }, { on := 1, ground := Ground.phase }, { on := 2, ground := Ground.phase }, { on := 3, ground := Ground.phase }, { on := 4, ground := Ground.phase }, { on := 5, ground := Ground.phase }, { on := 6, ground := Ground.phase }, { on := 7, ground := Ground.phase }, { on := 8, ground := Ground.phase }, { on := 9, ground := Ground.phase }, { on := 10, ground := Ground.phase }, { on := 11, ground := Ground.phase }, { on := 12, ground := Ground.phase }, { on := 13, ground := Ground.phase }], guard := none }) rfl (fun K hK => ?_) AllReadyIn.nil
          go_simp
          refine hK _ _ ?_
          clear hK K
          try simp only [Act.put, List.setIfInBounds_toArray, List.set_cons_zero, List.set_cons_succ]
          refine wpAnyIn_done (by kernel_rfl) ?_ _
          gi_wp2
          all_goals
            refine ⟨((KeepsOthers.setCell _ _ _).trans (KeepsOthers.drew _)).from _, ((Below.refl w.heap.size W).setCell (p := ⟨w3.heap.size, 0, none⟩) (show w.heap.size ≤ w3.heap.size by omega) _).drew, ⟨?_, ?_, ?_⟩, (HST.out.2.2.2.setCell (p := ⟨w3.heap.size, 0, none⟩) (show w.heap.size ≤ w3.heap.size by omega) _).drew⟩
            · rw [HSN.out]; refine Eq.trans (FA.out _) ?_; congr 3; refine congrArg (fun v => [Value.int .i64 v]) ?_; omega
            · exact FB.out _
            · exact FC.out _
    · go_simp
      refine hK _ _ ?_
      clear hK K
      try simp only [Act.put, List.setIfInBounds_toArray, List.set_cons_zero, List.set_cons_succ]
      refine wpAnyIn_take (i := 4) (oi := { dst := some 37, op := Op.indexAddr 22 (Operand.tmp 35) (Operand.tmp 36), type := 0, pos := "l04_noise.go:195", after := #[{ on := 2, ground := Ground.data }, { on := 3, ground := Ground.data }], guard := none }) (v := ?_) rfl rfl (by kernel_rfl) (by kernel_rfl) (by kernel_rfl) (fun _ _ _ h => h) ⟨Or.inl ⟨by rfl, ?hy⟩, fun _ => rfl⟩ ?_
      case hy => (intro w'; go_simp; try with_reducible rfl)
      simp only [Act.put, List.setIfInBounds_toArray, List.set_cons_zero, List.set_cons_succ]
      refine wpAnyIn_ready (rs := [0, 5, 7]) (by kernel_rfl) (by simp) ?_
      refine AllReadyIn.cons (o := { dst := some 33, op := Op.load 2 (Operand.tmp 6), type := 2, pos := "l04_noise.go:195", after := #[], guard := none }) rfl (fun K hK => ?_) (AllReadyIn.cons (o := { dst := some 38, op := Op.load 2 (Operand.tmp 37), type := 2, pos := "l04_noise.go:195", after := #[{ on := 4, ground := Ground.data }], guard := none }) rfl (fun K hK => ?_) (AllReadyIn.cons (o := { dst := some 40, op := Op.load 22 (Operand.tmp 7), type := 22, pos := "l04_noise.go:195", after := #[], guard := none }) rfl (fun K hK => ?_) AllReadyIn.nil))
      · go_simp
        refine hK _ _ ?_
        clear hK K
        try simp only [Act.put, List.setIfInBounds_toArray, List.set_cons_zero, List.set_cons_succ]
        refine wpAnyIn_ready (rs := [5, 7]) (by kernel_rfl) (by simp) ?_
        refine AllReadyIn.cons (o := { dst := some 38, op := Op.load 2 (Operand.tmp 37), type := 2, pos := "l04_noise.go:195", after := #[{ on := 4, ground := Ground.data }], guard := none }) rfl (fun K hK => ?_) (AllReadyIn.cons (o := { dst := some 40, op := Op.load 22 (Operand.tmp 7), type := 22, pos := "l04_noise.go:195", after := #[], guard := none }) rfl (fun K hK => ?_) AllReadyIn.nil)
        · go_simp
          refine hK _ _ ?_
          clear hK K
          try simp only [Act.put, List.setIfInBounds_toArray, List.set_cons_zero, List.set_cons_succ]
          refine wpAnyIn_take (i := 6) (oi := { dst := some 39, op := Op.binOp BinOp.sub 2 (Operand.tmp 34) (Operand.tmp 38) 2, type := 2, pos := "l04_noise.go:195", after := #[{ on := 1, ground := Ground.data }, { on := 5, ground := Ground.data }], guard := none }) (v := ?_) rfl rfl (by kernel_rfl) (by kernel_rfl) (by kernel_rfl) (fun _ _ _ h => h) ⟨Or.inl ⟨by rfl, ?hy⟩, fun _ => rfl⟩ ?_
          case hy => (intro w'; go_simp; try with_reducible rfl)
          simp only [Act.put, List.setIfInBounds_toArray, List.set_cons_zero, List.set_cons_succ]
          refine wpAnyIn_ready (rs := [7]) (by kernel_rfl) (by simp) ?_
          refine AllReadyIn.cons (o := { dst := some 40, op := Op.load 22 (Operand.tmp 7), type := 22, pos := "l04_noise.go:195", after := #[], guard := none }) rfl (fun K hK => ?_) AllReadyIn.nil
          go_simp
          refine hK _ _ ?_
          clear hK K
          try simp only [Act.put, List.setIfInBounds_toArray, List.set_cons_zero, List.set_cons_succ]
          refine wpAnyIn_take (i := 9) (oi := { dst := some 42, op := Op.indexAddr 22 (Operand.tmp 40) (Operand.tmp 41), type := 0, pos := "l04_noise.go:195", after := #[{ on := 7, ground := Ground.data }, { on := 8, ground := Ground.data }], guard := none }) (v := ?_) rfl rfl (by kernel_rfl) (by kernel_rfl) (by kernel_rfl) (fun _ _ _ h => h) ⟨Or.inl ⟨by rfl, ?hy⟩, fun _ => rfl⟩ ?_
          case hy => (intro w'; go_simp; try with_reducible rfl)
          simp only [Act.put, List.setIfInBounds_toArray, List.set_cons_zero, List.set_cons_succ]
          refine wpAnyIn_ready (rs := [10]) (by kernel_rfl) (by simp) ?_
          refine AllReadyIn.cons (o := { dst := some 43, op := Op.load 2 (Operand.tmp 42), type := 2, pos := "l04_noise.go:195", after := #[{ on := 9, ground := Ground.data }], guard := none }) rfl (fun K hK => ?_) AllReadyIn.nil
          go_simp
          refine hK _ _ ?_
          clear hK K
          try simp only [Act.put, List.setIfInBounds_toArray, List.set_cons_zero, List.set_cons_succ]
          refine wpAnyIn_take (i := 12) (oi := { dst := some 45, op := Op.binOp BinOp.sub 2 (Operand.tmp 43) (Operand.tmp 44) 2, type := 2, pos := "l04_noise.go:195", after := #[{ on := 10, ground := Ground.data }, { on := 11, ground := Ground.data }], guard := none }) (v := ?_) rfl rfl (by kernel_rfl) (by kernel_rfl) (by kernel_rfl) (fun _ _ _ h => h) ⟨Or.inl ⟨by rfl, ?hy⟩, fun _ => rfl⟩ ?_
          case hy => (intro w'; go_simp; try with_reducible rfl)
          simp only [Act.put, List.setIfInBounds_toArray, List.set_cons_zero, List.set_cons_succ]
          refine wpAnyIn_ready (rs := [13]) (by kernel_rfl) (by simp) ?_
          refine AllReadyIn.cons (o := { dst := some 46, op := Op.call { callee := Callee.builtin Builtin.max, args := #[Operand.tmp 33, Operand.tmp 39, Operand.tmp 45], argTypes := #[2, 2, 2] }, type := 2, pos := "l04_noise.go:195", after := #[{ on := 0, ground := Ground.data }, { on := 6, ground := Ground.data }, { on := 12, ground := Ground.data }], guard := none }) rfl (fun K hK => ?_) AllReadyIn.nil
          go_simp
          refine hK _ _ ?_
          clear hK K
          try simp only [Act.put, List.setIfInBounds_toArray, List.set_cons_zero, List.set_cons_succ]
          refine wpAnyIn_ready (rs := [14]) (by kernel_rfl) (by simp) ?_
          refine AllReadyIn.cons (o := { dst := none, op := Op.store 2 (Operand.tmp 6) (Operand.tmp 46), type := 0, pos := "l04_noise.go:195", after := #[{ on := 13, ground := Ground.data }, { on := 0, ground := Ground.phase }, { on := 1, ground := Ground.phase }, { on := 2, ground := Ground.phase }, { on := 3, ground := Ground.phase }, { on := 4, ground := Ground.phase }, { on := 5, ground := Ground.phase }, { on := 6, ground := Ground.phase }, { on := 7, ground := Ground.phase }, { on := 8, ground := Ground.phase }, { on := 9, ground := Ground.phase }, { on := 10, ground := Ground.phase }, { on := 11, ground := Ground.phase }, { on := 12, ground := Ground.phase }, { on := 13, ground := Ground.phase }], guard := none }) rfl (fun K hK => ?_) AllReadyIn.nil
          go_simp
          refine hK _ _ ?_
          clear hK K
          try simp only [Act.put, List.setIfInBounds_toArray, List.set_cons_zero, List.set_cons_succ]
          refine wpAnyIn_done (by kernel_rfl) ?_ _
          gi_wp2
          all_goals
            refine ⟨((KeepsOthers.setCell _ _ _).trans (KeepsOthers.drew _)).from _, ((Below.refl w.heap.size W).setCell (p := ⟨w3.heap.size, 0, none⟩) (show w.heap.size ≤ w3.heap.size by omega) _).drew, ⟨?_, ?_, ?_⟩, (HST.out.2.2.2.setCell (p := ⟨w3.heap.size, 0, none⟩) (show w.heap.size ≤ w3.heap.size by omega) _).drew⟩
            · rw [HSN.out]; refine Eq.trans (FA.out _) ?_; congr 3; refine congrArg (fun v => [Value.int .i64 v]) ?_; omega
            · exact FB.out _
            · exact FC.out _
        · go_simp
          refine hK _ _ ?_
          clear hK K
          try simp only [Act.put, List.setIfInBounds_toArray, List.set_cons_zero, List.set_cons_succ]
          refine wpAnyIn_take (i := 9) (oi := { dst := some 42, op := Op.indexAddr 22 (Operand.tmp 40) (Operand.tmp 41), type := 0, pos := "l04_noise.go:195", after := #[{ on := 7, ground := Ground.data }, { on := 8, ground := Ground.data }], guard := none }) (v := ?_) rfl rfl (by kernel_rfl) (by kernel_rfl) (by kernel_rfl) (fun _ _ _ h => h) ⟨Or.inl ⟨by rfl, ?hy⟩, fun _ => rfl⟩ ?_
          case hy => (intro w'; go_simp; try with_reducible rfl)
          simp only [Act.put, List.setIfInBounds_toArray, List.set_cons_zero, List.set_cons_succ]
          refine wpAnyIn_ready (rs := [5, 10]) (by kernel_rfl) (by simp) ?_
          refine AllReadyIn.cons (o := { dst := some 38, op := Op.load 2 (Operand.tmp 37), type := 2, pos := "l04_noise.go:195", after := #[{ on := 4, ground := Ground.data }], guard := none }) rfl (fun K hK => ?_) (AllReadyIn.cons (o := { dst := some 43, op := Op.load 2 (Operand.tmp 42), type := 2, pos := "l04_noise.go:195", after := #[{ on := 9, ground := Ground.data }], guard := none }) rfl (fun K hK => ?_) AllReadyIn.nil)
          · go_simp
            refine hK _ _ ?_
            clear hK K
            try simp only [Act.put, List.setIfInBounds_toArray, List.set_cons_zero, List.set_cons_succ]
            refine wpAnyIn_take (i := 6) (oi := { dst := some 39, op := Op.binOp BinOp.sub 2 (Operand.tmp 34) (Operand.tmp 38) 2, type := 2, pos := "l04_noise.go:195", after := #[{ on := 1, ground := Ground.data }, { on := 5, ground := Ground.data }], guard := none }) (v := ?_) rfl rfl (by kernel_rfl) (by kernel_rfl) (by kernel_rfl) (fun _ _ _ h => h) ⟨Or.inl ⟨by rfl, ?hy⟩, fun _ => rfl⟩ ?_
            case hy => (intro w'; go_simp; try with_reducible rfl)
            simp only [Act.put, List.setIfInBounds_toArray, List.set_cons_zero, List.set_cons_succ]
            refine wpAnyIn_ready (rs := [10]) (by kernel_rfl) (by simp) ?_
            refine AllReadyIn.cons (o := { dst := some 43, op := Op.load 2 (Operand.tmp 42), type := 2, pos := "l04_noise.go:195", after := #[{ on := 9, ground := Ground.data }], guard := none }) rfl (fun K hK => ?_) AllReadyIn.nil
            go_simp
            refine hK _ _ ?_
            clear hK K
            try simp only [Act.put, List.setIfInBounds_toArray, List.set_cons_zero, List.set_cons_succ]
            refine wpAnyIn_take (i := 12) (oi := { dst := some 45, op := Op.binOp BinOp.sub 2 (Operand.tmp 43) (Operand.tmp 44) 2, type := 2, pos := "l04_noise.go:195", after := #[{ on := 10, ground := Ground.data }, { on := 11, ground := Ground.data }], guard := none }) (v := ?_) rfl rfl (by kernel_rfl) (by kernel_rfl) (by kernel_rfl) (fun _ _ _ h => h) ⟨Or.inl ⟨by rfl, ?hy⟩, fun _ => rfl⟩ ?_
            case hy => (intro w'; go_simp; try with_reducible rfl)
            simp only [Act.put, List.setIfInBounds_toArray, List.set_cons_zero, List.set_cons_succ]
            refine wpAnyIn_ready (rs := [13]) (by kernel_rfl) (by simp) ?_
            refine AllReadyIn.cons (o := { dst := some 46, op := Op.call { callee := Callee.builtin Builtin.max, args := #[Operand.tmp 33, Operand.tmp 39, Operand.tmp 45], argTypes := #[2, 2, 2] }, type := 2, pos := "l04_noise.go:195", after := #[{ on := 0, ground := Ground.data }, { on := 6, ground := Ground.data }, { on := 12, ground := Ground.data }], guard := none }) rfl (fun K hK => ?_) AllReadyIn.nil
            go_simp
            refine hK _ _ ?_
            clear hK K
            try simp only [Act.put, List.setIfInBounds_toArray, List.set_cons_zero, List.set_cons_succ]
            refine wpAnyIn_ready (rs := [14]) (by kernel_rfl) (by simp) ?_
            refine AllReadyIn.cons (o := { dst := none, op := Op.store 2 (Operand.tmp 6) (Operand.tmp 46), type := 0, pos := "l04_noise.go:195", after := #[{ on := 13, ground := Ground.data }, { on := 0, ground := Ground.phase }, { on := 1, ground := Ground.phase }, { on := 2, ground := Ground.phase }, { on := 3, ground := Ground.phase }, { on := 4, ground := Ground.phase }, { on := 5, ground := Ground.phase }, { on := 6, ground := Ground.phase }, { on := 7, ground := Ground.phase }, { on := 8, ground := Ground.phase }, { on := 9, ground := Ground.phase }, { on := 10, ground := Ground.phase }, { on := 11, ground := Ground.phase }, { on := 12, ground := Ground.phase }, { on := 13, ground := Ground.phase }], guard := none }) rfl (fun K hK => ?_) AllReadyIn.nil
            go_simp
            refine hK _ _ ?_
            clear hK K
            try simp only [Act.put, List.setIfInBounds_toArray, List.set_cons_zero, List.set_cons_succ]
            refine wpAnyIn_done (by kernel_rfl) ?_ _
            gi_wp2
            all_goals
              refine ⟨((KeepsOthers.setCell _ _ _).trans (KeepsOthers.drew _)).from _, ((Below.refl w.heap.size W).setCell (p := ⟨w3.heap.size, 0, none⟩) (show w.heap.size ≤ w3.heap.size by omega) _).drew, ⟨?_, ?_, ?_⟩, (HST.out.2.2.2.setCell (p := ⟨w3.heap.size, 0, none⟩) (show w.heap.size ≤ w3.heap.size by omega) _).drew⟩
              · rw [HSN.out]; refine Eq.trans (FA.out _) ?_; congr 3; refine congrArg (fun v => [Value.int .i64 v]) ?_; omega
              · exact FB.out _
              · exact FC.out _
          · go_simp
            refine hK _ _ ?_
            clear hK K
            try simp only [Act.put, List.setIfInBounds_toArray, List.set_cons_zero, List.set_cons_succ]
            refine wpAnyIn_take (i := 12) (oi := { dst := some 45, op := Op.binOp BinOp.sub 2 (Operand.tmp 43) (Operand.tmp 44) 2, type := 2, pos := "l04_noise.go:195", after := #[{ on := 10, ground := Ground.data }, { on := 11, ground := Ground.data }], guard := none }) (v := ?_) rfl rfl (by kernel_rfl) (by kernel_rfl) (by kernel_rfl) (fun _ _ _ h => h) ⟨Or.inl ⟨by rfl, ?hy⟩, fun _ => rfl⟩ ?_
            case hy => (intro w'; go_simp; try with_reducible rfl)
            simp only [Act.put, List.setIfInBounds_toArray, List.set_cons_zero, List.set_cons_succ]
            refine wpAnyIn_ready (rs := [5]) (by kernel_rfl) (by simp) ?_
            refine AllReadyIn.cons (o := { dst := some 38, op := Op.load 2 (Operand.tmp 37), type := 2, pos := "l04_noise.go:195", after := #[{ on := 4, ground := Ground.data }], guard := none }) rfl (fun K hK => ?_) AllReadyIn.nil
            go_simp
            refine hK _ _ ?_
            clear hK K
            try simp only [Act.put, List.setIfInBounds_toArray, List.set_cons_zero, List.set_cons_succ]
            refine wpAnyIn_take (i := 6) (oi := { dst := some 39, op := Op.binOp BinOp.sub 2 (Operand.tmp 34) (Operand.tmp 38) 2, type := 2, pos := "l04_noise.go:195", after := #[{ on := 1, ground := Ground.data }, { on := 5, ground := Ground.data }], guard := none }) (v := ?_) rfl rfl (by kernel_rfl) (by kernel_rfl) (by kernel_rfl) (fun _ _ _ h => h) ⟨Or.inl ⟨by rfl, ?hy⟩, fun _ => rfl⟩ ?_
            case hy => (intro w'; go_simp; try with_reducible rfl)
            simp only [Act.put, List.setIfInBounds_toArray, List.set_cons_zero, List.set_cons_succ]
            refine wpAnyIn_ready (rs := [13]) (by kernel_rfl) (by simp) ?_
            refine AllReadyIn.cons (o := { dst := some 46, op := Op.call { callee := Callee.builtin Builtin.max, args := #[Operand.tmp 33, Operand.tmp 39, Operand.tmp 45], argTypes := #[2, 2, 2] }, type := 2, pos := "l04_noise.go:195", after := #[{ on := 0, ground := Ground.data }, { on := 6, ground := Ground.data }, { on := 12, ground := Ground.data }], guard := none }) rfl (fun K hK => ?_) AllReadyIn.nil
            go_simp
            refine hK _ _ ?_
            clear hK K
            try simp only [Act.put, List.setIfInBounds_toArray, List.set_cons_zero, List.set_cons_succ]
            refine wpAnyIn_ready (rs := [14]) (by kernel_rfl) (by simp) ?_
            refine AllReadyIn.cons (o := { dst := none, op := Op.store 2 (Operand.tmp 6) (Operand.tmp 46), type := 0, pos := "l04_noise.go:195", after := #[{ on := 13, ground := Ground.data }, { on := 0, ground := Ground.phase }, { on := 1, ground := Ground.phase }, { on := 2, ground := Ground.phase }, { on := 3, ground := Ground.phase }, { on := 4, ground := Ground.phase }, { on := 5, ground := Ground.phase }, { on := 6, ground := Ground.phase }, { on := 7, ground := Ground.phase }, { on := 8, ground := Ground.phase }, { on := 9, ground := Ground.phase }, { on := 10, ground := Ground.phase }, { on := 11, ground := Ground.phase }, { on := 12, ground := Ground.phase }, { on := 13, ground := Ground.phase }], guard := none }) rfl (fun K hK => ?_) AllReadyIn.nil
            go_simp
            refine hK _ _ ?_
            clear hK K
            try simp only [Act.put, List.setIfInBounds_toArray, List.set_cons_zero, List.set_cons_succ]
            refine wpAnyIn_done (by kernel_rfl) ?_ _
            gi_wp2
            all_goals
              refine ⟨((KeepsOthers.setCell _ _ _).trans (KeepsOthers.drew _)).from _, ((Below.refl w.heap.size W).setCell (p := ⟨w3.heap.size, 0, none⟩) (show w.heap.size ≤ w3.heap.size by omega) _).drew, ⟨?_, ?_, ?_⟩, (HST.out.2.2.2.setCell (p := ⟨w3.heap.size, 0, none⟩) (show w.heap.size ≤ w3.heap.size by omega) _).drew⟩
              · rw [HSN.out]; refine Eq.trans (FA.out _) ?_; congr 3; refine congrArg (fun v => [Value.int .i64 v]) ?_; omega
              · exact FB.out _
              · exact FC.out _
      · go_simp
        refine hK _ _ ?_
        clear hK K
        try simp only [Act.put, List.setIfInBounds_toArray, List.set_cons_zero, List.set_cons_succ]
        refine wpAnyIn_take (i := 6) (oi := { dst := some 39, op := Op.binOp BinOp.sub 2 (Operand.tmp 34) (Operand.tmp 38) 2, type := 2, pos := "l04_noise.go:195", after := #[{ on := 1, ground := Ground.data }, { on := 5, ground := Ground.data }], guard := none }) (v := ?_) rfl rfl (by kernel_rfl) (by kernel_rfl) (by kernel_rfl) (fun _ _ _ h => h) ⟨Or.inl ⟨by rfl, ?hy⟩, fun _ => rfl⟩ ?_
        case hy => (intro w'; go_simp; try with_reducible rfl)
        simp only [Act.put, List.setIfInBounds_toArray, List.set_cons_zero, List.set_cons_succ]
        refine wpAnyIn_ready (rs := [0, 7]) (by kernel_rfl) (by simp) ?_
        refine AllReadyIn.cons (o := { dst := some 33, op := Op.load 2 (Operand.tmp 6), type := 2, pos := "l04_noise.go:195", after := #[], guard := none }) rfl (fun K hK => ?_) (AllReadyIn.cons (o := { dst := some 40, op := Op.load 22 (Operand.tmp 7), type := 22, pos := "l04_noise.go:195", after := #[], guard := none }) rfl (fun K hK => ?_) AllReadyIn.nil)
        · go_simp
          refine hK _ _ ?_
          clear hK K
          try simp only [Act.put, List.setIfInBounds_toArray, List.set_cons_zero, List.set_cons_succ]
          refine wpAnyIn_ready (rs := [7]) (by kernel_rfl) (by simp) ?_
          refine AllReadyIn.cons (o := { dst := some 40, op := Op.load 22 (Operand.tmp 7), type := 22, pos := "l04_noise.go:195", after := #[], guard := none }) rfl (fun K hK => ?_) AllReadyIn.nil
          go_simp
          refine hK _ _ ?_
          clear hK K
          try simp only [Act.put, List.setIfInBounds_toArray, List.set_cons_zero, List.set_cons_succ]
          refine wpAnyIn_take (i := 9) (oi := { dst := some 42, op := Op.indexAddr 22 (Operand.tmp 40) (Operand.tmp 41), type := 0, pos := "l04_noise.go:195", after := #[{ on := 7, ground := Ground.data }, { on := 8, ground := Ground.data }], guard := none }) (v := ?_) rfl rfl (by kernel_rfl) (by kernel_rfl) (by kernel_rfl) (fun _ _ _ h => h) ⟨Or.inl ⟨by rfl, ?hy⟩, fun _ => rfl⟩ ?_
          case hy => (intro w'; go_simp; try with_reducible rfl)
          simp only [Act.put, List.setIfInBounds_toArray, List.set_cons_zero, List.set_cons_succ]
          refine wpAnyIn_ready (rs := [10]) (by kernel_rfl) (by simp) ?_
          refine AllReadyIn.cons (o := { dst := some 43, op := Op.load 2 (Operand.tmp 42), type := 2, pos := "l04_noise.go:195", after := #[{ on := 9, ground := Ground.data }], guard := none }) rfl (fun K hK => ?_) AllReadyIn.nil
          go_simp
          refine hK _ _ ?_
          clear hK K
          try simp only [Act.put, List.setIfInBounds_toArray, List.set_cons_zero, List.set_cons_succ]
          refine wpAnyIn_take (i := 12) (oi := { dst := some 45, op := Op.binOp BinOp.sub 2 (Operand.tmp 43) (Operand.tmp 44) 2, type := 2, pos := "l04_noise.go:195", after := #[{ on := 10, ground := Ground.data }, { on := 11, ground := Ground.data }], guard := none }) (v := ?_) rfl rfl (by kernel_rfl) (by kernel_rfl) (by kernel_rfl) (fun _ _ _ h => h) ⟨Or.inl ⟨by rfl, ?hy⟩, fun _ => rfl⟩ ?_
          case hy => (intro w'; go_simp; try with_reducible rfl)
          simp only [Act.put, List.setIfInBounds_toArray, List.set_cons_zero, List.set_cons_succ]
          refine wpAnyIn_ready (rs := [13]) (by kernel_rfl) (by simp) ?_
          refine AllReadyIn.cons (o := { dst := some 46, op := Op.call { callee := Callee.builtin Builtin.max, args := #[Operand.tmp 33, Operand.tmp 39, Operand.tmp 45], argTypes := #[2, 2, 2] }, type := 2, pos := "l04_noise.go:195", after := #[{ on := 0, ground := Ground.data }, { on := 6, ground := Ground.data }, { on := 12, ground := Ground.data }], guard := none }) rfl (fun K hK => ?_) AllReadyIn.nil
          go_simp
          refine hK _ _ ?_
          clear hK K
          try simp only [Act.put, List.setIfInBounds_toArray, List.set_cons_zero, List.set_cons_succ]
          refine wpAnyIn_ready (rs := [14]) (by kernel_rfl) (by simp) ?_
          refine AllReadyIn.cons (o := { dst := none, op := Op.store 2 (Operand.tmp 6) (Operand.tmp 46), type := 0, pos := "l04_noise.go:195", after := #[{ on := 13, ground := Ground.data }, { on := 0, ground := Ground.phase }, { on := 1, ground := Ground.phase }, { on := 2, ground := Ground.phase }, { on := 3, ground := Ground.phase }, { on := 4, ground := Ground.phase }, { on := 5, ground := Ground.phase }, { on := 6, ground := Ground.phase }, { on := 7, ground := Ground.phase }, { on := 8, ground := Ground.phase }, { on := 9, ground := Ground.phase }, { on := 10, ground := Ground.phase }, { on := 11, ground := Ground.phase }, { on := 12, ground := Ground.phase }, { on := 13, ground := Ground.phase }], guard := none }) rfl (fun K hK => ?_) AllReadyIn.nil
          go_simp
          refine hK _ _ ?_
          clear hK K
          try simp only [Act.put, List.setIfInBounds_toArray, List.set_cons_zero, List.set_cons_succ]
          refine wpAnyIn_done (by kernel_rfl) ?_ _
          gi_wp2
          all_goals
            refine ⟨((KeepsOthers.setCell _ _ _).trans (KeepsOthers.drew _)).from _, ((Below.refl w.heap.size W).setCell (p := ⟨w3.heap.size, 0, none⟩) (show w.heap.size ≤ w3.heap.size by omega) _).drew, ⟨?_, ?_, ?_⟩, (HST.out.2.2.2.setCell (p := ⟨w3.heap.size, 0, none⟩) (show w.heap.size ≤ w3.heap.size by omega) _).drew⟩
            · rw [HSN.out]; refine Eq.trans (FA.out _) ?_; congr 3; refine congrArg (fun v => [Value.int .i64 v]) ?_; omega
            · exact FB.out _
            · exact FC.out _
        · go_simp
          refine hK _ _ ?_
          clear hK K
          try simp only [Act.put, List.setIfInBounds_toArray, List.set_cons_zero, List.set_cons_succ]
          refine wpAnyIn_take (i := 9) (oi := { dst := some 42, op := Op.indexAddr 22 (Operand.tmp 40) (Operand.tmp 41), type := 0, pos := "l04_noise.go:195", after := #[{ on := 7, ground := Ground.data }, { on := 8, ground := Ground.data }], guard := none }) (v := ?_) rfl rfl (by kernel_rfl) (by kernel_rfl) (by kernel_rfl) (fun _ _ _ h => h) ⟨Or.inl ⟨by rfl, ?hy⟩, fun _ => rfl⟩ ?_
          case hy => (intro w'; go_simp; try with_reducible rfl)
          simp only [Act.put, List.setIfInBounds_toArray, List.set_cons_zero, List.set_cons_succ]
          refine wpAnyIn_ready (rs := [0, 10]) (by kernel_rfl) (by simp) ?_
          refine AllReadyIn.cons (o := { dst := some 33, op := Op.load 2 (Operand.tmp 6), type := 2, pos := "l04_noise.go:195", after := #[], guard := none }) rfl (fun K hK => ?_) (AllReadyIn.cons (o := { dst := some 43, op := Op.load 2 (Operand.tmp 42), type := 2, pos := "l04_noise.go:195", after := #[{ on := 9, ground := Ground.data }], guard := none }) rfl (fun K hK => ?_) AllReadyIn.nil)
          · go_simp
            refine hK _ _ ?_
            clear hK K
            try simp only [Act.put, List.setIfInBounds_toArray, List.set_cons_zero, List.set_cons_succ]
            refine wpAnyIn_ready (rs := [10]) (by kernel_rfl) (by simp) ?_
            refine AllReadyIn.cons (o := { dst := some 43, op := Op.load 2 (Operand.tmp 42), type := 2, pos := "l04_noise.go:195", after := #[{ on := 9, ground := Ground.data }], guard := none }) rfl (fun K hK => ?_) AllReadyIn.nil
            go_simp
            refine hK _ _ ?_
            clear hK K
            try simp only [Act.put, List.setIfInBounds_toArray, List.set_cons_zero, List.set_cons_succ]
            refine wpAnyIn_take (i := 12) (oi := { dst := some 45, op := Op.binOp BinOp.sub 2 (Operand.tmp 43) (Operand.tmp 44) 2, type := 2, pos := "l04_noise.go:195", after := #[{ on := 10, ground := Ground.data }, { on := 11, ground := Ground.data }], guard := none }) (v := ?_) rfl rfl (by kernel_rfl) (by kernel_rfl) (by kernel_rfl) (fun _ _ _ h => h) ⟨Or.inl ⟨by rfl, ?hy⟩, fun _ => rfl⟩ ?_
            case hy => (intro w'; go_simp; try with_reducible rfl)
            simp only [Act.put, List.setIfInBounds_toArray, List.set_cons_zero, List.set_cons_succ]
            refine wpAnyIn_ready (rs := [13]) (by kernel_rfl) (by simp) ?_
            refine AllReadyIn.cons (o := { dst := some 46, op := Op.call { callee := Callee.builtin Builtin.max, args := #[Operand.tmp 33, Operand.tmp 39, Operand.tmp 45], argTypes := #[2, 2, 2] }, type := 2, pos := "l04_noise.go:195", after := #[{ on := 0, ground := Ground.data }, { on := 6, ground := Ground.data }, { on := 12, ground := Ground.data }], guard := none }) rfl (fun K hK => ?_) AllReadyIn.nil
            go_simp
            refine hK _ _ ?_
            clear hK K
            try simp only [Act.put, List.setIfInBounds_toArray, List.set_cons_zero, List.set_cons_succ]
            refine wpAnyIn_ready (rs := [14]) (by kernel_rfl) (by simp) ?_
            refine AllReadyIn.cons (o := { dst := none, op := Op.store 2 (Operand.tmp 6) (Operand.tmp 46), type := 0, pos := "l04_noise.go:195", after := #[{ on := 13, ground := Ground.data }, { on := 0, ground := Ground.phase }, { on := 1, ground := Ground.phase }, { on := 2, ground := Ground.phase }, { on := 3, ground := Ground.phase }, { on := 4, ground := Ground.phase }, { on := 5, ground := Ground.phase }, { on := 6, ground := Ground.phase }, { on := 7, ground := Ground.phase }, { on := 8, ground := Ground.phase }, { on := 9, ground := Ground.phase }, { on := 10, ground := Ground.phase }, { on := 11, ground := Ground.phase }, { on := 12, ground := Ground.phase }, { on := 13, ground := Ground.phase }], guard := none }) rfl (fun K hK => ?_) AllReadyIn.nil
            go_simp
            refine hK _ _ ?_
            clear hK K
            try simp only [Act.put, List.setIfInBounds_toArray, List.set_cons_zero, List.set_cons_succ]
            refine wpAnyIn_done (by kernel_rfl) ?_ _
            gi_wp2
            all_goals
              refine ⟨((KeepsOthers.setCell _ _ _).trans (KeepsOthers.drew _)).from _, ((Below.refl w.heap.size W).setCell (p := ⟨w3.heap.size, 0, none⟩) (show w.heap.size ≤ w3.heap.size by omega) _).drew, ⟨?_, ?_, ?_⟩, (HST.out.2.2.2.setCell (p := ⟨w3.heap.size, 0, none⟩) (show w.heap.size ≤ w3.heap.size by omega) _).drew⟩
              · rw [HSN.out]; refine Eq.trans (FA.out _) ?_; congr 3; refine congrArg (fun v => [Value.int .i64 v]) ?_; omega
              · exact FB.out _
              · exact FC.out _
          · go_simp
            refine hK _ _ ?_
            clear hK K
            try simp only [Act.put, List.setIfInBounds_toArray, List.set_cons_zero, List.set_cons_succ]
            refine wpAnyIn_take (i := 12) (oi := { dst := some 45, op := Op.binOp BinOp.sub 2 (Operand.tmp 43) (Operand.tmp 44) 2, type := 2, pos := "l04_noise.go:195", after := #[{ on := 10, ground := Ground.data }, { on := 11, ground := Ground.data }], guard := none }) (v := ?_) rfl rfl (by kernel_rfl) (by kernel_rfl) (by kernel_rfl) (fun _ _ _ h => h) ⟨Or.inl ⟨by rfl, ?hy⟩, fun _ => rfl⟩ ?_
            case hy => (intro w'; go_simp; try with_reducible rfl)
            simp only [Act.put, List.setIfInBounds_toArray, List.set_cons_zero, List.set_cons_succ]
            refine wpAnyIn_ready (rs := [0]) (by kernel_rfl) (by simp) ?_
            refine AllReadyIn.cons (o := { dst := some 33, op := Op.load 2 (Operand.tmp 6), type := 2, pos := "l04_noise.go:195", after := #[], guard := none }) rfl (fun K hK => ?_) AllReadyIn.nil
            go_simp
            refine hK _ _ ?_
            clear hK K
            try simp only [Act.put, List.setIfInBounds_toArray, List.set_cons_zero, List.set_cons_succ]
            refine wpAnyIn_ready (rs := [13]) (by kernel_rfl) (by simp) ?_
            refine AllReadyIn.cons (o := { dst := some 46, op := Op.call { callee := Callee.builtin Builtin.max, args := #[Operand.tmp 33, Operand.tmp 39, Operand.tmp 45], argTypes := #[2, 2, 2] }, type := 2, pos := "l04_noise.go:195", after := #[{ on := 0, ground := Ground.data }, { on := 6, ground := Ground.data }, { on := 12, ground := Ground.data }], guard := none }) rfl (fun K hK => ?_) AllReadyIn.nil
            go_simp
            refine hK _ _ ?_
            clear hK K
            try simp only [Act.put, List.setIfInBounds_toArray, List.set_cons_zero, List.set_cons_succ]
            refine wpAnyIn_ready (rs := [14]) (by kernel_rfl) (by simp) ?_
            refine AllReadyIn.cons (o := { dst := none, op := Op.store 2 (Operand.tmp 6) (Operand.tmp 46), type := 0, pos := "l04_noise.go:195", after := #[{ on := 13, ground := Ground.data }, { on := 0, ground := Ground.phase }, { on := 1, ground := Ground.phase }, { on := 2, ground := Ground.phase }, { on := 3, ground := Ground.phase }, { on := 4, ground := Ground.phase }, { on := 5, ground := Ground.phase }, { on := 6, ground := Ground.phase }, { on := 7, ground := Ground.phase }, { on := 8, ground := Ground.phase }, { on := 9, ground := Ground.phase }, { on := 10, ground := Ground.phase }, { on := 11, ground := Ground.phase }, { on := 12, ground := Ground.phase }, { on := 13, ground := Ground.phase }], guard := none }) rfl (fun K hK => ?_) AllReadyIn.nil
            go_simp
            refine hK _ _ ?_
            clear hK K
            try simp only [Act.put, List.setIfInBounds_toArray, List.set_cons_zero, List.set_cons_succ]
            refine wpAnyIn_done (by kernel_rfl) ?_ _
            gi_wp2
            all_goals
              refine ⟨((KeepsOthers.setCell _ _ _).trans (KeepsOthers.drew _)).from _, ((Below.refl w.heap.size W).setCell (p := ⟨w3.heap.size, 0, none⟩) (show w.heap.size ≤ w3.heap.size by omega) _).drew, ⟨?_, ?_, ?_⟩, (HST.out.2.2.2.setCell (p := ⟨w3.heap.size, 0, none⟩) (show w.heap.size ≤ w3.heap.size by omega) _).drew⟩
              · rw [HSN.out]; refine Eq.trans (FA.out _) ?_; congr 3; refine congrArg (fun v => [Value.int .i64 v]) ?_; omega
              · exact FB.out _
              · exact FC.out _
      · go_simp
        refine hK _ _ ?_
        clear hK K
        try simp only [Act.put, List.setIfInBounds_toArray, List.set_cons_zero, List.set_cons_succ]
        refine wpAnyIn_take (i := 9) (oi := { dst := some 42, op := Op.indexAddr 22 (Operand.tmp 40) (Operand.tmp 41), type := 0, pos := "l04_noise.go:195", after := #[{ on := 7, ground := Ground.data }, { on := 8, ground := Ground.data }], guard := none }) (v := ?_) rfl rfl (by kernel_rfl) (by kernel_rfl) (by kernel_rfl) (fun _ _ _ h => h) ⟨Or.inl ⟨by rfl, ?hy⟩, fun _ => rfl⟩ ?_
        case hy => (intro w'; go_simp; try with_reducible rfl)
        simp only [Act.put, List.setIfInBounds_toArray, List.set_cons_zero, List.set_cons_succ]
        refine wpAnyIn_ready (rs := [0, 5, 10]) (by kernel_rfl) (by simp) ?_
        refine AllReadyIn.cons (o := { dst := some 33, op := Op.load 2 (Operand.tmp 6), type := 2, pos := "l04_noise.go:195", after := #[], guard := none }) rfl (fun K hK => ?_) (AllReadyIn.cons (o := { dst := some 38, op := Op.load 2 (Operand.tmp 37), type := 2, pos := "l04_noise.go:195", after := #[{ on := 4, ground := Ground.data }], guard := none }) rfl (fun K hK => ?_) (AllReadyIn.cons (o := { dst := some 43, op := Op.load 2 (Operand.tmp 42), type := 2, pos := "l04_noise.go:195", after := #[{ on := 9, ground := Ground.data }], guard := none }) rfl (fun K hK => ?_) AllReadyIn.nil))
        · go_simp
          refine hK _ _ ?_
          clear hK K
          try simp only [Act.put, List.setIfInBounds_toArray, List.set_cons_zero, List.set_cons_succ]
          refine wpAnyIn_ready (rs := [5, 10]) (by kernel_rfl) (by simp) ?_
          refine AllReadyIn.cons (o := { dst := some 38, op := Op.load 2 (Operand.tmp 37), type := 2, pos := "l04_noise.go:195", after := #[{ on := 4, ground := Ground.data }], guard := none }) rfl (fun K hK => ?_) (AllReadyIn.cons (o := { dst := some 43, op := Op.load 2 (Operand.tmp 42), type := 2, pos := "l04_noise.go:195", after := #[{ on := 9, ground := Ground.data }], guard := none }) rfl (fun K hK => ?_) AllReadyIn.nil)
          · go_simp
            refine hK _ _ ?_
            clear hK K
            try simp only [Act.put, List.setIfInBounds_toArray, List.set_cons_zero, List.set_cons_succ]
            refine wpAnyIn_take (i := 6) (oi := { dst := some 39, op := Op.binOp BinOp.sub 2 (Operand.tmp 34) (Operand.tmp 38) 2, type := 2, pos := "l04_noise.go:195", after := #[{ on := 1, ground := Ground.data }, { on := 5, ground := Ground.data }], guard := none }) (v := ?_) rfl rfl (by kernel_rfl) (by kernel_rfl) (by kernel_rfl) (fun _ _ _ h => h) ⟨Or.inl ⟨by rfl, ?hy⟩, fun _ => rfl⟩ ?_
            case hy => (intro w'; go_simp; try with_reducible rfl)
            simp only [Act.put, List.setIfInBounds_toArray, List.set_cons_zero, List.set_cons_succ]
            refine wpAnyIn_ready (rs := [10]) (by kernel_rfl) (by simp) ?_
            refine AllReadyIn.cons (o := { dst := some 43, op := Op.load 2 (Operand.tmp 42), type := 2, pos := "l04_noise.go:195", after := #[{ on := 9, ground := Ground.data }], guard := none }) rfl (fun K hK => ?_) AllReadyIn.nil
            go_simp
            refine hK _ _ ?_
            clear hK K
            try simp only [Act.put, List.setIfInBounds_toArray, List.set_cons_zero, List.set_cons_succ]
            refine wpAnyIn_take (i := 12) (oi := { dst := some 45, op := Op.binOp BinOp.sub 2 (Operand.tmp 43) (Operand.tmp 44) 2, type := 2, pos := "l04_noise.go:195", after := #[{ on := 10, ground := Ground.data }, { on := 11, ground := Ground.data }], guard := none }) (v := ?_) rfl rfl (by kernel_rfl) (by kernel_rfl) (by kernel_rfl) (fun _ _ _ h => h) ⟨Or.inl ⟨by rfl, ?hy⟩, fun _ => rfl⟩ ?_
            case hy => (intro w'; go_simp; try with_reducible rfl)
            simp only [Act.put, List.setIfInBounds_toArray, List.set_cons_zero, List.set_cons_succ]
            refine wpAnyIn_ready (rs := [13]) (by kernel_rfl) (by simp) ?_
            refine AllReadyIn.cons (o := { dst := some 46, op := Op.call { callee := Callee.builtin Builtin.max, args := #[Operand.tmp 33, Operand.tmp 39, Operand.tmp 45], argTypes := #[2, 2, 2] }, type := 2, pos := "l04_noise.go:195", after := #[{ on := 0, ground := Ground.data }, { on := 6, ground := Ground.data }, { on := 12, ground := Ground.data }], guard := none }) rfl (fun K hK => ?_) AllReadyIn.nil
            go_simp
            refine hK _ _ ?_
            clear hK K
            try simp only [Act.put, List.setIfInBounds_toArray, List.set_cons_zero, List.set_cons_succ]
            refine wpAnyIn_ready (rs := [14]) (by kernel_rfl) (by simp) ?_
            refine AllReadyIn.cons (o := { dst := none, op := Op.store 2 (Operand.tmp 6) (Operand.tmp 46), type := 0, pos := "l04_noise.go:195", after := #[{ on := 13, ground := Ground.data }, { on := 0, ground := Ground.phase }, { on := 1, ground := Ground.phase }, { on := 2, ground := Ground.phase }, { on := 3, ground := Ground.phase }, { on := 4, ground := Ground.phase }, { on := 5, ground := Ground.phase }, { on := 6, ground := Ground.phase }, { on := 7, ground := Ground.phase }, { on := 8, ground := Ground.phase }, { on := 9, ground := Ground.phase }, { on := 10, ground := Ground.phase }, { on := 11, ground := Ground.phase }, { on := 12, ground := Ground.phase }, { on := 13, ground := Ground.phase }], guard := none }) rfl (fun K hK => ?_) AllReadyIn.nil
            go_simp
            refine hK _ _ ?_
            clear hK K
            try simp only [Act.put, List.setIfInBounds_toArray, List.set_cons_zero, List.set_cons_succ]
            refine wpAnyIn_done (by kernel_rfl) ?_ _
            gi_wp2
            all_goals
              refine ⟨((KeepsOthers.setCell _ _ _).trans (KeepsOthers.drew _)).from _, ((Below.refl w.heap.size W).setCell (p := ⟨w3.heap.size, 0, none⟩) (show w.heap.size ≤ w3.heap.size by omega) _).drew, ⟨?_, ?_, ?_⟩, (HST.out.2.2.2.setCell (p := ⟨w3.heap.size, 0, none⟩) (show w.heap.size ≤ w3.heap.size by omega) _).drew⟩
              · rw [HSN.out]; refine Eq.trans (FA.out _) ?_; congr 3; refine congrArg (fun v => [Value.int .i64 v]) ?_; omega
              · exact FB.out _
              · exact FC.out _
          · go_simp
            refine hK _ _ ?_
            clear hK K
            try simp only [Act.put, List.setIfInBounds_toArray, List.set_cons_zero, List.set_cons_succ]
            refine wpAnyIn_take (i := 12) (oi := { dst := some 45, op := Op.binOp BinOp.sub 2 (Operand.tmp 43) (Operand.tmp 44) 2, type := 2, pos := "l04_noise.go:195", after := #[{ on := 10, ground := Ground.data }, { on := 11, ground := Ground.data }], guard := none }) (v := ?_) rfl rfl (by kernel_rfl) (by kernel_rfl) (by kernel_rfl) (fun _ _ _ h => h) ⟨Or.inl ⟨by rfl, ?hy⟩, fun _ => rfl⟩ ?_
            case hy => (intro w'; go_simp; try with_reducible rfl)
            simp only [Act.put, List.setIfInBounds_toArray, List.set_cons_zero, List.set_cons_succ]
            refine wpAnyIn_ready (rs := [5]) (by kernel_rfl) (by simp) ?_
            refine AllReadyIn.cons (o := { dst := some 38, op := Op.load 2 (Operand.tmp 37), type := 2, pos := "l04_noise.go:195", after := #[{ on := 4, ground := Ground.data }], guard := none }) rfl (fun K hK => ?_) AllReadyIn.nil
            go_simp
            refine hK _ _ ?_
            clear hK K
            try simp only [Act.put, List.setIfInBounds_toArray, List.set_cons_zero, List.set_cons_succ]
            refine wpAnyIn_take (i := 6) (oi := { dst := some 39, op := Op.binOp BinOp.sub 2 (Operand.tmp 34) (Operand.tmp 38) 2, type := 2, pos := "l04_noise.go:195", after := #[{ on := 1, ground := Ground.data }, { on := 5, ground := Ground.data }], guard := none }) (v := ?_) rfl rfl (by kernel_rfl) (by kernel_rfl) (by kernel_rfl) (fun _ _ _ h => h) ⟨Or.inl ⟨by rfl, ?hy⟩, fun _ => rfl⟩ ?_
            case hy => (intro w'; go_simp; try with_reducible rfl)
            simp only [Act.put, List.setIfInBounds_toArray, List.set_cons_zero, List.set_cons_succ]
            refine wpAnyIn_ready (rs := [13]) (by kernel_rfl) (by simp) ?_
            refine AllReadyIn.cons (o := { dst := some 46, op := Op.call { callee := Callee.builtin Builtin.max, args := #[Operand.tmp 33, Operand.tmp 39, Operand.tmp 45], argTypes := #[2, 2, 2] }, type := 2, pos := "l04_noise.go:195", after := #[{ on := 0, ground := Ground.data }, { on := 6, ground := Ground.data }, { on := 12, ground := Ground.data }], guard := none }) rfl (fun K hK => ?_) AllReadyIn.nil
            go_simp
            refine hK _ _ ?_
            clear hK K
            try simp only [Act.put, List.setIfInBounds_toArray, List.set_cons_zero, List.set_cons_succ]
            refine wpAnyIn_ready (rs := [14]) (by kernel_rfl) (by simp) ?_
            refine AllReadyIn.cons (o := { dst := none, op := Op.store 2 (Operand.tmp 6) (Operand.tmp 46), type := 0, pos := "l04_noise.go:195", after := #[{ on := 13, ground := Ground.data }, { on := 0, ground := Ground.phase }, { on := 1, ground := Ground.phase }, { on := 2, ground := Ground.phase }, { on := 3, ground := Ground.phase }, { on := 4, ground := Ground.phase }, { on := 5, ground := Ground.phase }, { on := 6, ground := Ground.phase }, { on := 7, ground := Ground.phase }, { on := 8, ground := Ground.phase }, { on := 9, ground := Ground.phase }, { on := 10, ground := Ground.phase }, { on := 11, ground := Ground.phase }, { on := 12, ground := Ground.phase }, { on := 13, ground := Ground.phase }], guard := none }) rfl (fun K hK => ?_) AllReadyIn.nil
            go_simp
            refine hK _ _ ?_
            clear hK K
            try simp only [Act.put, List.setIfInBounds_toArray, List.set_cons_zero, List.set_cons_succ]
            refine wpAnyIn_done (by kernel_rfl) ?_ _
            gi_wp2
            all_goals
              refine ⟨((KeepsOthers.setCell _ _ _).trans (KeepsOthers.drew _)).from _, ((Below.refl w.heap.size W).setCell (p := ⟨w3.heap.size, 0, none⟩) (show w.heap.size ≤ w3.heap.size by omega) _).drew, ⟨?_, ?_, ?_⟩, (HST.out.2.2.2.setCell (p := ⟨w3.heap.size, 0, none⟩) (show w.heap.size ≤ w3.heap.size by omega) _).drew⟩
              · rw [HSN.out]; refine Eq.trans (FA.out _) ?_; congr 3; refine congrArg (fun v => [Value.int .i64 v]) ?_; omega
              · exact FB.out _
              · exact FC.out _
        · go_simp
          refine hK _ _ ?_
          clear hK K
          try simp only [Act.put, List.setIfInBounds_toArray, List.set_cons_zero, List.set_cons_succ]
          refine wpAnyIn_take (i := 6) (oi := { dst := some 39, op := Op.binOp BinOp.sub 2 (Operand.tmp 34) (Operand.tmp 38) 2, type := 2, pos := "l04_noise.go:195", after := #[{ on := 1, ground := Ground.data }, { on := 5, ground := Ground.data }], guard := none }) (v := ?_) rfl rfl (by kernel_rfl) (by kernel_rfl) (by kernel_rfl) (fun _ _ _ h => h) ⟨Or.inl ⟨by rfl, ?hy⟩, fun _ => rfl⟩ ?_
          case hy => (intro w'; go_simp; try with_reducible rfl)
          simp only [Act.put, List.setIfInBounds_toArray, List.set_cons_zero, List.set_cons_succ]
          refine wpAnyIn_ready (rs := [0, 10]) (by kernel_rfl) (by simp) ?_
          refine AllReadyIn.cons (o := { dst := some 33, op := Op.load 2 (Operand.tmp 6), type := 2, pos := "l04_noise.go:195", after := #[], guard := none }) rfl (fun K hK => ?_) (AllReadyIn.cons (o := { dst := some 43, op := Op.load 2 (Operand.tmp 42), type := 2, pos := "l04_noise.go:195", after := #[{ on := 9, ground := Ground.data }], guard := none }) rfl (fun K hK => ?_) AllReadyIn.nil)
          · go_simp
            refine hK _ _ ?_
            clear hK K
            try simp only [Act.put, List.setIfInBounds_toArray, List.set_cons_zero, List.set_cons_succ]
            refine wpAnyIn_ready (rs := [10]) (by kernel_rfl) (by simp) ?_
            refine AllReadyIn.cons (o := { dst := some 43, op := Op.load 2 (Operand.tmp 42), type := 2, pos := "l04_noise.go:195", after := #[{ on := 9, ground := Ground.data }], guard := none }) rfl (fun K hK => ?_) AllReadyIn.nil
            go_simp
            refine hK _ _ ?_
            clear hK K
            try simp only [Act.put, List.setIfInBounds_toArray, List.set_cons_zero, List.set_cons_succ]
            refine wpAnyIn_take (i := 12) (oi := { dst := some 45, op := Op.binOp BinOp.sub 2 (Operand.tmp 43) (Operand.tmp 44) 2, type := 2, pos := "l04_noise.go:195", after := #[{ on := 10, ground := Ground.data }, { on := 11, ground := Ground.data }], guard := none }) (v := ?_) rfl rfl (by kernel_rfl) (by kernel_rfl) (by kernel_rfl) (fun _ _ _ h => h) ⟨Or.inl ⟨by rfl, ?hy⟩, fun _ => rfl⟩ ?_
            case hy => (intro w'; go_simp; try with_reducible rfl)
            simp only [Act.put, List.setIfInBounds_toArray, List.set_cons_zero, List.set_cons_succ]
            refine wpAnyIn_ready (rs := [13]) (by kernel_rfl) (by simp) ?_
            refine AllReadyIn.cons (o := { dst := some 46, op := Op.call { callee := Callee.builtin Builtin.max, args := #[Operand.tmp 33, Operand.tmp 39, Operand.tmp 45], argTypes := #[2, 2, 2] }, type := 2, pos := "l04_noise.go:195", after := #[{ on := 0, ground := Ground.data }, { on := 6, ground := Ground.data }, { on := 12, ground := Ground.data }], guard := none }) rfl (fun K hK => ?_) AllReadyIn.nil
            go_simp
            refine hK _ _ ?_
            clear hK K
            try simp only [Act.put, List.setIfInBounds_toArray, List.set_cons_zero, List.set_cons_succ]
            refine wpAnyIn_ready (rs := [14]) (by kernel_rfl) (by simp) ?_
            refine AllReadyIn.cons (o := { dst := none, op := Op.store 2 (Operand.tmp 6) (Operand.tmp 46), type := 0, pos := "l04_noise.go:195", after := #[{ on := 13, ground := Ground.data }, { on := 0, ground := Ground.phase }, { on := 1, ground := Ground.phase }, { on := 2, ground := Ground.phase }, { on := 3, ground := Ground.phase }, { on := 4, ground := Ground.phase }, { on := 5, ground := Ground.phase }, { on := 6, ground := Ground.phase }, { on := 7, ground := Ground.phase }, { on := 8, ground := Ground.phase }, { on := 9, ground := Ground.phase }, { on := 10, ground := Ground.phase }, { on := 11, ground := Ground.phase }, { on := 12, ground := Ground.phase }, { on := 13, ground := Ground.phase }], guard := none }) rfl (fun K hK => ?_) AllReadyIn.nil
            go_simp
            refine hK _ _ ?_
            clear hK K
            try simp only [Act.put, List.setIfInBounds_toArray, List.set_cons_zero, List.set_cons_succ]
            refine wpAnyIn_done (by kernel_rfl) ?_ _
            gi_wp2
            all_goals
              refine ⟨((KeepsOthers.setCell _ _ _).trans (KeepsOthers.drew _)).from _, ((Below.refl w.heap.size W).setCell (p := ⟨w3.heap.size, 0, none⟩) (show w.heap.size ≤ w3.heap.size by omega) _).drew, ⟨?_, ?_, ?_⟩, (HST.out.2.2.2.setCell (p := ⟨w3.heap.size, 0, none⟩) (show w.heap.size ≤ w3.heap.size by omega) _).drew⟩
              · rw [HSN.out]; refine Eq.trans (FA.out _) ?_; congr 3; refine congrArg (fun v => [Value.int .i64 v]) ?_; omega
              · exact FB.out _
              · exact FC.out _
          · go_simp
            refine hK _ _ ?_
            clear hK K
            try simp only [Act.put, List.setIfInBounds_toArray, List.set_cons_zero, List.set_cons_succ]
            refine wpAnyIn_take (i := 12) (oi := { dst := some 45, op := Op.binOp BinOp.sub 2 (Operand.tmp 43) (Operand.tmp 44) 2, type := 2, pos := "l04_noise.go:195", after := #[{ on := 10, ground := Ground.data }, { on := 11, ground := Ground.data }], guard := none }) (v := ?_) rfl rfl (by kernel_rfl) (by kernel_rfl) (by kernel_rfl) (fun _ _ _ h => h) ⟨Or.inl ⟨by rfl, ?hy⟩, fun _ => rfl⟩ ?_
            case hy => (intro w'; go_simp; try with_reducible rfl)
            simp only [Act.put, List.setIfInBounds_toArray, List.set_cons_zero, List.set_cons_succ]
            refine wpAnyIn_ready (rs := [0]) (by kernel_rfl) (by simp) ?_
            refine AllReadyIn.cons (o := { dst := some 33, op := Op.load 2 (Operand.tmp 6), type := 2, pos := "l04_noise.go:195", after := #[], guard := none }) rfl (fun K hK => ?_) AllReadyIn.nil
            go_simp
            refine hK _ _ ?_
            clear hK K
            try simp only [Act.put, List.setIfInBounds_toArray, List.set_cons_zero, List.set_cons_succ]
            refine wpAnyIn_ready (rs := [13]) (by kernel_rfl) (by simp) ?_
            refine AllReadyIn.cons (o := { dst := some 46, op := Op.call { callee := Callee.builtin Builtin.max, args := #[Operand.tmp 33, Operand.tmp 39, Operand.tmp 45], argTypes := #[2, 2, 2] }, type := 2, pos := "l04_noise.go:195", after := #[{ on := 0, ground := Ground.data }, { on := 6, ground := Ground.data }, { on := 12, ground := Ground.data }], guard := none }) rfl (fun K hK => ?_) AllReadyIn.nil
            go_simp
            refine hK _ _ ?_
            clear hK K
            try simp only [Act.put, List.setIfInBounds_toArray, List.set_cons_zero, List.set_cons_succ]
            refine wpAnyIn_ready (rs := [14]) (by kernel_rfl) (by simp) ?_
            refine AllReadyIn.cons (o := { dst := none, op := Op.store 2 (Operand.tmp 6) (Operand.tmp 46), type := 0, pos := "l04_noise.go:195", after := #[{ on := 13, ground := Ground.data }, { on := 0, ground := Ground.phase }, { on := 1, ground := Ground.phase }, { on := 2, ground := Ground.phase }, { on := 3, ground := Ground.phase }, { on := 4, ground := Ground.phase }, { on := 5, ground := Ground.phase }, { on := 6, ground := Ground.phase }, { on := 7, ground := Ground.phase }, { on := 8, ground := Ground.phase }, { on := 9, ground := Ground.phase }, { on := 10, ground := Ground.phase }, { on := 11, ground := Ground.phase }, { on := 12, ground := Ground.phase }, { on := 13, ground := Ground.phase }], guard := none }) rfl (fun K hK => ?_) AllReadyIn.nil
            go_simp
            refine hK _ _ ?_
            clear hK K
            try simp only [Act.put, List.setIfInBounds_toArray, List.set_cons_zero, List.set_cons_succ]
            refine wpAnyIn_done (by kernel_rfl) ?_ _
            gi_wp2
            all_goals
              refine ⟨((KeepsOthers.setCell _ _ _).trans (KeepsOthers.drew _)).from _, ((Below.refl w.heap.size W).setCell (p := ⟨w3.heap.size, 0, none⟩) (show w.heap.size ≤ w3.heap.size by omega) _).drew, ⟨?_, ?_, ?_⟩, (HST.out.2.2.2.setCell (p := ⟨w3.heap.size, 0, none⟩) (show w.heap.size ≤ w3.heap.size by omega) _).drew⟩
              · rw [HSN.out]; refine Eq.trans (FA.out _) ?_; congr 3; refine congrArg (fun v => [Value.int .i64 v]) ?_; omega
              · exact FB.out _
              · exact FC.out _
        · go_simp
          refine hK _ _ ?_
          clear hK K
          try simp only [Act.put, List.setIfInBounds_toArray, List.set_cons_zero, List.set_cons_succ]
          refine wpAnyIn_take (i := 12) (oi := { dst := some 45, op := Op.binOp BinOp.sub 2 (Operand.tmp 43) (Operand.tmp 44) 2, type := 2, pos := "l04_noise.go:195", after := #[{ on := 10, ground := Ground.data }, { on := 11, ground := Ground.data }], guard := none }) (v := ?_) rfl rfl (by kernel_rfl) (by kernel_rfl) (by kernel_rfl) (fun _ _ _ h => h) ⟨Or.inl ⟨by rfl, ?hy⟩, fun _ => rfl⟩ ?_
          case hy => (intro w'; go_simp; try with_reducible rfl)
          simp only [Act.put, List.setIfInBounds_toArray, List.set_cons_zero, List.set_cons_succ]
          refine wpAnyIn_ready (rs := [0, 5]) (by kernel_rfl) (by simp) ?_
          refine AllReadyIn.cons (o := { dst := some 33, op := Op.load 2 (Operand.tmp 6), type := 2, pos := "l04_noise.go:195", after := #[], guard := none }) rfl (fun K hK => ?_) (AllReadyIn.cons (o := { dst := some 38, op := Op.load 2 (Operand.tmp 37), type := 2, pos := "l04_noise.go:195", after := #[{ on := 4, ground := Ground.data }], guard := none }) rfl (fun K hK => ?_) AllReadyIn.nil)
          · go_simp
            refine hK _ _ ?_
            clear hK K
            try simp only [Act.put, List.setIfInBounds_toArray, List.set_cons_zero, List.set_cons_succ]
            refine wpAnyIn_ready (rs := [5]) (by kernel_rfl) (by simp) ?_
            refine AllReadyIn.cons (o := { dst := some 38, op := Op.load 2 (Operand.tmp 37), type := 2, pos := "l04_noise.go:195", after := #[{ on := 4, ground := Ground.data }], guard := none }) rfl (fun K hK => ?_) AllReadyIn.nil
            go_simp
            refine hK _ _ ?_
            clear hK K
            try simp only [Act.put, List.setIfInBounds_toArray, List.set_cons_zero, List.set_cons_succ]
            refine wpAnyIn_take (i := 6) (oi := { dst := some 39, op := Op.binOp BinOp.sub 2 (Operand.tmp 34) (Operand.tmp 38) 2, type := 2, pos := "l04_noise.go:195", after := #[{ on := 1, ground := Ground.data }, { on := 5, ground := Ground.data }], guard := none }) (v := ?_) rfl rfl (by kernel_rfl) (by kernel_rfl) (by kernel_rfl) (fun _ _ _ h => h) ⟨Or.inl ⟨by rfl, ?hy⟩, fun _ => rfl⟩ ?_
            case hy => (intro w'; go_simp; try with_reducible rfl)
            simp only [Act.put, List.setIfInBounds_toArray, List.set_cons_zero, List.set_cons_succ]
            refine wpAnyIn_ready (rs := [13]) (by kernel_rfl) (by simp) ?_
            refine AllReadyIn.cons (o := { dst := some 46, op := Op.call { callee := Callee.builtin Builtin.max, args := #[Operand.tmp 33, Operand.tmp 39, Operand.tmp 45], argTypes := #[2, 2, 2] }, type := 2, pos := "l04_noise.go:195", after := #[{ on := 0, ground := Ground.data }, { on := 6, ground := Ground.data }, { on := 12, ground := Ground.data }], guard := none }) rfl (fun K hK => ?_) AllReadyIn.nil
            go_simp
            refine hK _ _ ?_
            clear hK K
            try simp only [Act.put, List.setIfInBounds_toArray, List.set_cons_zero, List.set_cons_succ]
            refine wpAnyIn_ready (rs := [14]) (by kernel_rfl) (by simp) ?_
            refine AllReadyIn.cons (o := { dst := none, op := Op.store 2 (Operand.tmp 6) (Operand.tmp 46), type := 0, pos := "l04_noise.go:195", after := #[{ on := 13, ground := Ground.data }, { on := 0, ground := Ground.phase }, { on := 1, ground := Ground.phase }, { on := 2, ground := Ground.phase }, { on := 3, ground := Ground.phase }, { on := 4, ground := Ground.phase }, { on := 5, ground := Ground.phase }, { on := 6, ground := Ground.phase }, { on := 7, ground := Ground.phase }, { on := 8, ground := Ground.phase }, { on := 9, ground := Ground.phase }, { on := 10, ground := Ground.phase }, { on := 11, ground := Ground.phase }, { on := 12, ground := Ground.phase }, { on := 13, ground := Ground.phase }], guard := none }) rfl (fun K hK => ?_) AllReadyIn.nil
            go_simp
            refine hK _ _ ?_
            clear hK K
            try simp only [Act.put, List.setIfInBounds_toArray, List.set_cons_zero, List.set_cons_succ]
            refine wpAnyIn_done (by kernel_rfl) ?_ _
            gi_wp2
            all_goals
              refine ⟨((KeepsOthers.setCell _ _ _).trans (KeepsOthers.drew _)).from _, ((Below.refl w.heap.size W).setCell (p := ⟨w3.heap.size, 0, none⟩) (show w.heap.size ≤ w3.heap.size by omega) _).drew, ⟨?_, ?_, ?_⟩, (HST.out.2.2.2.setCell (p := ⟨w3.heap.size, 0, none⟩) (show w.heap.size ≤ w3.heap.size by omega) _).drew⟩
              · rw [HSN.out]; refine Eq.trans (FA.out _) ?_; congr 3; refine congrArg (fun v => [Value.int .i64 v]) ?_; omega
              · exact FB.out _
              · exact FC.out _
          · go_simp
            refine hK _ _ ?_
            clear hK K
            try simp only [Act.put, List.setIfInBounds_toArray, List.set_cons_zero, List.set_cons_succ]
            refine wpAnyIn_take (i := 6) (oi := { dst := some 39, op := Op.binOp BinOp.sub 2 (Operand.tmp 34) (Operand.tmp 38) 2, type := 2, pos := "l04_noise.go:195", after := #[{ on := 1, ground := Ground.data }, { on := 5, ground := Ground.data }], guard := none }) (v := ?_) rfl rfl (by kernel_rfl) (by kernel_rfl) (by kernel_rfl) (fun _ _ _ h => h) ⟨Or.inl ⟨by rfl, ?hy⟩, fun _ => rfl⟩ ?_
            case hy => (intro w'; go_simp; try with_reducible rfl)
            simp only [Act.put, List.setIfInBounds_toArray, List.set_cons_zero, List.set_cons_succ]
            refine wpAnyIn_ready (rs := [0]) (by kernel_rfl) (by simp) ?_
            refine AllReadyIn.cons (o := { dst := some 33, op := Op.load 2 (Operand.tmp 6), type := 2, pos := "l04_noise.go:195", after := #[], guard := none }) rfl (fun K hK => ?_) AllReadyIn.nil
            go_simp
            refine hK _ _ ?_
            clear hK K
            try simp only [Act.put, List.setIfInBounds_toArray, List.set_cons_zero, List.set_cons_succ]
            refine wpAnyIn_ready (rs := [13]) (by kernel_rfl) (by simp) ?_
            refine AllReadyIn.cons (o := { dst := some 46, op := Op.call { callee := Callee.builtin Builtin.max, args := #[Operand.tmp 33, Operand.tmp 39, Operand.tmp 45], argTypes := #[2, 2, 2] }, type := 2, pos := "l04_noise.go:195", after := #[{ on := 0, ground := Ground.data }, { on := 6, ground := Ground.data }, { on := 12, ground := Ground.data }], guard := none }) rfl (fun K hK => ?_) AllReadyIn.nil
            go_simp
            refine hK _ _ ?_
            clear hK K
            try simp only [Act.put, List.setIfInBounds_toArray, List.set_cons_zero, List.set_cons_succ]
            refine wpAnyIn_ready (rs := [14]) (by kernel_rfl) (by simp) ?_
            refine AllReadyIn.cons (o := { dst := none, op := Op.store 2 (Operand.tmp 6) (Operand.tmp 46), type := 0, pos := "l04_noise.go:195", after := #[{ on := 13, ground := Ground.data }, { on := 0, ground := Ground.phase }, { on := 1, ground := Ground.phase }, { on := 2, ground := Ground.phase }, { on := 3, ground := Ground.phase }, { on := 4, ground := Ground.phase }, { on := 5, ground := Ground.phase }, { on := 6, ground := Ground.phase }, { on := 7, ground := Ground.phase }, { on := 8, ground := Ground.phase }, { on := 9, ground := Ground.phase }, { on := 10, ground := Ground.phase }, { on := 11, ground := Ground.phase }, { on := 12, ground := Ground.phase }, { on := 13, ground := Ground.phase }], guard := none }) rfl (fun K hK => ?_) AllReadyIn.nil
            go_simp
            refine hK _ _ ?_
            clear hK K
            try simp only [Act.put, List.setIfInBounds_toArray, List.set_cons_zero, List.set_cons_succ]
            refine wpAnyIn_done (by kernel_rfl) ?_ _
            gi_wp2
            all_goals
              refine ⟨((KeepsOthers.setCell _ _ _).trans (KeepsOthers.drew _)).from _, ((Below.refl w.heap.size W).setCell (p := ⟨w3.heap.size, 0, none⟩) (show w.heap.size ≤ w3.heap.size by omega) _).drew, ⟨?_, ?_, ?_⟩, (HST.out.2.2.2.setCell (p := ⟨w3.heap.size, 0, none⟩) (show w.heap.size ≤ w3.heap.size by omega) _).drew⟩
              · rw [HSN.out]; refine Eq.trans (FA.out _) ?_; congr 3; refine congrArg (fun v => [Value.int .i64 v]) ?_; omega
              · exact FB.out _
              · exact FC.out _
    · go_simp
      refine hK _ _ ?_
      clear hK K
      try simp only [Act.put, List.setIfInBounds_toArray, List.set_cons_zero, List.set_cons_succ]
      refine wpAnyIn_take (i := 9) (oi := { dst := some 42, op := Op.indexAddr 22 (Operand.tmp 40) (Operand.tmp 41), type := 0, pos := "l04_noise.go:195", after := #[{ on := 7, ground := Ground.data }, { on := 8, ground := Ground.data }], guard := none }) (v := ?_) rfl rfl (by kernel_rfl) (by kernel_rfl) (by kernel_rfl) (fun _ _ _ h => h) ⟨Or.inl ⟨by rfl, ?hy⟩, fun _ => rfl⟩ ?_
      case hy => (intro w'; go_simp; try with_reducible rfl)
      simp only [Act.put, List.setIfInBounds_toArray, List.set_cons_zero, List.set_cons_succ]
      refine wpAnyIn_ready (rs := [0, 2, 10]) (by kernel_rfl) (by simp) ?_
      refine AllReadyIn.cons (o := { dst := some 33, op := Op.load 2 (Operand.tmp 6), type := 2, pos := "l04_noise.go:195", after := #[], guard := none }) rfl (fun K hK => ?_) (AllReadyIn.cons (o := { dst := some 35, op := Op.load 22 (Operand.tmp 7), type := 22, pos := "l04_noise.go:195", after := #[], guard := none }) rfl (fun K hK => ?_) (AllReadyIn.cons (o := { dst := some 43, op := Op.load 2 (Operand.tmp 42), type := 2, pos := "l04_noise.go:195", after := #[{ on := 9, ground := Ground.data }], guard := none }) rfl (fun K hK => ?_) AllReadyIn.nil))
      · go_simp
        refine hK _ _ ?_
        clear hK K
        try simp only [Act.put, List.setIfInBounds_toArray, List.set_cons_zero, List.set_cons_succ]
        refine wpAnyIn_ready (rs := [2, 10]) (by kernel_rfl) (by simp) ?_
        refine AllReadyIn.cons (o := { dst := some 35, op := Op.load 22 (Operand.tmp 7), type := 22, pos := "l04_noise.go:195", after := #[], guard := none }) rfl (fun K hK => ?_) (AllReadyIn.cons (o := { dst := some 43, op := Op.load 2 (Operand.tmp 42), type := 2, pos := "l04_noise.go:195", after := #[{ on := 9, ground := Ground.data }], guard := none }) rfl (fun K hK => ?_) AllReadyIn.nil)
        · go_simp
          refine hK _ _ ?_
          clear hK K
          try simp only [Act.put, List.setIfInBounds_toArray, List.set_cons_zero, List.set_cons_succ]
          refine wpAnyIn_take (i := 4) (oi := { dst := some 37, op := Op.indexAddr 22 (Operand.tmp 35) (Operand.tmp 36), type := 0, pos := "l04_noise.go:195", after := #[{ on := 2, ground := Ground.data }, { on := 3, ground := Ground.data }], guard := none }) (v := ?_) rfl rfl (by kernel_rfl) (by kernel_rfl) (by kernel_rfl) (fun _ _ _ h => h) ⟨Or.inl ⟨by rfl, ?hy⟩, fun _ => rfl⟩ ?_
          case hy => (intro w'; go_simp; try with_reducible rfl)
          simp only [Act.put, List.setIfInBounds_toArray, List.set_cons_zero, List.set_cons_succ]
          refine wpAnyIn_ready (rs := [5, 10]) (by kernel_rfl) (by simp) ?_
          refine AllReadyIn.cons (o := { dst := some 38, op := Op.load 2 (Operand.tmp 37), type := 2, pos := "l04_noise.go:195", after := #[{ on := 4, ground := Ground.data }], guard := none }) rfl (fun K hK => ?_) (AllReadyIn.cons (o := { dst := some 43, op := Op.load 2 (Operand.tmp 42), type := 2, pos := "l04_noise.go:195", after := #[{ on := 9, ground := Ground.data }], guard := none }) rfl (fun K hK => ?_) AllReadyIn.nil)
          · go_simp
            refine hK _ _ ?_
            clear hK K
            try simp only [Act.put, List.setIfInBounds_toArray, List.set_cons_zero, List.set_cons_succ]
            refine wpAnyIn_take (i := 6) (oi := { dst := some 39, op := Op.binOp BinOp.sub 2 (Operand.tmp 34) (Operand.tmp 38) 2, type := 2, pos := "l04_noise.go:195", after := #[{ on := 1, ground := Ground.data }, { on := 5, ground := Ground.data }], guard := none }) (v := ?_) rfl rfl (by kernel_rfl) (by kernel_rfl) (by kernel_rfl) (fun _ _ _ h => h) ⟨Or.inl ⟨by rfl, ?hy⟩, fun _ => rfl⟩ ?_
            case hy => (intro w'; go_simp; try with_reducible rfl)
            simp only [Act.put, List.setIfInBounds_toArray, List.set_cons_zero, List.set_cons_succ]
            refine wpAnyIn_ready (rs := [10]) (by kernel_rfl) (by simp) ?_
            refine AllReadyIn.cons (o := { dst := some 43, op := Op.load 2 (Operand.tmp 42), type := 2, pos := "l04_noise.go:195", after := #[{ on := 9, ground := Ground.data }], guard := none }) rfl (fun K hK => ?_) AllReadyIn.nil
            go_simp
            refine hK _ _ ?_
            clear hK K
            try simp only [Act.put, List.setIfInBounds_toArray, List.set_cons_zero, List.set_cons_succ]
            refine wpAnyIn_take (i := 12) (oi := { dst := some 45, op := Op.binOp BinOp.sub 2 (Operand.tmp 43) (Operand.tmp 44) 2, type := 2, pos := "l04_noise.go:195", after := #[{ on := 10, ground := Ground.data }, { on := 11, ground := Ground.data }], guard := none }) (v := ?_) rfl rfl (by kernel_rfl) (by kernel_rfl) (by kernel_rfl) (fun _ _ _ h => h) ⟨Or.inl ⟨by rfl, ?hy⟩, fun _ => rfl⟩ ?_
            case hy => (intro w'; go_simp; try with_reducible rfl)
            simp only [Act.put, List.setIfInBounds_toArray, List.set_cons_zero, List.set_cons_succ]
            refine wpAnyIn_ready (rs := [13]) (by kernel_rfl) (by simp) ?_
            refine AllReadyIn.cons (o := { dst := some 46, op := Op.call { callee := Callee.builtin Builtin.max, args := #[Operand.tmp 33, Operand.tmp 39, Operand.tmp 45], argTypes := #[2, 2, 2] }, type := 2, pos := "l04_noise.go:195", after := #[{ on := 0, ground := Ground.data }, { on := 6, ground := Ground.data }, { on := 12, ground := Ground.data }], guard := none }) rfl (fun K hK => ?_) AllReadyIn.nil
            go_simp
            refine hK _ _ ?_
            clear hK K
            try simp only [Act.put, List.setIfInBounds_toArray, List.set_cons_zero, List.set_cons_succ]
            refine wpAnyIn_ready (rs := [14]) (by kernel_rfl) (by simp) ?_
            refine AllReadyIn.cons (o := { dst := none, op := Op.store 2 (Operand.tmp 6) (Operand.tmp 46), type := 0, pos := "l04_noise.go:195", after := #[{ on := 13, ground := Ground.data }, { on := 0, ground := Ground.phase }, { on := 1, ground := Ground.phase }, { on := 2, ground := Ground.phase }, { on := 3, ground := Ground.phase }, { on := 4, ground := Ground.phase }, { on := 5, ground := Ground.phase }, { on := 6, ground := Ground.phase }, { on := 7, ground := Ground.phase }, { on := 8, ground := Ground.phase }, { on := 9, ground := Ground.phase }, { on := 10, ground := Ground.phase }, { on := 11, ground := Ground.phase }, { on := 12, ground := Ground.phase }, { on := 13, ground := Ground.phase }], guard := none }) rfl (fun K hK => ?_) AllReadyIn.nil
            go_simp
            refine hK _ _ ?_
            clear hK K
            try simp only [Act.put, List.setIfInBounds_toArray, List.set_cons_zero, List.set_cons_succ]
            refine wpAnyIn_done (by kernel_rfl) ?_ _
            gi_wp2
            all_goals
              refine ⟨((KeepsOthers.setCell _ _ _).trans (KeepsOthers.drew _)).from _, ((Below.refl w.heap.size W).setCell (p := ⟨w3.heap.size, 0, none⟩) (show w.heap.size ≤ w3.heap.size by omega) _).drew, ⟨?_, ?_, ?_⟩, (HST.out.2.2.2.setCell (p := ⟨w3.heap.size, 0, none⟩) (show w.heap.size ≤ w3.heap.size by omega) _).drew⟩
              · rw [HSN.out]; refine Eq.trans (FA.out _) ?_; congr 3; refine congrArg (fun v => [Value.int .i64 v]) ?_; omega
              · exact FB.out _
              · exact FC.out _
          · go_simp
            refine hK _ _ ?_
            clear hK K
            try simp only [Act.put, List.setIfInBounds_toArray, List.set_cons_zero, List.set_cons_succ]
            refine wpAnyIn_take (i := 12) (oi := { dst := some 45, op := Op.binOp BinOp.sub 2 (Operand.tmp 43) (Operand.tmp 44) 2, type := 2, pos := "l04_noise.go:195", after := #[{ on := 10, ground := Ground.data }, { on := 11, ground := Ground.data }], guard := none }) (v := ?_) rfl rfl (by kernel_rfl) (by kernel_rfl) (by kernel_rfl) (fun _ _ _ h => h) ⟨Or.inl ⟨by rfl, ?hy⟩, fun _ => rfl⟩ ?_
            case hy => (intro w'; go_simp; try with_reducible rfl)
            simp only [Act.put, List.setIfInBounds_toArray, List.set_cons_zero, List.set_cons_succ]
            refine wpAnyIn_ready (rs := [5]) (by kernel_rfl) (by simp) ?_
            refine AllReadyIn.cons (o := { dst := some 38, op := Op.load 2 (Operand.tmp 37), type := 2, pos := "l04_noise.go:195", after := #[{ on := 4, ground := Ground.data }], guard := none }) rfl (fun K hK => ?_) AllReadyIn.nil
            go_simp
            refine hK _ _ ?_
            clear hK K
            try simp only [Act.put, List.setIfInBounds_toArray, List.set_cons_zero, List.set_cons_succ]
            refine wpAnyIn_take (i := 6) (oi := { dst := some 39, op := Op.binOp BinOp.sub 2 (Operand.tmp 34) (Operand.tmp 38) 2, type := 2, pos := "l04_noise.go:195", after := #[{ on := 1, ground := Ground.data }, { on := 5, ground := Ground.data }], guard := none }) (v := ?_) rfl rfl (by kernel_rfl) (by kernel_rfl) (by kernel_rfl) (fun _ _ _ h => h) ⟨Or.inl ⟨by rfl, ?hy⟩, fun _ => rfl⟩ ?_
            case hy => (intro w'; go_simp; try with_reducible rfl)
            simp only [Act.put, List.setIfInBounds_toArray, List.set_cons_zero, List.set_cons_succ]
            refine wpAnyIn_ready (rs := [13]) (by kernel_rfl) (by simp) ?_
            refine AllReadyIn.cons (o := { dst := some 46, op := Op.call { callee := Callee.builtin Builtin.max, args := #[Operand.tmp 33, Operand.tmp 39, Operand.tmp 45], argTypes := #[2, 2, 2] }, type := 2, pos := "l04_noise.go:195", after := #[{ on := 0, ground := Ground.data }, { on := 6, ground := Ground.data }, { on := 12, ground := Ground.data }], guard := none }) rfl (fun K hK => ?_) AllReadyIn.nil
            go_simp
            refine hK _ _ ?_
            clear hK K
            try simp only [Act.put, List.setIfInBounds_toArray, List.set_cons_zero, List.set_cons_succ]
            refine wpAnyIn_ready (rs := [14]) (by kernel_rfl) (by simp) ?_
            refine AllReadyIn.cons (o := { dst := none, op := Op.store 2 (Operand.tmp 6) (Operand.tmp 46), type := 0, pos := "l04_noise.go:195", after := #[{ on := 13, ground := Ground.data }, { on := 0, ground := Ground.phase }, { on := 1, ground := Ground.phase }, { on := 2, ground := Ground.phase }, { on := 3, ground := Ground.phase }, { on := 4, ground := Ground.phase }, { on := 5, ground := Ground.phase }, { on := 6, ground := Ground.phase }, { on := 7, ground := Ground.phase }, { on := 8, ground := Ground.phase }, { on := 9, ground := Ground.phase }, { on := 10, ground := Ground.phase }, { on := 11, ground := Ground.phase }, { on := 12, ground := Ground.phase }, { on := 13, ground := Ground.phase }], guard := none }) rfl (fun K hK => ?_) AllReadyIn.nil
            go_simp
            refine hK _ _ ?_
            clear hK K
            try simp only [Act.put, List.setIfInBounds_toArray, List.set_cons_zero, List.set_cons_succ]
            refine wpAnyIn_done (by kernel_rfl) ?_ _
            gi_wp2
            all_goals
              refine ⟨((KeepsOthers.setCell _ _ _).trans (KeepsOthers.drew _)).from _, ((Below.refl w.heap.size W).setCell (p := ⟨w3.heap.size, 0, none⟩) (show w.heap.size ≤ w3.heap.size by omega) _).drew, ⟨?_, ?_, ?_⟩, (HST.out.2.2.2.setCell (p := ⟨w3.heap.size, 0, none⟩) (show w.heap.size ≤ w3.heap.size by omega) _).drew⟩
              · rw [HSN.out]; refine Eq.trans (FA.out _) ?_; congr 3; refine congrArg (fun v => [Value.int .i64 v]) ?_; omega
              · exact FB.out _
              · exact FC.out _
        · go_simp
          refine hK _ _ ?_
          clear hK K
          try simp only [Act.put, List.setIfInBounds_toArray, List.set_cons_zero, List.set_cons_succ]
          refine wpAnyIn_take (i := 12) (oi := { dst := some 45, op := Op.binOp BinOp.sub 2 (Operand.tmp 43) (Operand.tmp 44) 2, type := 2, pos := "l04_noise.go:195", after := #[{ on := 10, ground := Ground.data }, { on := 11, ground := Ground.data }], guard := none }) (v := ?_) rfl rfl (by kernel_rfl) (by kernel_rfl) (by kernel_rfl) (fun _ _ _ h => h) ⟨Or.inl ⟨by rfl, ?hy⟩, fun _ => rfl⟩ ?_
          case hy => (intro w'; go_simp; try with_reducible rfl)
          simp only [Act.put, List.setIfInBounds_toArray, List.set_cons_zero, List.set_cons_succ]
          refine wpAnyIn_ready (rs := [2]) (by kernel_rfl) (by simp) ?_
          refine AllReadyIn.cons (o := { dst := some 35, op := Op.load 22 (Operand.tmp 7), type := 22, pos := "l04_noise.go:195", after := #[], guard := none }) rfl (fun K hK => ?_) AllReadyIn.nil
          go_simp
          refine hK _ _ ?_
          clear hK K
          try simp only [Act.put, List.setIfInBounds_toArray, List.set_cons_zero, List.set_cons_succ]
          refine wpAnyIn_take (i := 4) (oi := { dst := some 37, op := Op.indexAddr 22 (Operand.tmp 35) (Operand.tmp 36), type := 0, pos := "l04_noise.go:195", after := #[{ on := 2, ground := Ground.data }, { on := 3, ground := Ground.data }], guard := none }) (v := ?_) rfl rfl (by kernel_rfl) (by kernel_rfl) (by kernel_rfl) (fun _ _ _ h => h) ⟨Or.inl ⟨by rfl, ?hy⟩, fun _ => rfl⟩ ?_
          case hy => (intro w'; go_simp; try with_reducible rfl)
          simp only [Act.put, List.setIfInBounds_toArray, List.set_cons_zero, List.set_cons_succ]
          refine wpAnyIn_ready (rs := [5]) (by kernel_rfl) (by simp) ?_
          refine AllReadyIn.cons (o := { dst := some 38, op := Op.load 2 (Operand.tmp 37), type := 2, pos := "l04_noise.go:195", after := #[{ on := 4, ground := Ground.data }], guard := none }) rfl (fun K hK => ?_) AllReadyIn.nil
          go_simp
          refine hK _ _ ?_
          clear hK K
          try simp only [Act.put, List.setIfInBounds_toArray, List.set_cons_zero, List.set_cons_succ]
          refine wpAnyIn_take (i := 6) (oi := { dst := some 39, op := Op.binOp BinOp.sub 2 (Operand.tmp 34) (Operand.tmp 38) 2, type := 2, pos := "l04_noise.go:195", after := #[{ on := 1, ground := Ground.data }, { on := 5, ground := Ground.data }], guard := none }) (v := ?_) rfl rfl (by kernel_rfl) (by kernel_rfl) (by kernel_rfl) (fun _ _ _ h => h) ⟨Or.inl ⟨by rfl, ?hy⟩, fun _ => rfl⟩ ?_
          case hy => (intro w'; go_simp; try with_reducible rfl)
          simp only [Act.put, List.setIfInBounds_toArray, List.set_cons_zero, List.set_cons_succ]
          refine wpAnyIn_ready (rs := [13]) (by kernel_rfl) (by simp) ?_
          refine AllReadyIn.cons (o := { dst := some 46, op := Op.call { callee := Callee.builtin Builtin.max, args := #[Operand.tmp 33, Operand.tmp 39, Operand.tmp 45], argTypes := #[2, 2, 2] }, type := 2, pos := "l04_noise.go:195", after := #[{ on := 0, ground := Ground.data }, { on := 6, ground := Ground.data }, { on := 12, ground := Ground.data }], guard := none }) rfl (fun K hK => ?_) AllReadyIn.nil
          go_simp
          refine hK _ _ ?_
          clear hK K
          try simp only [Act.put, List.setIfInBounds_toArray, List.set_cons_zero, List.set_cons_succ]
          refine wpAnyIn_ready (rs := [14]) (by kernel_rfl) (by simp) ?_
          refine AllReadyIn.cons (o := { dst := none, op := Op.store 2 (Operand.tmp 6) (Operand.tmp 46), type := 0, pos := "l04_noise.go:195", after := #[{ on := 13, ground := Ground.data }, { on := 0, ground := Ground.phase }, { on := 1, ground := Ground.phase }, { on := 2, ground := Ground.phase }, { on := 3, ground := Ground.phase }, { on := 4, ground := Ground.phase }, { on := 5, ground := Ground.phase }, { on := 6, ground := Ground.phase }, { on := 7, ground := Ground.phase }, { on := 8, ground := Ground.phase }, { on := 9, ground := Ground.phase }, { on := 10, ground := Ground.phase }, { on := 11, ground := Ground.phase }, { on := 12, ground := Ground.phase }, { on := 13, ground := Ground.phase }], guard := none }) rfl (fun K hK => ?_) AllReadyIn.nil
          go_simp
          refine hK _ _ ?_
          clear hK K
          try simp only [Act.put, List.setIfInBounds_toArray, List.set_cons_zero, List.set_cons_succ]
          refine wpAnyIn_done (by kernel_rfl) ?_ _
          gi_wp2
          all_goals
            refine ⟨((KeepsOthers.setCell _ _ _).trans (KeepsOthers.drew _)).from _, ((Below.refl w.heap.size W).setCell (p := ⟨w3.heap.size, 0, none⟩) (show w.heap.size ≤ w3.heap.size by omega) _).drew, ⟨?_, ?_, ?_⟩, (HST.out.2.2.2.setCell (p := ⟨w3.heap.size, 0, none⟩) (show w.heap.size ≤ w3.heap.size by omega) _).drew⟩
            · rw [HSN.out]; refine Eq.trans (FA.out _) ?_; congr 3; refine congrArg (fun v => [Value.int .i64 v]) ?_; omega
            · exact FB.out _
            · exact FC.out _
      · go_simp
        refine hK _ _ ?_
        clear hK K
        try simp only [Act.put, List.setIfInBounds_toArray, List.set_cons_zero, List.set_cons_succ]
        refine wpAnyIn_take (i := 4) (oi := { dst := some 37, op := Op.indexAddr 22 (Operand.tmp 35) (Operand.tmp 36), type := 0, pos := "l04_noise.go:195", after := #[{ on := 2, ground := Ground.data }, { on := 3, ground := Ground.data }], guard := none }) (v := ?_) rfl rfl (by kernel_rfl) (by kernel_rfl) (by kernel_rfl) (fun _ _ _ h => h) ⟨Or.inl ⟨by rfl, ?hy⟩, fun _ => rfl⟩ ?_
        case hy => (intro w'; go_simp; try with_reducible rfl)
        simp only [Act.put, List.setIfInBounds_toArray, List.set_cons_zero, List.set_cons_succ]
        refine wpAnyIn_ready (rs := [0, 5, 10]) (by kernel_rfl) (by simp) ?_
        refine AllReadyIn.cons (o := { dst := some 33, op := Op.load 2 (Operand.tmp 6), type := 2, pos := "l04_noise.go:195", after := #[], guard := none }) rfl (fun K hK => ?_) (AllReadyIn.cons (o := { dst := some 38, op := Op.load 2 (Operand.tmp 37), type := 2, pos := "l04_noise.go:195", after := #[{ on := 4, ground := Ground.data }], guard := none }) rfl (fun K hK => ?_) (AllReadyIn.cons (o := { dst := some 43, op := Op.load 2 (Operand.tmp 42), type := 2, pos := "l04_noise.go:195", after := #[{ on := 9, ground := Ground.data }], guard := none }) rfl (fun K hK => ?_) AllReadyIn.nil))
        · go_simp
          refine hK _ _ ?_
          clear hK K
          try simp only [Act.put, List.setIfInBounds_toArray, List.set_cons_zero, List.set_cons_succ]
          refine wpAnyIn_ready (rs := [5, 10]) (by kernel_rfl) (by simp) ?_
          refine AllReadyIn.cons (o := { dst := some 38, op := Op.load 2 (Operand.tmp 37), type := 2, pos := "l04_noise.go:195", after := #[{ on := 4, ground := Ground.data }], guard := none }) rfl (fun K hK => ?_) (AllReadyIn.cons (o := { dst := some 43, op := Op.load 2 (Operand.tmp 42), type := 2, pos := "l04_noise.go:195", after := #[{ on := 9, ground := Ground.data }], guard := none }) rfl (fun K hK => ?_) AllReadyIn.nil)
          · go_simp
            refine hK _ _ ?_
            clear hK K
            try simp only [Act.put, List.setIfInBounds_toArray, List.set_cons_zero, List.set_cons_succ]
            refine wpAnyIn_take (i := 6) (oi := { dst := some 39, op := Op.binOp BinOp.sub 2 (Operand.tmp 34) (Operand.tmp 38) 2, type := 2, pos := "l04_noise.go:195", after := #[{ on := 1, ground := Ground.data }, { on := 5, ground := Ground.data }], guard := none }) (v := ?_) rfl rfl (by kernel_rfl) (by kernel_rfl) (by kernel_rfl) (fun _ _ _ h => h) ⟨Or.inl ⟨by rfl, ?hy⟩, fun _ => rfl⟩ ?_
            case hy => (intro w'; go_simp; try with_reducible rfl)
            simp only [Act.put, List.setIfInBounds_toArray, List.set_cons_zero, List.set_cons_succ]
            refine wpAnyIn_ready (rs := [10]) (by kernel_rfl) (by simp) ?_
            refine AllReadyIn.cons (o := { dst := some 43, op := Op.load 2 (Operand.tmp 42), type := 2, pos := "l04_noise.go:195", after := #[{ on := 9, ground := Ground.data }], guard := none }) rfl (fun K hK => ?_) AllReadyIn.nil
            go_simp
            refine hK _ _ ?_
            clear hK K
            try simp only [Act.put, List.setIfInBounds_toArray, List.set_cons_zero, List.set_cons_succ]
            refine wpAnyIn_take (i := 12) (oi := { dst := some 45, op := Op.binOp BinOp.sub 2 (Operand.tmp 43) (Operand.tmp 44) 2, type := 2, pos := "l04_noise.go:195", after := #[{ on := 10, ground := Ground.data }, { on := 11, ground := Ground.data }], guard := none }) (v := ?_) rfl rfl (by kernel_rfl) (by kernel_rfl) (by kernel_rfl) (fun _ _ _ h => h) ⟨Or.inl ⟨by rfl, ?hy⟩, fun _ => rfl⟩ ?_
            case hy => (intro w'; go_simp; try with_reducible rfl)
            simp only [Act.put, List.setIfInBounds_toArray, List.set_cons_zero, List.set_cons_succ]
            refine wpAnyIn_ready (rs := [13]) (by kernel_rfl) (by simp) ?_
            refine AllReadyIn.cons (o := { dst := some 46, op := Op.call { callee := Callee.builtin Builtin.max, args := #[Operand.tmp 33, Operand.tmp 39, Operand.tmp 45], argTypes := #[2, 2, 2] }, type := 2, pos := "l04_noise.go:195", after := #[{ on := 0, ground := Ground.data }, { on := 6, ground := Ground.data }, { on := 12, ground := Ground.data }], guard := none }) rfl (fun K hK => ?_) AllReadyIn.nil
            go_simp
            refine hK _ _ ?_
            clear hK K
            try simp only [Act.put, List.setIfInBounds_toArray, List.set_cons_zero, List.set_cons_succ]
            refine wpAnyIn_ready (rs := [14]) (by kernel_rfl) (by simp) ?_
            refine AllReadyIn.cons (o := { dst := none, op := Op.store 2 (Operand.tmp 6) (Operand.tmp 46), type := 0, pos := "l04_noise.go:195", after := #[{ on := 13, ground := Ground.data }, { on := 0, ground := Ground.phase }, { on := 1, ground := Ground.phase }, { on := 2, ground := Ground.phase }, { on := 3, ground := Ground.phase }, { on := 4, ground := Ground.phase }, { on := 5, ground := Ground.phase }, { on := 6, ground := Ground.phase }, { on := 7, ground := Ground.phase }, { on := 8, ground := Ground.phase }, { on := 9, ground := Ground.phase }, { on := 10, ground := Ground.phase }, { on := 11, ground := Ground.phase }, { on := 12, ground := Ground.phase }, { on := 13, ground := Ground.phase }], guard := none }) rfl (fun K hK => ?_) AllReadyIn.nil
            go_simp
            refine hK _ _ ?_
            clear hK K
            try simp only [Act.put, List.setIfInBounds_toArray, List.set_cons_zero, List.set_cons_succ]
            refine wpAnyIn_done (by kernel_rfl) ?_ _
            gi_wp2
            all_goals
              refine ⟨((KeepsOthers.setCell _ _ _).trans (KeepsOthers.drew _)).from _, ((Below.refl w.heap.size W).setCell (p := ⟨w3.heap.size, 0, none⟩) (show w.heap.size ≤ w3.heap.size by omega) _).drew, ⟨?_, ?_, ?_⟩, (HST.out.2.2.2.setCell (p := ⟨w3.heap.size, 0, none⟩) (show w.heap.size ≤ w3.heap.size by omega) _).drew⟩
              · rw [HSN.out]; refine Eq.trans (FA.out _) ?_; congr 3; refine congrArg (fun v => [Value.int .i64 v]) ?_; omega
              · exact FB.out _
              · exact FC.out _
          · go_simp
            refine hK _ _ ?_
            clear hK K
            try simp only [Act.put, List.setIfInBounds_toArray, List.set_cons_zero, List.set_cons_succ]
            refine wpAnyIn_take (i := 12) (oi := { dst := some 45, op := Op.binOp BinOp.sub 2 (Operand.tmp 43) (Operand.tmp 44) 2, type := 2, pos := "l04_noise.go:195", after := #[{ on := 10, ground := Ground.data }, { on := 11, ground := Ground.data }], guard := none }) (v := ?_) rfl rfl (by kernel_rfl) (by kernel_rfl) (by kernel_rfl) (fun _ _ _ h => h) ⟨Or.inl ⟨by rfl, ?hy⟩, fun _ => rfl⟩ ?_
            case hy => (intro w'; go_simp; try with_reducible rfl)
            simp only [Act.put, List.setIfInBounds_toArray, List.set_cons_zero, List.set_cons_succ]
            refine wpAnyIn_ready (rs := [5]) (by kernel_rfl) (by simp) ?_
            refine AllReadyIn.cons (o := { dst := some 38, op := Op.load 2 (Operand.tmp 37), type := 2, pos := "l04_noise.go:195", after := #[{ on := 4, ground := Ground.data }], guard := none }) rfl (fun K hK => ?_) AllReadyIn.nil
            go_simp
            refine hK _ _ ?_
            clear hK K
            try simp only [Act.put, List.setIfInBounds_toArray, List.set_cons_zero, List.set_cons_succ]
            refine wpAnyIn_take (i := 6) (oi := { dst := some 39, op := Op.binOp BinOp.sub 2 (Operand.tmp 34) (Operand.tmp 38) 2, type := 2, pos := "l04_noise.go:195", after := #[{ on := 1, ground := Ground.data }, { on := 5, ground := Ground.data }], guard := none }) (v := ?_) rfl rfl (by kernel_rfl) (by kernel_rfl) (by kernel_rfl) (fun _ _ _ h => h) ⟨Or.inl ⟨by rfl, ?hy⟩, fun _ => rfl⟩ ?_
            case hy => (intro w'; go_simp; try with_reducible rfl)
            simp only [Act.put, List.setIfInBounds_toArray, List.set_cons_zero, List.set_cons_succ]
            refine wpAnyIn_ready (rs := [13]) (by kernel_rfl) (by simp) ?_
            refine AllReadyIn.cons (o := { dst := some 46, op := Op.call { callee := Callee.builtin Builtin.max, args := #[Operand.tmp 33, Operand.tmp 39, Operand.tmp 45], argTypes := #[2, 2, 2] }, type := 2, pos := "l04_noise.go:195", after := #[{ on := 0, ground := Ground.data }, { on := 6, ground := Ground.data }, { on := 12, ground := Ground.data }], guard := none }) rfl (fun K hK => ?_) AllReadyIn.nil
            go_simp
            refine hK _ _ ?_
            clear hK K
            try simp only [Act.put, List.setIfInBounds_toArray, List.set_cons_zero, List.set_cons_succ]
            refine wpAnyIn_ready (rs := [14]) (by kernel_rfl) (by simp) ?_
            refine AllReadyIn.cons (o := { dst := none, op := Op.store 2 (Operand.tmp 6) (Operand.tmp 46), type := 0, pos := "l04_noise.go:195", after := #[{ on := 13, ground := Ground.data }, { on := 0, ground := Ground.phase }, { on := 1, ground := Ground.phase }, { on := 2, ground := Ground.phase }, { on := 3, ground := Ground.phase }, { on := 4, ground := Ground.phase }, { on := 5, ground := Ground.phase }, { on := 6, ground := Ground.phase }, { on := 7, ground := Ground.phase }, { on := 8, ground := Ground.phase }, { on := 9, ground := Ground.phase }, { on := 10, ground := Ground.phase }, { on := 11, ground := Ground.phase }, { on := 12, ground := Ground.phase }, { on := 13, ground := Ground.phase }], guard := none }) rfl (fun K hK => ?_) AllReadyIn.nil
            go_simp
            refine hK _ _ ?_
            clear hK K
            try simp only [Act.put, List.setIfInBounds_toArray, List.set_cons_zero, List.set_cons_succ]
            refine wpAnyIn_done (by kernel_rfl) ?_ _
            gi_wp2
            all_goals
              refine ⟨((KeepsOthers.setCell _ _ _).trans (KeepsOthers.drew _)).from _, ((Below.refl w.heap.size W).setCell (p := ⟨w3.heap.size, 0, none⟩) (show w.heap.size ≤ w3.heap.size by omega) _).drew, ⟨?_, ?_, ?_⟩, (HST.out.2.2.2.setCell (p := ⟨w3.heap.size, 0, none⟩) (show w.heap.size ≤ w3.heap.size by omega) _).drew⟩
              · rw [HSN.out]; refine Eq.trans (FA.out _) ?_; congr 3; refine congrArg (fun v => [Value.int .i64 v]) ?_; omega
              · exact FB.out _
              · exact FC.out _
        · go_simp
          refine hK _ _ ?_
          clear hK K
          try simp only [Act.put, List.setIfInBounds_toArray, List.set_cons_zero, List.set_cons_succ]
          refine wpAnyIn_take (i := 6) (oi := { dst := some 39, op := Op.binOp BinOp.sub 2 (Operand.tmp 34) (Operand.tmp 38) 2, type := 2, pos := "l04_noise.go:195", after := #[{ on := 1, ground := Ground.data }, { on := 5, ground := Ground.data }], guard := none }) (v := ?_) rfl rfl (by kernel_rfl) (by kernel_rfl) (by kernel_rfl) (fun _ _ _ h => h) ⟨Or.inl ⟨by rfl, ?hy⟩, fun _ => rfl⟩ ?_
          case hy => (intro w'; go_simp; try with_reducible rfl)
          simp only [Act.put, List.setIfInBounds_toArray, List.set_cons_zero, List.set_cons_succ]
          refine wpAnyIn_ready (rs := [0, 10]) (by kernel_rfl) (by simp) ?_
          refine AllReadyIn.cons (o := { dst := some 33, op := Op.load 2 (Operand.tmp 6), type := 2, pos := "l04_noise.go:195", after := #[], guard := none }) rfl (fun K hK => ?_) (AllReadyIn.cons (o := { dst := some 43, op := Op.load 2 (Operand.tmp 42), type := 2, pos := "l04_noise.go:195", after := #[{ on := 9, ground := Ground.data }], guard := none }) rfl (fun K hK => ?_) AllReadyIn.nil)
          · go_simp
            refine hK _ _ ?_
            clear hK K
            try simp only [Act.put, List.setIfInBounds_toArray, List.set_cons_zero, List.set_cons_succ]
            refine wpAnyIn_ready (rs := [10]) (by kernel_rfl) (by simp) ?_
            refine AllReadyIn.cons (o := { dst := some 43, op := Op.load 2 (Operand.tmp 42), type := 2, pos := "l04_noise.go:195", after := #[{ on := 9, ground := Ground.data }], guard := none }) rfl (fun K hK => ?_) AllReadyIn.nil
            go_simp
            refine hK _ _ ?_
            clear hK K
            try simp only [Act.put, List.setIfInBounds_toArray, List.set_cons_zero, List.set_cons_succ]
            refine wpAnyIn_take (i := 12) (oi := { dst := some 45, op := Op.binOp BinOp.sub 2 (Operand.tmp 43) (Operand.tmp 44) 2, type := 2, pos := "l04_noise.go:195", after := #[{ on := 10, ground := Ground.data }, { on := 11, ground := Ground.data }], guard := none }) (v := ?_) rfl rfl (by kernel_rfl) (by kernel_rfl) (by kernel_rfl) (fun _ _ _ h => h) ⟨Or.inl ⟨by rfl, ?hy⟩, fun _ => rfl⟩ ?_
            case hy => (intro w'; go_simp; try with_reducible rfl)
            simp only [Act.put, List.setIfInBounds_toArray, List.set_cons_zero, List.set_cons_succ]
            refine wpAnyIn_ready (rs := [13]) (by kernel_rfl) (by simp) ?_
            refine AllReadyIn.cons (o := { dst := some 46, op := Op.call { callee := Callee.builtin Builtin.max, args := #[Operand.tmp 33, Operand.tmp 39, Operand.tmp 45], argTypes := #[2, 2, 2] }, type := 2, pos := "l04_noise.go:195", after := #[{ on := 0, ground := Ground.data }, { on := 6, ground := Ground.data }, { on := 12, ground := Ground.data }], guard := none }) rfl (fun K hK => ?_) AllReadyIn.nil
            go_simp
            refine hK _ _ ?_
            clear hK K
            try simp only [Act.put, List.setIfInBounds_toArray, List.set_cons_zero, List.set_cons_succ]
            refine wpAnyIn_ready (rs := [14]) (by kernel_rfl) (by simp) ?_
            refine AllReadyIn.cons (o := { dst := none, op := Op.store 2 (Operand.tmp 6) (Operand.tmp 46), type := 0, pos := "l04_noise.go:195", after := #[{ on := 13, ground := Ground.data }, { on := 0, ground := Ground.phase }, { on := 1, ground := Ground.phase }, { on := 2, ground := Ground.phase }, { on := 3, ground := Ground.phase }, { on := 4, ground := Ground.phase }, { on := 5, ground := Ground.phase }, { on := 6, ground := Ground.phase }, { on := 7, ground := Ground.phase }, { on := 8, ground := Ground.phase }, { on := 9, ground := Ground.phase }, { on := 10, ground := Ground.phase }, { on := 11, ground := Ground.phase }, { on := 12, ground := Ground.phase }, { on := 13, ground := Ground.phase }], guard := none }) rfl (fun K hK => ?_) AllReadyIn.nil
            go_simp
            refine hK _ _ ?_
            clear hK K
            try simp only [Act.put, List.setIfInBounds_toArray, List.set_cons_zero, List.set_cons_succ]
            refine wpAnyIn_done (by kernel_rfl) ?_ _
            gi_wp2
            all_goals
              refine ⟨((KeepsOthers.setCell _ _ _).trans (KeepsOthers.drew _)).from _, ((Below.refl w.heap.size W).setCell (p := ⟨w3.heap.size, 0, none⟩) (show w.heap.size ≤ w3.heap.size by omega) _).drew, ⟨?_, ?_, ?_⟩, (HST.out.2.2.2.setCell (p := ⟨w3.heap.size, 0, none⟩) (show w.heap.size ≤ w3.heap.size by omega) _).drew⟩
              · rw [HSN.out]; refine Eq.trans (FA.out _) ?_; congr 3; refine congrArg (fun v => [Value.int .i64 v]) ?_; omega
              · exact FB.out _
              · exact FC.out _
          · go_simp
            refine hK _ _ ?_
            clear hK K
            try simp only [Act.put, List.setIfInBounds_toArray, List.set_cons_zero, List.set_cons_succ]
            refine wpAnyIn_take (i := 12) (oi := { dst := some 45, op := Op.binOp BinOp.sub 2 (Operand.tmp 43) (Operand.tmp 44) 2, type := 2, pos := "l04_noise.go:195", after := #[{ on := 10, ground := Ground.data }, { on := 11, ground := Ground.data }], guard := none }) (v := ?_) rfl rfl (by kernel_rfl) (by kernel_rfl) (by kernel_rfl) (fun _ _ _ h => h) ⟨Or.inl ⟨by rfl, ?hy⟩, fun _ => rfl⟩ ?_
            case hy => (intro w'; go_simp; try with_reducible rfl)
            simp only [Act.put, List.setIfInBounds_toArray, List.set_cons_zero, List.set_cons_succ]
            refine wpAnyIn_ready (rs := [0]) (by kernel_rfl) (by simp) ?_
            refine AllReadyIn.cons (o := { dst := some 33, op := Op.load 2 (Operand.tmp 6), type := 2, pos := "l04_noise.go:195", after := #[], guard := none }) rfl (fun K hK => ?_) AllReadyIn.nil
            go_simp
            refine hK _ _ ?_
            clear hK K
            try simp only [Act.put, List.setIfInBounds_toArray, List.set_cons_zero, List.set_cons_succ]
            refine wpAnyIn_ready (rs := [13]) (by kernel_rfl) (by simp) ?_
            refine AllReadyIn.cons (o := { dst := some 46, op := Op.call { callee := Callee.builtin Builtin.max, args := #[Operand.tmp 33, Operand.tmp 39, Operand.tmp 45], argTypes := #[2, 2, 2] }, type := 2, pos := "l04_noise.go:195", after := #[{ on := 0, ground := Ground.data }, { on := 6, ground := Ground.data }, { on := 12, ground := Ground.data }], guard := none }) rfl (fun K hK => ?_) AllReadyIn.nil
            go_simp
            refine hK _ _ ?_
            clear hK K
            try simp only [Act.put, List.setIfInBounds_toArray, List.set_cons_zero, List.set_cons_succ]
            refine wpAnyIn_ready (rs := [14]) (by kernel_rfl) (by simp) ?_
            refine AllReadyIn.cons (o := { dst := none, op := Op.store 2 (Operand.tmp 6) (Operand.tmp 46), type := 0, pos := "l04_noise.go:195", after := #[{ on := 13, ground := Ground.data }, { on := 0, ground := Ground.phase }, { on := 1, ground := Ground.phase }, { on := 2, ground := Ground.phase }, { on := 3, ground := Ground.phase }, { on := 4, ground := Ground.phase }, { on := 5, ground := Ground.phase }, { on := 6, ground := Ground.phase }, { on := 7, ground := Ground.phase }, { on := 8, ground := Ground.phase }, { on := 9, ground := Ground.phase }, { on := 10, ground := Ground.phase }, { on := 11, ground := Ground.phase }, { on := 12, ground := Ground.phase }, { on := 13, ground := Ground.phase }], guard := none }) rfl (fun K hK => ?_) AllReadyIn.nil
            go_simp
            refine hK _ _ ?_
            clear hK K
            try simp only [Act.put, List.setIfInBounds_toArray, List.set_cons_zero, List.set_cons_succ]
            refine wpAnyIn_done (by kernel_rfl) ?_ _
            gi_wp2
            all_goals
              refine ⟨((KeepsOthers.setCell _ _ _).trans (KeepsOthers.drew _)).from _, ((Below.refl w.heap.size W).setCell (p := ⟨w3.heap.size, 0, none⟩) (show w.heap.size ≤ w3.heap.size by omega) _).drew, ⟨?_, ?_, ?_⟩, (HST.out.2.2.2.setCell (p := ⟨w3.heap.size, 0, none⟩) (show w.heap.size ≤ w3.heap.size by omega) _).drew⟩
              · rw [HSN.out]; refine Eq.trans (FA.out _) ?_; congr 3; refine congrArg (fun v => [Value.int .i64 v]) ?_; omega
              · exact FB.out _
              · exact FC.out _
        · go_simp
          refine hK _ _ ?_
          clear hK K
          try simp only [Act.put, List.setIfInBounds_toArray, List.set_cons_zero, List.set_cons_succ]
          refine wpAnyIn_take (i := 12) (oi := { dst := some 45, op := Op.binOp BinOp.sub 2 (Operand.tmp 43) (Operand.tmp 44) 2, type := 2, pos := "l04_noise.go:195", after := #[{ on := 10, ground := Ground.data }, { on := 11, ground := Ground.data }], guard := none }) (v := ?_) rfl rfl (by kernel_rfl) (by kernel_rfl) (by kernel_rfl) (fun _ _ _ h => h) ⟨Or.inl ⟨by rfl, ?hy⟩, fun _ => rfl⟩ ?_
          case hy => (intro w'; go_simp; try with_reducible rfl)
          simp only [Act.put, List.setIfInBounds_toArray, List.set_cons_zero, List.set_cons_succ]
          refine wpAnyIn_ready (rs := [0, 5]) (by kernel_rfl) (by simp) ?_
          refine AllReadyIn.cons (o := { dst := some 33, op := Op.load 2 (Operand.tmp 6), type := 2, pos := "l04_noise.go:195", after := #[], guard := none }) rfl (fun K hK => ?_) (AllReadyIn.cons (o := { dst := some 38, op := Op.load 2 (Operand.tmp 37), type := 2, pos := "l04_noise.go:195", after := #[{ on := 4, ground := Ground.data }], guard := none }) rfl (fun K hK => ?_) AllReadyIn.nil)
          · go_simp
            refine hK _ _ ?_
            clear hK K
            try simp only [Act.put, List.setIfInBounds_toArray, List.set_cons_zero, List.set_cons_succ]
            refine wpAnyIn_ready (rs := [5]) (by kernel_rfl) (by simp) ?_
            refine AllReadyIn.cons (o := { dst := some 38, op := Op.load 2 (Operand.tmp 37), type := 2, pos := "l04_noise.go:195", after := #[{ on := 4, ground := Ground.data }], guard := none }) rfl (fun K hK => ?_) AllReadyIn.nil
            go_simp
            refine hK _ _ ?_
            clear hK K
            try simp only [Act.put, List.setIfInBounds_toArray, List.set_cons_zero, List.set_cons_succ]
            refine wpAnyIn_take (i := 6) (oi := { dst := some 39, op := Op.binOp BinOp.sub 2 (Operand.tmp 34) (Operand.tmp 38) 2, type := 2, pos := "l04_noise.go:195", after := #[{ on := 1, ground := Ground.data }, { on := 5, ground := Ground.data }], guard := none }) (v := ?_) rfl rfl (by kernel_rfl) (by kernel_rfl) (by kernel_rfl) (fun _ _ _ h => h) ⟨Or.inl ⟨by rfl, ?hy⟩, fun _ => rfl⟩ ?_
            case hy => (intro w'; go_simp; try with_reducible rfl)
            simp only [Act.put, List.setIfInBounds_toArray, List.set_cons_zero, List.set_cons_succ]
            refine wpAnyIn_ready (rs := [13]) (by kernel_rfl) (by simp) ?_
            refine AllReadyIn.cons (o := { dst := some 46, op := Op.call { callee := Callee.builtin Builtin.max, args := #[Operand.tmp 33, Operand.tmp 39, Operand.tmp 45], argTypes := #[2, 2, 2] }, type := 2, pos := "l04_noise.go:195", after := #[{ on := 0, ground := Ground.data }, { on := 6, ground := Ground.data }, { on := 12, ground := Ground.data }], guard := none }) rfl (fun K hK => ?_) AllReadyIn.nil
            go_simp
            refine hK _ _ ?_
            clear hK K
            try simp only [Act.put, List.setIfInBounds_toArray, List.set_cons_zero, List.set_cons_succ]
            refine wpAnyIn_ready (rs := [14]) (by kernel_rfl) (by simp) ?_
            refine AllReadyIn.cons (o := { dst := none, op := Op.store 2 (Operand.tmp 6) (Operand.tmp 46), type := 0, pos := "l04_noise.go:195", after := #[{ on := 13, ground := Ground.data }, { on := 0, ground := Ground.phase }, { on := 1, ground := Ground.phase }, { on := 2, ground := Ground.phase }, { on := 3, ground := Ground.phase }, { on := 4, ground := Ground.phase }, { on := 5, ground := Ground.phase }, { on := 6, ground := Ground.phase }, { on := 7, ground := Ground.phase }, { on := 8, ground := Ground.phase }, { on := 9, ground := Ground.phase }, { on := 10, ground := Ground.phase }, { on := 11, ground := Ground.phase }, { on := 12, ground := Ground.phase }, { on := 13, ground := Ground.phase }], guard := none }) rfl (fun K hK => ?_) AllReadyIn.nil
            go_simp
            refine hK _ _ ?_
            clear hK K
            try simp only [Act.put, List.setIfInBounds_toArray, List.set_cons_zero, List.set_cons_succ]
            refine wpAnyIn_done (by kernel_rfl) ?_ _
            gi_wp2
            all_goals
              refine ⟨((KeepsOthers.setCell _ _ _).trans (KeepsOthers.drew _)).from _, ((Below.refl w.heap.size W).setCell (p := ⟨w3.heap.size, 0, none⟩) (show w.heap.size ≤ w3.heap.size by omega) _).drew, ⟨?_, ?_, ?_⟩, (HST.out.2.2.2.setCell (p := ⟨w3.heap.size, 0, none⟩) (show w.heap.size ≤ w3.heap.size by omega) _).drew⟩
              · rw [HSN.out]; refine Eq.trans (FA.out _) ?_; congr 3; refine congrArg (fun v => [Value.int .i64 v]) ?_; omega
              · exact FB.out _
              · exact FC.out _
          · go_simp
            refine hK _ _ ?_
            clear hK K
            try simp only [Act.put, List.setIfInBounds_toArray, List.set_cons_zero, List.set_cons_succ]
            refine wpAnyIn_take (i := 6) (oi := { dst := some 39, op := Op.binOp BinOp.sub 2 (Operand.tmp 34) (Operand.tmp 38) 2, type := 2, pos := "l04_noise.go:195", after := #[{ on := 1, ground := Ground.data }, { on := 5, ground := Ground.data }], guard := none }) (v := ?_) rfl rfl (by kernel_rfl) (by kernel_rfl) (by kernel_rfl) (fun _ _ _ h => h) ⟨Or.inl ⟨by rfl, ?hy⟩, fun _ => rfl⟩ ?_
            case hy => (intro w'; go_simp; try with_reducible rfl)
            simp only [Act.put, List.setIfInBounds_toArray, List.set_cons_zero, List.set_cons_succ]
            refine wpAnyIn_ready (rs := [0]) (by kernel_rfl) (by simp) ?_
            refine AllReadyIn.cons (o := { dst := some 33, op := Op.load 2 (Operand.tmp 6), type := 2, pos := "l04_noise.go:195", after := #[], guard := none }) rfl (fun K hK => ?_) AllReadyIn.nil
            go_simp
            refine hK _ _ ?_
            clear hK K
            try simp only [Act.put, List.setIfInBounds_toArray, List.set_cons_zero, List.set_cons_succ]
            refine wpAnyIn_ready (rs := [13]) (by kernel_rfl) (by simp) ?_
            refine AllReadyIn.cons (o := { dst := some 46, op := Op.call { callee := Callee.builtin Builtin.max, args := #[Operand.tmp 33, Operand.tmp 39, Operand.tmp 45], argTypes := #[2, 2, 2] }, type := 2, pos := "l04_noise.go:195", after := #[{ on := 0, ground := Ground.data }, { on := 6, ground := Ground.data }, { on := 12, ground := Ground.data }], guard := none }) rfl (fun K hK => ?_) AllReadyIn.nil
            go_simp
            refine hK _ _ ?_
            clear hK K
            try simp only [Act.put, List.setIfInBounds_toArray, List.set_cons_zero, List.set_cons_succ]
            refine wpAnyIn_ready (rs := [14]) (by kernel_rfl) (by simp) ?_
            refine AllReadyIn.cons (o := { dst := none, op := Op.store 2 (Operand.tmp 6) (Operand.tmp 46), type := 0, pos := "l04_noise.go:195", after := #[{ on := 13, ground := Ground.data }, { on := 0, ground := Ground.phase }, { on := 1, ground := Ground.phase }, { on := 2, ground := Ground.phase }, { on := 3, ground := Ground.phase }, { on := 4, ground := Ground.phase }, { on := 5, ground := Ground.phase }, { on := 6, ground := Ground.phase }, { on := 7, ground := Ground.phase }, { on := 8, ground := Ground.phase }, { on := 9, ground := Ground.phase }, { on := 10, ground := Ground.phase }, { on := 11, ground := Ground.phase }, { on := 12, ground := Ground.phase }, { on := 13, ground := Ground.phase }], guard := none }) rfl (fun K hK => ?_) AllReadyIn.nil
            go_simp
            refine hK _ _ ?_
            clear hK K
            try simp only [Act.put, List.setIfInBounds_toArray, List.set_cons_zero, List.set_cons_succ]
            refine wpAnyIn_done (by kernel_rfl) ?_ _
            gi_wp2
            all_goals
              refine ⟨((KeepsOthers.setCell _ _ _).trans (KeepsOthers.drew _)).from _, ((Below.refl w.heap.size W).setCell (p := ⟨w3.heap.size, 0, none⟩) (show w.heap.size ≤ w3.heap.size by omega) _).drew, ⟨?_, ?_, ?_⟩, (HST.out.2.2.2.setCell (p := ⟨w3.heap.size, 0, none⟩) (show w.heap.size ≤ w3.heap.size by omega) _).drew⟩
              · rw [HSN.out]; refine Eq.trans (FA.out _) ?_; congr 3; refine congrArg (fun v => [Value.int .i64 v]) ?_; omega
              · exact FB.out _
              · exact FC.out _
      · go_simp
        refine hK _ _ ?_
        clear hK K
        try simp only [Act.put, List.setIfInBounds_toArray, List.set_cons_zero, List.set_cons_succ]
        refine wpAnyIn_take (i := 12) (oi := { dst := some 45, op := Op.binOp BinOp.sub 2 (Operand.tmp 43) (Operand.tmp 44) 2, type := 2, pos := "l04_noise.go:195", after := #[{ on := 10, ground := Ground.data }, { on := 11, ground := Ground.data }], guard := none }) (v := ?_) rfl rfl (by kernel_rfl) (by kernel_rfl) (by kernel_rfl) (fun _ _ _ h => h) ⟨Or.inl ⟨by rfl, ?hy⟩, fun _ => rfl⟩ ?_
        case hy => (intro w'; go_simp; try with_reducible rfl)
        simp only [Act.put, List.setIfInBounds_toArray, List.set_cons_zero, List.set_cons_succ]
        refine wpAnyIn_ready (rs := [0, 2]) (by kernel_rfl) (by simp) ?_
        refine AllReadyIn.cons (o := { dst := some 33, op := Op.load 2 (Operand.tmp 6), type := 2, pos := "l04_noise.go:195", after := #[], guard := none }) rfl (fun K hK => ?_) (AllReadyIn.cons (o := { dst := some 35, op := Op.load 22 (Operand.tmp 7), type := 22, pos := "l04_noise.go:195", after := #[], guard := none }) rfl (fun K hK => ?_) AllReadyIn.nil)
        · go_simp
          refine hK _ _ ?_
          clear hK K
          try simp only [Act.put, List.setIfInBounds_toArray, List.set_cons_zero, List.set_cons_succ]
          refine wpAnyIn_ready (rs := [2]) (by kernel_rfl) (by simp) ?_
          refine AllReadyIn.cons (o := { dst := some 35, op := Op.load 22 (Operand.tmp 7), type := 22, pos := "l04_noise.go:195", after := #[], guard := none }) rfl (fun K hK => ?_) AllReadyIn.nil
          go_simp
          refine hK _ _ ?_
          clear hK K
          try simp only [Act.put, List.setIfInBounds_toArray, List.set_cons_zero, List.set_cons_succ]
          refine wpAnyIn_take (i := 4) (oi := { dst := some 37, op := Op.indexAddr 22 (Operand.tmp 35) (Operand.tmp 36), type := 0, pos := "l04_noise.go:195", after := #[{ on := 2, ground := Ground.data }, { on := 3, ground := Ground.data }], guard := none }) (v := ?_) rfl rfl (by kernel_rfl) (by kernel_rfl) (by kernel_rfl) (fun _ _ _ h => h) ⟨Or.inl ⟨by rfl, ?hy⟩, fun _ => rfl⟩ ?_
          case hy => (intro w'; go_simp; try with_reducible rfl)
          simp only [Act.put, List.setIfInBounds_toArray, List.set_cons_zero, List.set_cons_succ]
          refine wpAnyIn_ready (rs := [5]) (by kernel_rfl) (by simp) ?_
          refine AllReadyIn.cons (o := { dst := some 38, op := Op.load 2 (Operand.tmp 37), type := 2, pos := "l04_noise.go:195", after := #[{ on := 4, ground := Ground.data }], guard := none }) rfl (fun K hK => ?_) AllReadyIn.nil
          go_simp
          refine hK _ _ ?_
          clear hK K
          try simp only [Act.put, List.setIfInBounds_toArray, List.set_cons_zero, List.set_cons_succ]
          refine wpAnyIn_take (i := 6) (oi := { dst := some 39, op := Op.binOp BinOp.sub 2 (Operand.tmp 34) (Operand.tmp 38) 2, type := 2, pos := "l04_noise.go:195", after := #[{ on := 1, ground := Ground.data }, { on := 5, ground := Ground.data }], guard := none }) (v := ?_) rfl rfl (by kernel_rfl) (by kernel_rfl) (by kernel_rfl) (fun _ _ _ h => h) ⟨Or.inl ⟨by rfl, ?hy⟩, fun _ => rfl⟩ ?_
          case hy => (intro w'; go_simp; try with_reducible rfl)
          simp only [Act.put, List.setIfInBounds_toArray, List.set_cons_zero, List.set_cons_succ]
          refine wpAnyIn_ready (rs := [13]) (by kernel_rfl) (by simp) ?_
          refine AllReadyIn.cons (o := { dst := some 46, op := Op.call { callee := Callee.builtin Builtin.max, args := #[Operand.tmp 33, Operand.tmp 39, Operand.tmp 45], argTypes := #[2, 2, 2] }, type := 2, pos := "l04_noise.go:195", after := #[{ on := 0, ground := Ground.data }, { on := 6, ground := Ground.data }, { on := 12, ground := Ground.data }], guard := none }) rfl (fun K hK => ?_) AllReadyIn.nil
          go_simp
          refine hK _ _ ?_
          clear hK K
          try simp only [Act.put, List.setIfInBounds_toArray, List.set_cons_zero, List.set_cons_succ]
          refine wpAnyIn_ready (rs := [14]) (by kernel_rfl) (by simp) ?_
          refine AllReadyIn.cons (o := { dst := none, op := Op.store 2 (Operand.tmp 6) (Operand.tmp 46), type := 0, pos := "l04_noise.go:195", after := #[{ on := 13, ground := Ground.data }, { on := 0, ground := Ground.phase }, { on := 1, ground := Ground.phase }, { on := 2, ground := Ground.phase }, { on := 3, ground := Ground.phase }, { on := 4, ground := Ground.phase }, { on := 5, ground := Ground.phase }, { on := 6, ground := Ground.phase }, { on := 7, ground := Ground.phase }, { on := 8, ground := Ground.phase }, { on := 9, ground := Ground.phase }, { on := 10, ground := Ground.phase }, { on := 11, ground := Ground.phase }, { on := 12, ground := Ground.phase }, { on := 13, ground := Ground.phase }], guard := none }) rfl (fun K hK => ?_) AllReadyIn.nil
          go_simp
          refine hK _ _ ?_
          clear hK K
          try simp only [Act.put, List.setIfInBounds_toArray, List.set_cons_zero, List.set_cons_succ]
          refine wpAnyIn_done (by kernel_rfl) ?_ _
          gi_wp2
          all_goals
            refine ⟨((KeepsOthers.setCell _ _ _).trans (KeepsOthers.drew _)).from _, ((Below.refl w.heap.size W).setCell (p := ⟨w3.heap.size, 0, none⟩) (show w.heap.size ≤ w3.heap.size by omega) _).drew, ⟨?_, ?_, ?_⟩, (HST.out.2.2.2.setCell (p := ⟨w3.heap.size, 0, none⟩) (show w.heap.size ≤ w3.heap.size by omega) _).drew⟩
            · rw [HSN.out]; refine Eq.trans (FA.out _) ?_; congr 3; refine congrArg (fun v => [Value.int .i64 v]) ?_; omega
            · exact FB.out _
            · exact FC.out _
        · go_simp
          refine hK _ _ ?_
          clear hK K
          try simp only [Act.put, List.setIfInBounds_toArray, List.set_cons_zero, List.set_cons_succ]
          refine wpAnyIn_take (i := 4) (oi := { dst := some 37, op := Op.indexAddr 22 (Operand.tmp 35) (Operand.tmp 36), type := 0, pos := "l04_noise.go:195", after := #[{ on := 2, ground := Ground.data }, { on := 3, ground := Ground.data }], guard := none }) (v := ?_) rfl rfl (by kernel_rfl) (by kernel_rfl) (by kernel_rfl) (fun _ _ _ h => h) ⟨Or.inl ⟨by rfl, ?hy⟩, fun _ => rfl⟩ ?_
          case hy => (intro w'; go_simp; try with_reducible rfl)
          simp only [Act.put, List.setIfInBounds_toArray, List.set_cons_zero, List.set_cons_succ]
          refine wpAnyIn_ready (rs := [0, 5]) (by kernel_rfl) (by simp) ?_
          refine AllReadyIn.cons (o := { dst := some 33, op := Op.load 2 (Operand.tmp 6), type := 2, pos := "l04_noise.go:195", after := #[], guard := none }) rfl (fun K hK => ?_) (AllReadyIn.cons (o := { dst := some 38, op := Op.load 2 (Operand.tmp 37), type := 2, pos := "l04_noise.go:195", after := #[{ on := 4, ground := Ground.data }], guard := none }) rfl (fun K hK => ?_) AllReadyIn.nil)
          · go_simp
            refine hK _ _ ?_
            clear hK K
            try simp only [Act.put, List.setIfInBounds_toArray, List.set_cons_zero, List.set_cons_succ]
            refine wpAnyIn_ready (rs := [5]) (by kernel_rfl) (by simp) ?_
            refine AllReadyIn.cons (o := { dst := some 38, op := Op.load 2 (Operand.tmp 37), type := 2, pos := "l04_noise.go:195", after := #[{ on := 4, ground := Ground.data }], guard := none }) rfl (fun K hK => ?_) AllReadyIn.nil
            go_simp
            refine hK _ _ ?_
            clear hK K
            try simp only [Act.put, List.setIfInBounds_toArray, List.set_cons_zero, List.set_cons_succ]
            refine wpAnyIn_take (i := 6) (oi := { dst := some 39, op := Op.binOp BinOp.sub 2 (Operand.tmp 34) (Operand.tmp 38) 2, type := 2, pos := "l04_noise.go:195", after := #[{ on := 1, ground := Ground.data }, { on := 5, ground := Ground.data }], guard := none }) (v := ?_) rfl rfl (by kernel_rfl) (by kernel_rfl) (by kernel_rfl) (fun _ _ _ h => h) ⟨Or.inl ⟨by rfl, ?hy⟩, fun _ => rfl⟩ ?_
            case hy => (intro w'; go_simp; try with_reducible rfl)
            simp only [Act.put, List.setIfInBounds_toArray, List.set_cons_zero, List.set_cons_succ]
            refine wpAnyIn_ready (rs := [13]) (by kernel_rfl) (by simp) ?_
            refine AllReadyIn.cons (o := { dst := some 46, op := Op.call { callee := Callee.builtin Builtin.max, args := #[Operand.tmp 33, Operand.tmp 39, Operand.tmp 45], argTypes := #[2, 2, 2] }, type := 2, pos := "l04_noise.go:195", after := #[{ on := 0, ground := Ground.data }, { on := 6, ground := Ground.data }, { on := 12, ground := Ground.data }], guard := none }) rfl (fun K hK => ?_) AllReadyIn.nil
            go_simp
            refine hK _ _ ?_
            clear hK K
            try simp only [Act.put, List.setIfInBounds_toArray, List.set_cons_zero, List.set_cons_succ]
            refine wpAnyIn_ready (rs := [14]) (by kernel_rfl) (by simp) ?_
            refine AllReadyIn.cons (o := { dst := none, op := Op.store 2 (Operand.tmp 6) (Operand.tmp 46), type := 0, pos := "l04_noise.go:195", after := #[{ on := 13, ground := Ground.data }, { on := 0, ground := Ground.phase }, { on := 1, ground := Ground.phase }, { on := 2, ground := Ground.phase }, { on := 3, ground := Ground.phase }, { on := 4, ground := Ground.phase }, { on := 5, ground := Ground.phase }, { on := 6, ground := Ground.phase }, { on := 7, ground := Ground.phase }, { on := 8, ground := Ground.phase }, { on := 9, ground := Ground.phase }, { on := 10, ground := Ground.phase }, { on := 11, ground := Ground.phase }, { on := 12, ground := Ground.phase }, { on := 13, ground := Ground.phase }], guard := none }) rfl (fun K hK => ?_) AllReadyIn.nil
            go_simp
            refine hK _ _ ?_
            clear hK K
            try simp only [Act.put, List.setIfInBounds_toArray, List.set_cons_zero, List.set_cons_succ]
            refine wpAnyIn_done (by kernel_rfl) ?_ _
            gi_wp2
            all_goals
              refine ⟨((KeepsOthers.setCell _ _ _).trans (KeepsOthers.drew _)).from _, ((Below.refl w.heap.size W).setCell (p := ⟨w3.heap.size, 0, none⟩) (show w.heap.size ≤ w3.heap.size by omega) _).drew, ⟨?_, ?_, ?_⟩, (HST.out.2.2.2.setCell (p := ⟨w3.heap.size, 0, none⟩) (show w.heap.size ≤ w3.heap.size by omega) _).drew⟩
              · rw [HSN.out]; refine Eq.trans (FA.out _) ?_; congr 3; refine congrArg (fun v => [Value.int .i64 v]) ?_; omega
              · exact FB.out _
              · exact FC.out _
          · go_simp
            refine hK _ _ ?_
            clear hK K
            try simp only [Act.put, List.setIfInBounds_toArray, List.set_cons_zero, List.set_cons_succ]
            refine wpAnyIn_take (i := 6) (oi := { dst := some 39, op := Op.binOp BinOp.sub 2 (Operand.tmp 34) (Operand.tmp 38) 2, type := 2, pos := "l04_noise.go:195", after := #[{ on := 1, ground := Ground.data }, { on := 5, ground := Ground.data }], guard := none }) (v := ?_) rfl rfl (by kernel_rfl) (by kernel_rfl) (by kernel_rfl) (fun _ _ _ h => h) ⟨Or.inl ⟨by rfl, ?hy⟩, fun _ => rfl⟩ ?_
            case hy => (intro w'; go_simp; try with_reducible rfl)
            simp only [Act.put, List.setIfInBounds_toArray, List.set_cons_zero, List.set_cons_succ]
            refine wpAnyIn_ready (rs := [0]) (by kernel_rfl) (by simp) ?_
            refine AllReadyIn.cons (o := { dst := some 33, op := Op.load 2 (Operand.tmp 6), type := 2, pos := "l04_noise.go:195", after := #[], guard := none }) rfl (fun K hK => ?_) AllReadyIn.nil
            go_simp
            refine hK _ _ ?_
            clear hK K
            try simp only [Act.put, List.setIfInBounds_toArray, List.set_cons_zero, List.set_cons_succ]
            refine wpAnyIn_ready (rs := [13]) (by kernel_rfl) (by simp) ?_
            refine AllReadyIn.cons (o := { dst := some 46, op := Op.call { callee := Callee.builtin Builtin.max, args := #[Operand.tmp 33, Operand.tmp 39, Operand.tmp 45], argTypes := #[2, 2, 2] }, type := 2, pos := "l04_noise.go:195", after := #[{ on := 0, ground := Ground.data }, { on := 6, ground := Ground.data }, { on := 12, ground := Ground.data }], guard := none }) rfl (fun K hK => ?_) AllReadyIn.nil
            go_simp
            refine hK _ _ ?_
            clear hK K
            try simp only [Act.put, List.setIfInBounds_toArray, List.set_cons_zero, List.set_cons_succ]
            refine wpAnyIn_ready (rs := [14]) (by kernel_rfl) (by simp) ?_
            refine AllReadyIn.cons (o := { dst := none, op := Op.store 2 (Operand.tmp 6) (Operand.tmp 46), type := 0, pos := "l04_noise.go:195", after := #[{ on := 13, ground := Ground.data }, { on := 0, ground := Ground.phase }, { on := 1, ground := Ground.phase }, { on := 2, ground := Ground.phase }, { on := 3, ground := Ground.phase }, { on := 4, ground := Ground.phase }, { on := 5, ground := Ground.phase }, { on := 6, ground := Ground.phase }, { on := 7, ground := Ground.phase }, { on := 8, ground := Ground.phase }, { on := 9, ground := Ground.phase }, { on := 10, ground := Ground.phase }, { on := 11, ground := Ground.phase }, { on := 12, ground := Ground.phase }, { on := 13, ground := Ground.phase }], guard := none }) rfl (fun K hK => ?_) AllReadyIn.nil
            go_simp
            refine hK _ _ ?_
            clear hK K
            try simp only [Act.put, List.setIfInBounds_toArray, List.set_cons_zero, List.set_cons_succ]
            refine wpAnyIn_done (by kernel_rfl) ?_ _
            gi_wp2
            all_goals
              refine ⟨((KeepsOthers.setCell _ _ _).trans (KeepsOthers.drew _)).from _, ((Below.refl w.heap.size W).setCell (p := ⟨w3.heap.size, 0, none⟩) (show w.heap.size ≤ w3.heap.size by omega) _).drew, ⟨?_, ?_, ?_⟩, (HST.out.2.2.2.setCell (p := ⟨w3.heap.size, 0, none⟩) (show w.heap.size ≤ w3.heap.size by omega) _).drew⟩
              · rw [HSN.out]; refine Eq.trans (FA.out _) ?_; congr 3; refine congrArg (fun v => [Value.int .i64 v]) ?_; omega
              · exact FB.out _
              · exact FC.out _
  case done =>
    rintro D ys' W hD rfl ⟨⟨h6, h7, hg2⟩, hB⟩ hK
    have k6 : W.cell? ⟨w3.heap.size, 0, none⟩ = some (.int .i64 (jtP f0 xs0 ys (rnds xs0.length xs0.length))) := by unfold cellsAt at h6; simp [World.cell?, h6]
    rw [jtP_rnds f0 xs0 ys xs0.length (Nat.le_refl _), ← hYS.out] at k6
    clear h6 h7 hg2
    gi_wp2
    refine ⟨by simp, .inl ⟨_, _, rfl, run_takeDeferred hK, ?_⟩⟩
    refine ⟨_, results_tmp2 rfl _ _ _, rfl, hB.trans (belowK_b (w := w) (Nat.le_refl _) W D _ _ (by omega) hK rfl rfl)⟩
  case stop =>
    rintro D c pre W _ _ h _
    exact h.elim
set_option maxHeartbeats 8000000 in
theorem jitterBetween_any (c0 f0 : Int) (s0 : Option Addr) (cap0 : Nat) (xs0 : List Int) (c1 f1 : Int) (s1 : Option Addr) (cap1 : Nat) (xs1 : List Int) (hl0 : xs0.length ≤ 1048576) (hl1 : xs1.length ≤ 1048576) (w : World) (h0 : SlA w s0 xs0) (h1 : SlA w s1 xs1) :
    Calls Try.prog 7 #[.agg #[.int .i64 c0, .int .i64 f0, .slice s0 xs0.length cap0], .agg #[.int .i64 c1, .int .i64 f1, .slice s1 xs1.length cap1]] w fun e w' => e = .returned (.tuple #[.int .i64 (jtV c0 f0 xs0 c1 f1 xs1), .bool (jtOk c0 f0 xs0 c1 f1 xs1)]) ∧ Below w.heap.size w w' := by
  have VA := Lib.hid (fun W (hb : Below w.heap.size w W) => validFlux_any c0 f0 s0 xs0 cap0 W hl0 (h0.below hb (Nat.le_refl _)))
  have VB := Lib.hid (fun W (hb : Below w.heap.size w W) => validFlux_any c1 f1 s1 xs1 cap1 W hl1 (h1.below hb (Nat.le_refl _)))
  have B0 := Lib.hid ((FluxAt.new w c0 f0 s0 xs0.length cap0 28 w.heap.size rfl).below (Below.alloc (Below.refl _ _) (Nat.le_refl _) (.cells #[.int .i64 c1, .int .i64 f1, .slice s1 xs1.length cap1] 28)) (by simp))
  have B1 := Lib.hid (FluxAt.new (w.alloc (.cells #[.int .i64 c0, .int .i64 f0, .slice s0 xs0.length cap0] 28)) c1 f1 s1 xs1.length cap1 28 (w.heap.size + 1) (by simp))
  by_cases hv0 : fluxOk c0 f0 xs0 = true
  case neg =>
    have hv0 : fluxOk c0 f0 xs0 = false := by simpa using hv0
    have hJ : jtOk c0 f0 xs0 c1 f1 xs1 = false := by unfold jtOk; rw [hv0]; rfl
    have hV : jtV c0 f0 xs0 c1 f1 xs1 = 0 := by unfold jtV; rw [hJ]; rfl
    rw [hJ, hV]
    rw [hv0] at VA
    clear hv0 hJ hV h0 h1
    obtain ⟨p0, p1, p2⟩ := B0.out
    obtain ⟨r0, r1, r2⟩ := B1.out
    go_enter Try.func7, Try.ntmps7
    go_wp2_with fail
    refine (VA.out _ (by go_grown)).mono ?_
    rintro e w1 ⟨rfl, hb1⟩
    go_wp2
    go_ret2
    exact ⟨rfl, Below.trans (by go_grown) (hb1.mono (by simp; omega))⟩
  rw [hv0] at VA
  by_cases hv1 : fluxOk c1 f1 xs1 = true
  case neg =>
    have hv1 : fluxOk c1 f1 xs1 = false := by simpa using hv1
    have hJ : jtOk c0 f0 xs0 c1 f1 xs1 = false := by unfold jtOk; rw [hv1, hv0]; rfl
    have hV : jtV c0 f0 xs0 c1 f1 xs1 = 0 := by unfold jtV; rw [hJ]; rfl
    rw [hJ, hV]
    rw [hv1] at VB
    clear hv0 hv1 hJ hV h0 h1
    obtain ⟨p0, p1, p2⟩ := B0.out
    obtain ⟨r0, r1, r2⟩ := B1.out
    go_enter Try.func7, Try.ntmps7
    go_wp2_with fail
    refine (VA.out _ (by go_grown)).mono ?_
    rintro e w1 ⟨rfl, hb1⟩
    have FB1 := Lib.hid (show Below w.heap.size w w1 from Below.trans (by go_grown) (hb1.mono (by simp; omega)))
    replace B1 := Lib.hid (B1.out.below hb1 (by simp))
    clear hb1 p0 p1 p2 r0 r1 r2
    obtain ⟨r0, r1, r2⟩ := B1.out
    go_wp2_with fail
    refine (VB.out _ FB1.out).mono ?_
    rintro e w2 ⟨rfl, hb2⟩
    go_wp2
    go_ret2
    exact ⟨rfl, FB1.out.trans (hb2.mono FB1.out.size)⟩
  rw [hv1] at VB
  by_cases hln : xs0.length = xs1.length
  case neg =>
    have hJ : jtOk c0 f0 xs0 c1 f1 xs1 = false := by unfold jtOk; simp [hln]
    have hV : jtV c0 f0 xs0 c1 f1 xs1 = 0 := by unfold jtV; rw [hJ]; rfl
    have hnl : ((xs0.length : Int) != (xs1.length : Int)) = true := by simp; omega
    rw [hJ, hV]
    clear hv0 hv1 hJ hV h0 h1 hln
    obtain ⟨p0, p1, p2⟩ := B0.out
    obtain ⟨r0, r1, r2⟩ := B1.out
    go_enter Try.func7, Try.ntmps7
    go_wp2_with fail
    refine (VA.out _ (by go_grown)).mono ?_
    rintro e w1 ⟨rfl, hb1⟩
    have FB1 := Lib.hid (show Below w.heap.size w w1 from Below.trans (by go_grown) (hb1.mono (by simp; omega)))
    replace B0 := Lib.hid (B0.out.below hb1 (by simp; omega))
    replace B1 := Lib.hid (B1.out.below hb1 (by simp))
    clear hb1 p0 p1 p2 r0 r1 r2
    obtain ⟨p0, p1, p2⟩ := B0.out
    obtain ⟨r0, r1, r2⟩ := B1.out
    go_wp2_with fail
    refine (VB.out _ FB1.out).mono ?_
    rintro e w2 ⟨rfl, hb2⟩
    have FB2 := Lib.hid (FB1.out.trans (hb2.mono FB1.out.size))
    replace B0 := Lib.hid (B0.out.below hb2 B0.out.lt)
    replace B1 := Lib.hid (B1.out.below hb2 B1.out.lt)
    clear hb2 p0 p1 p2 r0 r1 r2 FB1
    obtain ⟨p0, p1, p2⟩ := B0.out
    obtain ⟨r0, r1, r2⟩ := B1.out
    go_wp2
    go_ret2
    exact ⟨rfl, FB2.out⟩
  have hJ : jtOk c0 f0 xs0 c1 f1 xs1 = true := by unfold jtOk; simp [hv0, hv1, hln]
  have hV : jtV c0 f0 xs0 c1 f1 xs1 = jtK (timesOf f0 xs0) (timesOf f1 xs1) xs0.length := by unfold jtV; rw [hJ]; rfl
  rw [hJ, hV]
  exact callsIn_wide.1 (jit_in c0 f0 s0 cap0 xs0 c1 f1 s1 cap1 xs1 hl0 hl1 hv0 hv1 hln w h0 h1)
end Go.Proofs.Ytlpmoiicindiiaa
