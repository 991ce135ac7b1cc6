/- (impl.times).flux -/
import Derived.Test.YtfedlehibkgjbaaDoorOwnI
import Derived.Test.YtfedlehibkgjbaaDoorSpecOk
namespace Go.Proofs.YtfedlehibkgjbaaDoor
open Go.RowKit
set_option linter.unusedVariables false
/-- The gap behind change i of the times ts in a revolution. -/
def gapAt (ts : List Int) (rev : Int) (i : Nat) : Int := ts[i + 1]?.getD (ts[0]?.getD 0 + rev) - ts[i]?.getD 0
def gapsOf (ts : List Int) (rev : Int) : List Int := (List.range ts.length).map (gapAt ts rev)
theorem gapsOf_length (ts : List Int) (rev : Int) : (gapsOf ts rev).length = ts.length := by simp [gapsOf]
theorem gapsOf_at (ts : List Int) (rev : Int) (i : Nat) (h : i < ts.length) : (gapsOf ts rev)[i]? = some (gapAt ts rev i) := by
  simp [gapsOf, h]
theorem gapAt_mid {ts : List Int} {rev : Int} {i : Nat} {x y : Int} (h1 : ts[i]? = some x) (h2 : ts[i + 1]? = some y) : gapAt ts rev i = y - x := by simp [gapAt, h1, h2]
theorem gapAt_end {ts : List Int} {rev : Int} {i : Nat} {x y : Int} (h1 : ts[i]? = some x) (h2 : ts[0]? = some y) (hn : ¬ i + 1 < ts.length) : gapAt ts rev i = y + rev - x := by
  have h3 : ts[i + 1]? = none := by simp; omega
  simp [gapAt, h1, h2, h3]
/-- The numbers are small enough for no sum of a few to overflow. -/
def Mild (ts : List Int) : Prop := ∀ x ∈ ts, -1099511627776 ≤ x ∧ x ≤ 1099511627776
theorem Mild.at {ts : List Int} (h : Mild ts) {i : Nat} {x : Int} (hx : ts[i]? = some x) : -1099511627776 ≤ x ∧ x ≤ 1099511627776 := h x (List.mem_of_getElem? hx)
theorem heap_alloc_new' (w : World) (o : Obj) (n : Nat) (h : w.heap.size = n) : (w.alloc o).heap[n]? = some o := by
  subst h; exact heap_alloc_new w o
theorem FluxAt.setCell {w : World} {p : Nat} {c f : Int} {a : Option Addr} {n d : Nat} (h : FluxAt w p c f a n d) {q : Addr} (v : Value) (hq : p ≠ q.block) : FluxAt (w.setCell q v) p c f a n d := by
  have e : ∀ o, (w.setCell q v).cell? ⟨p, o, none⟩ = w.cell? ⟨p, o, none⟩ := fun o => World.cell?_of_block (Below.heap_setCell w q v p hq)
  unfold FluxAt
  rw [e, e, e]
  exact h
theorem RowAt.setCell {w : World} {g : Nat} {zs : List Int} (h : RowAt w g zs) {q : Addr} (v : Value) (hq : g ≠ q.block) : RowAt (w.setCell q v) g zs := by
  unfold RowAt
  rw [Below.heap_setCell w q v g hq]; exact h
theorem RowAt.set3 {w : World} {g p : Nat} {zs : List Int} (h : RowAt w g zs) (x y z : Value) (hq : g ≠ p) : RowAt (((w.setCell ⟨p, 0, none⟩ x).setCell ⟨p, 1, none⟩ y).setCell ⟨p, 2, none⟩ z) g zs :=
  ((h.setCell x hq).setCell y hq).setCell z hq
def TimesFluxPost (c f : Int) (zs : List Int) (w : World) (e : Ending) (w' : World) : Prop :=
  ∃ g, e = .returned (.agg #[.int .i64 c, .int .i64 f, .slice (some ⟨g, 0, none⟩) zs.length zs.length]) ∧ RowAt w' g zs ∧ w.heap.size ≤ g ∧ Below w.heap.size w w'
set_option maxHeartbeats 1000000 in
theorem timesFlux_any (a : Option Addr) (ts : List Int) (d : Nat) (rev c f : Int) (w : World) (hl : ts.length ≤ 1048576) (hf : ts[0]? = some f) (hm : Mild ts) (hr0 : -1099511627776 ≤ rev) (hr1 : rev ≤ 1099511627776) (h : SlA w a ts) :
    Calls Tryd.prog 36 #[.slice a ts.length d, .int .i64 rev, .int .i64 c] w (TimesFluxPost c f (gapsOf ts rev) w) := by
  obtain ⟨b, off, rfl, hcf⟩ := h.cell hf
  have hmk := fun w => run_make_row' (P := Tryd.prog) 22 2 (.int .i64 0) 8 Tryd.underlying22 i64info rfl .i64 .i64 ts.length (by omega) (by omega) w
  have hf1 := hm.at hf
  have hn0 : 0 < ts.length := (List.getElem?_eq_some_iff.1 hf).1
  have hbl : b < w.heap.size := World.block_lt_of_cell? w _ hcf
  have HF := Lib.hid hf; clear hf
  have hcf0 : ∀ w' (_ : Below w.heap.size w w'), w'.cell? ⟨b, off, none⟩ = some (.int .i64 f) := fun w' hb => by rw [hb.cell (p := ⟨b, off, none⟩) hbl]; simpa using hcf
  have HCF := Lib.hid hcf0; clear hcf0
  have H := Lib.hid (And.intro h hm); clear h hm
  go_enter Tryd.func36, Tryd.ntmps36
  go_wp2
  clear hmk
  have hsz0 : (gapsOf ts rev).length = ts.length := gapsOf_length _ _
  have hz : madeCells #[Value.int .i64 0] ts.length = cpRow (gapsOf ts rev) 0 := by rw [← hsz0]; exact cpRow_zero _
  rw [hz]
  clear hz
  go_loopw [8, 9, 15] (fun _ _ i wr => ∃ k : Nat, k ≤ ts.length ∧ i = .int .i64 k ∧ wr.heap[w.heap.size + 1]? = some (.cells (cpRow (gapsOf ts rev) k) 2 (0, 0)) ∧ Below w.heap.size w wr ∧ wr.heap[w.heap.size]? = some (.cells #[.int .i64 0, .int .i64 0, .slice none 0 0] 24 (0, 0))) (fun _ _ i _ => ts.length - (intOf i).toNat)
  case atStart =>
    refine ⟨0, Nat.zero_le _, rfl, ?_, by go_grown, ?_⟩
    · exact heap_alloc_new' _ _ _ (by simp)
    · rw [Below.heap_alloc _ _ _ (by simp)]; exact heap_alloc_new w _
  case round =>
    obtain ⟨k, hk, rfl, hC, hb, hF⟩ := hrel
    by_cases hlt : k < ts.length
    · obtain ⟨x, hx⟩ := getOf hlt
      have hx1 := H.out.2.at hx
      obtain ⟨b1, off1, hbo, hcx⟩ := (H.out.1.below hb (Nat.le_refl _)).cell hx
      simp only [Option.some.injEq, Addr.mk.injEq, and_true] at hbo
      obtain ⟨rfl, rfl⟩ := hbo
      have HX := Lib.hid hx; clear hx
      have hc0 := HCF.out wr hb
      have hold : (cpRow (gapsOf ts rev) k)[k]?.isSome = true := by simp [cpRow, hsz0]; omega
      obtain ⟨old, hold⟩ := Option.isSome_iff_exists.1 hold
      have hcell : wr.cell? ⟨w.heap.size + 1, k, none⟩ = some old := by simp [World.cell?, hC, hold]
      have hfz : wr.frozen? ⟨w.heap.size + 1, k, none⟩ = false := by simp [World.frozen?, hC]
      have HC := Lib.hid hC; clear hC hold
      have HFA := Lib.hid hF; clear hF
      by_cases hlast : k + 1 < ts.length
      · obtain ⟨y, hy⟩ := getOf hlast
        have hy1 := H.out.2.at hy
        obtain ⟨b1, off1, hbo, hcy⟩ := (H.out.1.below hb (Nat.le_refl _)).cell hy
        simp only [Option.some.injEq, Addr.mk.injEq, and_true] at hbo
        obtain ⟨rfl, rfl⟩ := hbo
        have HY := Lib.hid hy; clear hy
        have HG := Lib.hid (gapsOf_at ts rev k hlt); have HM := Lib.hid (gapAt_mid (rev := rev) HX.out HY.out)
        have hi1 : ((k : Int) + 1).toNat = k + 1 := by omega
        go_wp2
        go_roundw
        case rel =>
          refine ⟨k + 1, by omega, by go_num, ?_, hb.setCell (by simp) _, ?_⟩
          · rw [heap_set_row wr _ k _ _ _ HC.out, ← HM.out, cpRow_succ _ _ _ HG.out]
          · rw [Below.heap_setCell _ _ _ _ (by simp)]; exact HFA.out
        case measure => simp [intOf]; omega
      · have HG := Lib.hid (gapsOf_at ts rev k hlt); have HM := Lib.hid (gapAt_end (rev := rev) HX.out HF.out hlast)
        go_wp2
        go_roundw
        case rel =>
          refine ⟨k + 1, by omega, by go_num, ?_, hb.setCell (by simp) _, ?_⟩
          · rw [heap_set_row wr _ k _ _ _ HC.out, ← HM.out, cpRow_succ _ _ _ HG.out]
          · rw [Below.heap_setCell _ _ _ _ (by simp)]; exact HFA.out
        case measure => simp [intOf]; omega
    · obtain rfl : k = ts.length := by omega
      have hc0 := HCF.out wr hb
      have hrow : RowAt wr (w.heap.size + 1) (gapsOf ts rev) := by
        unfold RowAt
        have e := cpRow_all (gapsOf ts rev)
        rw [hsz0] at e
        rw [hC, e]
      have z0 : wr.cell? ⟨w.heap.size, 0, none⟩ = some (.int .i64 0) := by simp [World.cell?, hF]
      have z1 : wr.cell? ⟨w.heap.size, 1, none⟩ = some (.int .i64 0) := by simp [World.cell?, hF]
      have z2 : wr.cell? ⟨w.heap.size, 2, none⟩ = some (.slice none 0 0) := by simp [World.cell?, hF]
      have y0 : wr.frozen? ⟨w.heap.size, 0, none⟩ = false := by simp [World.frozen?, hF]
      have y1 : wr.frozen? ⟨w.heap.size, 1, none⟩ = false := by simp [World.frozen?, hF]
      have y2 : wr.frozen? ⟨w.heap.size, 2, none⟩ = false := by simp [World.frozen?, hF]
      clear hC hF
      go_wp2
      refine bodyPost_ret (v := .agg #[.int .i64 c, .int .i64 f, .slice (some ⟨w.heap.size + 1, 0, none⟩) ts.length ts.length]) (by simp [results, Tryd.results36, go_sem, z0, z1, z2]) rfl ⟨_, by rw [hsz0], ?_, by omega, ?_⟩
      · exact hrow.set3 _ _ _ (by simp)
      · exact ((hb.setCell (by simp) _).setCell (by simp) _).setCell (by simp) _
end Go.Proofs.YtfedlehibkgjbaaDoor
