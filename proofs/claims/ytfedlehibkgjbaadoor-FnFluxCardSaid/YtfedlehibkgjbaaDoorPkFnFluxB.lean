/- (impl.times).flux -/
import Derived.Test.YtfedlehibkgjbaaDoorPkFnFluxA
import Derived.Laws.RangeAny
import Derived.Laws.RangeString
import Derived.Lib.OthersKept
import Derived.RangeFuncNested
import Derived.RangeFuncBound
import Derived.RangeFuncCalls
import Derived.RangeFuncLeaves
import Derived.RangeFuncBox
import Derived.Shelf.Abstract
import Derived.WalkKit
import Derived.OwnWalkIn
import Derived.TacticsInMore
import Derived.LoopNIn
import Derived.LoopIn
section
set_option linter.unusedVariables false
namespace Go.Proofs.YtfedlehibkgjbaaDoor
open Go.RowKit
/-- The gap behind change i of the times ts in a revolution. -/
def gapAt (ts : List Int) (rev : Int) (i : Nat) : Int := ts[i + 1]?.getD (ts[0]?.getD 0 + rev) - ts[i]?.getD 0
def gapsOf (ts : List Int) (rev : Int) : List Int := (List.range ts.length).map (gapAt ts rev)
theorem gapsOf_length (ts : List Int) (rev : Int) : (gapsOf ts rev).length = ts.length := by simp [gapsOf]
theorem gapsOf_at (ts : List Int) (rev : Int) (i : Nat) (h : i < ts.length) : (gapsOf ts rev)[i]? = some (gapAt ts rev i) := by
  simp [gapsOf, h]
theorem gapAt_mid {ts : List Int} {rev : Int} {i : Nat} {x y : Int} (h1 : ts[i]? = some x) (h2 : ts[i + 1]? = some y) : gapAt ts rev i = y - x := by simp [gapAt, h1, h2]
theorem gapAt_end {ts : List Int} {rev : Int} {i : Nat} {x y : Int} (h1 : ts[i]? = some x) (h2 : ts[0]? = some y) (hn : ¬ i + 1 < ts.length) : gapAt ts rev i = y + rev - x := by
  have h3 : ts[i + 1]? = none := by simp; omega
  simp [gapAt, h1, h2, h3]
/-- The numbers are small enough for no sum of a few to overflow. -/
def Mild (ts : List Int) : Prop := ∀ x ∈ ts, -1099511627776 ≤ x ∧ x ≤ 1099511627776
theorem Mild.at {ts : List Int} (h : Mild ts) {i : Nat} {x : Int} (hx : ts[i]? = some x) : -1099511627776 ≤ x ∧ x ≤ 1099511627776 := h x (List.mem_of_getElem? hx)
theorem heap_alloc_new' (w : World) (o : Obj) (n : Nat) (h : w.heap.size = n) : (w.alloc o).heap[n]? = some o := by
  subst h; exact heap_alloc_new w o
theorem FluxAt.setCell {w : World} {p : Nat} {c f : Int} {a : Option Addr} {n d : Nat} (h : FluxAt w p c f a n d) {q : Addr} (v : Value) (hq : p ≠ q.block) : FluxAt (w.setCell q v) p c f a n d := by
  have e : ∀ o, (w.setCell q v).cell? ⟨p, o, none⟩ = w.cell? ⟨p, o, none⟩ := fun o => World.cell?_of_block (Below.heap_setCell w q v p hq)
  unfold FluxAt
  rw [e, e, e]
  exact h
theorem RowAt.setCell {w : World} {g : Nat} {zs : List Int} (h : RowAt w g zs) {q : Addr} (v : Value) (hq : g ≠ q.block) : RowAt (w.setCell q v) g zs := by
  unfold RowAt
  rw [Below.heap_setCell w q v g hq]; exact h
theorem RowAt.set3 {w : World} {g p : Nat} {zs : List Int} (h : RowAt w g zs) (x y z : Value) (hq : g ≠ p) : RowAt (((w.setCell ⟨p, 0, none⟩ x).setCell ⟨p, 1, none⟩ y).setCell ⟨p, 2, none⟩ z) g zs :=
  ((h.setCell x hq).setCell y hq).setCell z hq
def TimesFluxPost (c f : Int) (zs : List Int) (w : World) (e : Ending) (w' : World) : Prop :=
  ∃ g, e = .returned (.agg #[.int .i64 c, .int .i64 f, .slice (some ⟨g, 0, none⟩) zs.length zs.length]) ∧ RowAt w' g zs ∧ w.heap.size ≤ g ∧ Below w.heap.size w w'
set_option maxHeartbeats 1000000 in
theorem timesFlux_any (a : Option Addr) (ts : List Int) (d : Nat) (rev c f : Int) (w : World) (hl : ts.length ≤ 1048576) (hf : ts[0]? = some f) (hm : Mild ts) (hr0 : -1099511627776 ≤ rev) (hr1 : rev ≤ 1099511627776) (h : SlA w a ts) :
    Calls Tryd.prog 36 #[.slice a ts.length d, .int .i64 rev, .int .i64 c] w (TimesFluxPost c f (gapsOf ts rev) w) := by
  obtain ⟨b, off, rfl, hcf⟩ := h.cell hf
  have hmk := fun w => run_make_row' (P := Tryd.prog) 22 2 (.int .i64 0) 8 Tryd.underlying22 i64info rfl .i64 .i64 ts.length (by omega) (by omega) w
  have hf1 := hm.at hf
  have hn0 : 0 < ts.length := (List.getElem?_eq_some_iff.1 hf).1
  have hbl : b < w.heap.size := World.block_lt_of_cell? w _ hcf
  have HF := Lib.hid hf; clear hf
  have hcf0 : ∀ w' (_ : Below w.heap.size w w'), w'.cell? ⟨b, off, none⟩ = some (.int .i64 f) := fun w' hb => by rw [hb.cell (p := ⟨b, off, none⟩) hbl]; simpa using hcf
  have HCF := Lib.hid hcf0; clear hcf0
  have H := Lib.hid (And.intro h hm); clear h hm
  go_enter Tryd.func36, Tryd.ntmps36
  go_wp2
  clear hmk
  have hsz0 : (gapsOf ts rev).length = ts.length := gapsOf_length _ _
  have hz : madeCells #[Value.int .i64 0] ts.length = cpRow (gapsOf ts rev) 0 := by rw [← hsz0]; exact cpRow_zero _
  rw [hz]
  clear hz
  go_loopw [8, 9, 15] (fun _ _ i wr => ∃ k : Nat, k ≤ ts.length ∧ i = .int .i64 k ∧ wr.heap[w.heap.size + 1]? = some (.cells (cpRow (gapsOf ts rev) k) 2 (0, 0)) ∧ Below w.heap.size w wr ∧ wr.heap[w.heap.size]? = some (.cells #[.int .i64 0, .int .i64 0, .slice none 0 0] 24 (0, 0))) (fun _ _ i _ => ts.length - (intOf i).toNat)
  case atStart =>
    refine ⟨0, Nat.zero_le _, rfl, ?_, by go_grown, ?_⟩
    · exact heap_alloc_new' _ _ _ (by simp)
    · rw [Below.heap_alloc _ _ _ (by simp)]; exact heap_alloc_new w _
  case round =>
    obtain ⟨k, hk, rfl, hC, hb, hF⟩ := hrel
    by_cases hlt : k < ts.length
    · obtain ⟨x, hx⟩ := getOf hlt
      have hx1 := H.out.2.at hx
      obtain ⟨b1, off1, hbo, hcx⟩ := (H.out.1.below hb (Nat.le_refl _)).cell hx
      simp only [Option.some.injEq, Addr.mk.injEq, and_true] at hbo
      obtain ⟨rfl, rfl⟩ := hbo
      have HX := Lib.hid hx; clear hx
      have hc0 := HCF.out wr hb
      have hold : (cpRow (gapsOf ts rev) k)[k]?.isSome = true := by simp [cpRow, hsz0]; omega
      obtain ⟨old, hold⟩ := Option.isSome_iff_exists.1 hold
      have hcell : wr.cell? ⟨w.heap.size + 1, k, none⟩ = some old := by simp [World.cell?, hC, hold]
      have hfz : wr.frozen? ⟨w.heap.size + 1, k, none⟩ = false := by simp [World.frozen?, hC]
      have HC := Lib.hid hC; clear hC hold
      have HFA := Lib.hid hF; clear hF
      by_cases hlast : k + 1 < ts.length
      · obtain ⟨y, hy⟩ := getOf hlast
        have hy1 := H.out.2.at hy
        obtain ⟨b1, off1, hbo, hcy⟩ := (H.out.1.below hb (Nat.le_refl _)).cell hy
        simp only [Option.some.injEq, Addr.mk.injEq, and_true] at hbo
        obtain ⟨rfl, rfl⟩ := hbo
        have HY := Lib.hid hy; clear hy
        have HG := Lib.hid (gapsOf_at ts rev k hlt); have HM := Lib.hid (gapAt_mid (rev := rev) HX.out HY.out)
        have hi1 : ((k : Int) + 1).toNat = k + 1 := by omega
        go_wp2
        go_roundw
        case rel =>
          refine ⟨k + 1, by omega, by go_num, ?_, hb.setCell (by simp) _, ?_⟩
          · rw [heap_set_row wr _ k _ _ _ HC.out, ← HM.out, cpRow_succ _ _ _ HG.out]
          · rw [Below.heap_setCell _ _ _ _ (by simp)]; exact HFA.out
        case measure => simp [intOf]; omega
      · have HG := Lib.hid (gapsOf_at ts rev k hlt); have HM := Lib.hid (gapAt_end (rev := rev) HX.out HF.out hlast)
        go_wp2
        go_roundw
        case rel =>
          refine ⟨k + 1, by omega, by go_num, ?_, hb.setCell (by simp) _, ?_⟩
          · rw [heap_set_row wr _ k _ _ _ HC.out, ← HM.out, cpRow_succ _ _ _ HG.out]
          · rw [Below.heap_setCell _ _ _ _ (by simp)]; exact HFA.out
        case measure => simp [intOf]; omega
    · obtain rfl : k = ts.length := by omega
      have hc0 := HCF.out wr hb
      have hrow : RowAt wr (w.heap.size + 1) (gapsOf ts rev) := by
        unfold RowAt
        have e := cpRow_all (gapsOf ts rev)
        rw [hsz0] at e
        rw [hC, e]
      have z0 : wr.cell? ⟨w.heap.size, 0, none⟩ = some (.int .i64 0) := by simp [World.cell?, hF]
      have z1 : wr.cell? ⟨w.heap.size, 1, none⟩ = some (.int .i64 0) := by simp [World.cell?, hF]
      have z2 : wr.cell? ⟨w.heap.size, 2, none⟩ = some (.slice none 0 0) := by simp [World.cell?, hF]
      have y0 : wr.frozen? ⟨w.heap.size, 0, none⟩ = false := by simp [World.frozen?, hF]
      have y1 : wr.frozen? ⟨w.heap.size, 1, none⟩ = false := by simp [World.frozen?, hF]
      have y2 : wr.frozen? ⟨w.heap.size, 2, none⟩ = false := by simp [World.frozen?, hF]
      clear hC hF
      go_wp2
      refine bodyPost_ret (v := .agg #[.int .i64 c, .int .i64 f, .slice (some ⟨w.heap.size + 1, 0, none⟩) ts.length ts.length]) (by simp [results, Tryd.results36, go_sem, z0, z1, z2]) rfl ⟨_, by rw [hsz0], ?_, by omega, ?_⟩
      · exact hrow.set3 _ _ _ (by simp)
      · exact ((hb.setCell (by simp) _).setCell (by simp) _).setCell (by simp) _
end Go.Proofs.YtfedlehibkgjbaaDoor
end
section
set_option linter.unusedVariables false
namespace Go.Proofs.YtfedlehibkgjbaaDoor
open Go.RowKit
theorem OwnI.form {w : World} {B : Nat} {v : Value} {l : List Int} (h : OwnI w B v l) : ∃ a c, v = .slice a l.length c := by
  obtain ⟨a, c, e, _⟩ := h.slO; exact ⟨a, c, e⟩
theorem OwnI.below {w w' : World} {B C : Nat} {v : Value} {l : List Int} (h : OwnI w B v l) (hb : Below C w w') (hC : w.heap.size ≤ C) : OwnI w' B v l := by
  refine ⟨h.1, ?_⟩
  rcases h.2 with h2 | ⟨g, cap, cur, rfl, hg, hh, r⟩
  · exact .inl h2
  · have hl : g < w.heap.size := (Array.getElem?_eq_some_iff.1 hh).1
    exact .inr ⟨g, cap, cur, rfl, hg, by rw [hb.block g (by omega)]; exact hh, r⟩
/-- A flux and a code: what FluxOf and others answer. -/
structure FluxVal where
  cell : Int
  first : Int
  gaps : List Int
  code : Int
def FluxVal.none (code : Int) : FluxVal := ⟨0, 0, [], code⟩
/-- The call has returned this flux, in memory of its own, and this code. -/
def FluxRes (r : FluxVal) (w : World) (e : Ending) (w' : World) : Prop :=
  ∃ a cap, e = .returned (.tuple #[.agg #[.int .i64 r.cell, .int .i64 r.first, .slice a r.gaps.length cap], .int .i64 r.code]) ∧ SlO w' w.heap.size a r.gaps ∧ Below w.heap.size w w'
/-- The zero flux in a cell of its own. -/
def ZeroAt (w : World) (p : Nat) : Prop := w.heap[p]? = some (.cells #[.int .i64 0, .int .i64 0, .slice none 0 0] 24 (0, 0))
theorem ZeroAt.facts {w : World} {p : Nat} (h : ZeroAt w p) : w.cell? ⟨p, 0, none⟩ = some (.int .i64 0) ∧ w.cell? ⟨p, 1, none⟩ = some (.int .i64 0) ∧ w.cell? ⟨p, 2, none⟩ = some (.slice none 0 0) ∧
    w.frozen? ⟨p, 0, none⟩ = false ∧ w.frozen? ⟨p, 1, none⟩ = false ∧ w.frozen? ⟨p, 2, none⟩ = false := by
  unfold ZeroAt at h
  simp [World.cell?, World.frozen?, h]
theorem ZeroAt.below {w w' : World} {B p : Nat} (h : ZeroAt w p) (hb : Below B w w') (hp : p < B) : ZeroAt w' p := by
  unfold ZeroAt; rw [hb.block p hp]; exact h
theorem ZeroAt.new (w : World) (p : Nat) (hp : w.heap.size = p) : ZeroAt (w.alloc (.cells #[.int .i64 0, .int .i64 0, .slice none 0 0] 24)) p := by
  subst hp; exact heap_alloc_new w _
theorem ZeroAt.lt {w : World} {p : Nat} (h : ZeroAt w p) : p < w.heap.size := (Array.getElem?_eq_some_iff.1 h).1
theorem below_set3 {B p : Nat} {a w : World} (h : Below B a w) (hp : B ≤ p) (x y z : Value) : Below B a (((w.setCell ⟨p, 0, none⟩ x).setCell ⟨p, 1, none⟩ y).setCell ⟨p, 2, none⟩ z) :=
  ((h.setCell (p := ⟨p, 0, none⟩) hp x).setCell (p := ⟨p, 1, none⟩) hp y).setCell (p := ⟨p, 2, none⟩) hp z
end Go.Proofs.YtfedlehibkgjbaaDoor
end
section
set_option linter.unusedVariables false
namespace Go.Proofs.YtfedlehibkgjbaaDoor
open Go.RowKit
def isCell (c : UInt8) : Bool := c == 48 || c == 49
def cellsL (l : List UInt8) : Bool := l.all isCell
/-- 1 to 8000 characters 0 and 1. -/
def validCells (s : ByteArray) : Bool := cellsL s.data.toList && inB 1 8000 s.size
theorem cellsL_snoc (s : ByteArray) (k : Nat) (h : k < s.size) : cellsL (s.data.toList.take (k + 1)) = (cellsL (s.data.toList.take k) && isCell s[k]) := by
  have e : s.data.toList.take (k + 1) = s.data.toList.take k ++ [s[k]] := by rw [List.take_succ_eq_append_getElem (by simpa using h)]; rfl
  rw [e]; simp [cellsL]
theorem cellsL_no (s : ByteArray) (k : Nat) (h : k < s.size) (hc : isCell s[k] = false) : cellsL s.data.toList = false := by
  unfold cellsL
  rw [List.all_eq_false]
  exact ⟨s[k], by show s.data[k] ∈ _; simp, by simp [hc]⟩
theorem take_ge' (s : ByteArray) (k : Nat) (h : s.size ≤ k) : s.data.toList.take k = s.data.toList := by
  refine List.take_of_length_le ?_
  have : s.data.toList.length = s.size := by simp
  omega
theorem isCell_iff (c : UInt8) : isCell c = true ↔ c.toNat = 48 ∨ c.toNat = 49 := by
  unfold isCell
  simp only [Bool.or_eq_true, beq_iff_eq, ← UInt8.toNat_inj]
  rfl
/-- The rune at a byte that is no cell is no cell. -/
theorem rune_no (s : ByteArray) (pos : Nat) (h : pos < s.size) (hc : isCell s[pos] = false) : (Utf8.decode s pos).1 ≠ 48 ∧ (Utf8.decode s pos).1 ≠ 49 := by
  have h1 : ¬ (s[pos].toNat = 48 ∨ s[pos].toNat = 49) := by rw [← isCell_iff]; simp [hc]
  by_cases ha : s[pos].toNat < 128
  · rw [decode_ascii s pos h ha]
    exact ⟨fun e => h1 (.inl e), fun e => h1 (.inr e)⟩
  · have := (decode_high s pos h (by omega)).1
    omega
set_option maxHeartbeats 400000 in
theorem validCells_any (s : ByteArray) (w : World) (hs : s.size ≤ maxLen) :
    Calls Tryd.prog 34 #[.string s] w fun e w' => e = .returned (.bool (validCells s)) ∧ Below w.heap.size w w' := by
  unfold maxLen at hs
  go_enter Tryd.func34, Tryd.ntmps34
  go_wp2
  go_loopw [4] (fun _ wr => ∃ pos, pos ≤ s.size ∧ wr = w.iter s pos ∧ Hid (cellsL (s.data.toList.take pos) = true)) (fun _ wr => s.size - wr.iterPos w.heap.size)
  case atStart => exact ⟨0, Nat.zero_le _, rfl, by unfold Hid; rfl⟩
  case round =>
    obtain ⟨pos, hk, rfl, ha⟩ := hrel
    by_cases hp : pos < s.size
    · have HS := Lib.hid (cellsL_snoc s pos hp)
      have hnx : ∀ ty, (Instr.next (.pointer (some ⟨w.heap.size, 0, none⟩)) true ty).run Tryd.prog (w.iter s pos) = _ := fun ty => run_next_any w s pos ty hp
      by_cases hc : isCell s[pos] = true
      · have hc2 := (isCell_iff _).1 hc
        have HC := Lib.hid hc; clear hc
        rw [decode_ascii s pos hp (by omega)] at hnx
        rcases hc2 with h48 | h49
        · rw [h48] at hnx
          go_wp2
          go_roundw
          case rel => exact ⟨pos + 1, by omega, rfl, by unfold Hid; rw [HS.out, ha.out, HC.out]; rfl⟩
          case measure => simp; omega
        · rw [h49] at hnx
          go_wp2
          go_roundw
          case rel => exact ⟨pos + 1, by omega, rfl, by unfold Hid; rw [HS.out, ha.out, HC.out]; rfl⟩
          case measure => simp; omega
      · have hc0 : isCell s[pos] = false := by simpa using hc
        have hr := rune_no s pos hp hc0
        have HN := Lib.hid (cellsL_no s pos hp hc0)
        clear hc hc0
        obtain ⟨h48, h49⟩ := hr
        have b48 : (((Utf8.decode s pos).1 : Int) != 48) = true := by simp; omega
        have b49 : (((Utf8.decode s pos).1 : Int) != 49) = true := by simp; omega
        clear h48 h49
        go_wp2
        go_ret
        refine ⟨ret_bool ?_, (Below.refl _ _).alloc (Nat.le_refl _) _⟩
        unfold validCells; rw [HN.out]; rfl
    · have hnx : ∀ ty, (Instr.next (.pointer (some ⟨w.heap.size, 0, none⟩)) true ty).run Tryd.prog (w.iter s pos) = _ := fun ty => run_next_end w s pos ty hp
      go_wp2_with (go_at_call 35; refine (within_at _ _ _ _ _ _ (by simp)).mono ?_; rintro e w' ⟨rfl, rfl⟩)
      go_ret
      refine ⟨ret_bool ?_, ((Below.refl _ _).alloc (Nat.le_refl _) _).alloc (by simp) _⟩
      have e := take_ge' s pos (by omega)
      unfold validCells; rw [← e, ha.out]; rfl
end Go.Proofs.YtfedlehibkgjbaaDoor
end
section
set_option linter.unusedVariables false
namespace Go.Proofs.YtfedlehibkgjbaaDoor
open Go.RowKit
def SlRes (l : List Int) (w : World) (e : Ending) (w' : World) : Prop :=
  ∃ a cap, e = .returned (.slice a l.length cap) ∧ SlO w' w.heap.size a l ∧ Below w.heap.size w w'
theorem below_drewN {B : Nat} {a w : World} (h : Below B a w) (n : Nat) : Below B a (w.drewN n) := ⟨h.os, h.tape, h.output, h.size, h.block⟩
theorem OwnI.below' {w w' : World} {B : Nat} {v : Value} {l : List Int} (h : OwnI w B v l) (hb : Below w.heap.size w w') : OwnI w' B v l := by
  refine ⟨h.1, ?_⟩
  rcases h.2 with h2 | ⟨g, cap, cur, rfl, hg, hh, r⟩
  · exact .inl h2
  · exact .inr ⟨g, cap, cur, rfl, hg, by rw [hb.block g (Array.getElem?_eq_some_iff.1 hh).1]; exact hh, r⟩
theorem SlRes.of {l : List Int} {w w' : World} {v : Value} (h : OwnI w' w.heap.size v l) (hb : Below w.heap.size w w') : SlRes l w (.returned v) w' := by
  obtain ⟨a, c, rfl, hs⟩ := h.slO
  exact ⟨a, c, rfl, hs, hb⟩
theorem OwnI.mono {w : World} {B B' : Nat} {v : Value} {l : List Int} (h : OwnI w B v l) (hB : B' ≤ B) : OwnI w B' v l := by
  refine ⟨h.1, ?_⟩
  rcases h.2 with h2 | ⟨g, cap, cur, rfl, hg, r⟩
  · exact .inl h2
  · exact .inr ⟨g, cap, cur, rfl, Nat.le_trans hB hg, r⟩
theorem OwnI.iterAt {w : World} {B : Nat} {v : Value} {l : List Int} (h : OwnI w B v l) {k : Nat} (hk : k < B) (s : ByteArray) (pos : Nat) : OwnI (w.iterAt k s pos) B v l := by
  refine ⟨h.1, ?_⟩
  rcases h.2 with h2 | ⟨g, cap, cur, rfl, hg, hh, r⟩
  · exact .inl h2
  · exact .inr ⟨g, cap, cur, rfl, hg, by rw [Lib.iterAt_other w k g s pos (by omega)]; exact hh, r⟩
end Go.Proofs.YtfedlehibkgjbaaDoor
end
section
set_option linter.unusedVariables false
namespace Go.Proofs.YtfedlehibkgjbaaDoor
open Go.RowKit
/-- The times of the changes among the first k cells. -/
def chg (s : ByteArray) (cell : Int) (k : Nat) : List Int := ((List.range k).filter (fun i => s.data[i]?.getD 0 == 49)).map (fun (i : Nat) => (i : Int) * cell + cell / 2)
theorem chg_get (s : ByteArray) (k : Nat) (h : k < s.size) : s.data[k]?.getD 0 = s[k] := by
  have h' : k < s.data.size := h
  rw [Array.getElem?_eq_getElem h']; rfl
theorem chg_one {s : ByteArray} {k : Nat} (cell : Int) (h : k < s.size) (hc : s[k].toNat = 49) : chg s cell (k + 1) = chg s cell k ++ [(k : Int) * cell + cell / 2] := by
  have e : (s.data[k]?.getD 0 == 49) = true := by rw [chg_get s k h, beq_iff_eq, ← UInt8.toNat_inj, hc]; rfl
  unfold chg
  rw [List.range_succ, List.filter_append, List.map_append]
  simp [List.filter, e]
theorem chg_zero {s : ByteArray} {k : Nat} (cell : Int) (h : k < s.size) (hc : s[k].toNat ≠ 49) : chg s cell (k + 1) = chg s cell k := by
  have e : (s.data[k]?.getD 0 == 49) = false := by rw [chg_get s k h, beq_eq_false_iff_ne]; intro e; apply hc; rw [e]; rfl
  unfold chg
  rw [List.range_succ, List.filter_append, List.map_append]
  simp [List.filter, e]
theorem chg_length_le (s : ByteArray) (cell : Int) (k : Nat) : (chg s cell k).length ≤ k := by
  unfold chg
  rw [List.length_map]
  exact Nat.le_trans (List.length_filter_le _ _) (by simp)
theorem chg_length_eq (s : ByteArray) (c d : Int) (k : Nat) : (chg s c k).length = (chg s d k).length := by simp [chg]
theorem cellMul {k : Nat} {cell : Int} (hk : k ≤ 8000) (h0 : 0 ≤ cell) (h1 : cell ≤ 200) : 0 ≤ (k : Int) * cell ∧ (k : Int) * cell ≤ 1600000 := by
  refine ⟨Int.mul_nonneg (by omega) h0, ?_⟩
  have := Int.mul_le_mul (a := (k : Int)) (b := cell) (c := 8000) (d := 200) (by omega) h1 h0 (by omega)
  omega
theorem chg_mild {s : ByteArray} {cell : Int} {k : Nat} (hk : k ≤ 8000) (h0 : 0 ≤ cell) (h1 : cell ≤ 200) : Mild (chg s cell k) := by
  intro x hx
  unfold chg at hx
  rw [List.mem_map] at hx
  obtain ⟨i, hi, rfl⟩ := hx
  have hi2 : i < k := by
    have := (List.mem_filter.1 hi).1
    simpa using this
  have := cellMul (k := i) (by omega) h0 h1
  omega
theorem iterPos_of {w : World} {k pos : Nat} {s : ByteArray} (h : w.heap[k]? = some (.stringIter s pos)) : w.iterPos k = pos := by simp [World.iterPos, h]
def fluxOfVal (s : ByteArray) (cell : Int) : FluxVal :=
  if validCells s = true ∧ inB 4 200 cell = true then
    if (chg s cell s.size).length = 0 then .none 6
    else if 4000 < (chg s cell s.size).length then .none 5
    else ⟨cell, (chg s cell s.size)[0]?.getD 0, gapsOf (chg s cell s.size) ((s.size : Int) * cell), 0⟩
  else .none 1
set_option maxHeartbeats 1000000 in
theorem fluxOf_no (s : ByteArray) (cell : Int) (w : World) (hs : s.size ≤ 1048576) (hv : ¬ (validCells s = true ∧ inB 4 200 cell = true)) :
    Calls Tryd.prog 12 #[.string s, .int .i64 cell] w (FluxRes (.none 1) w) := by
  have c1 := fun w' => validCells_any s w' (by unfold maxLen; omega)
  by_cases h1 : validCells s = true
  · have h2 : inB 4 200 cell = false := by
      cases h : inB 4 200 cell
      · rfl
      · exact absurd ⟨h1, h⟩ hv
    rw [h1] at c1
    have C1 := Lib.hid c1; clear c1 hv h1
    go_enter Tryd.func12, Tryd.ntmps12
    go_wp2_with fail
    refine (C1.out _).mono ?_
    rintro e w1 ⟨rfl, hb⟩
    have hz := (ZeroAt.new w w.heap.size rfl).below hb (by simp)
    have hb1 := Below.trans (show Below w.heap.size w _ from (Below.refl _ _).alloc (Nat.le_refl _) _) (hb.mono (by simp))
    go_wp2_with fail
    refine (within_at _ _ _ _ _ _ (by simp)).mono ?_
    rintro e w' ⟨rfl, rfl⟩
    have hz2 : ZeroAt (w1.alloc (.cells #[.int .i64 cell] 2)) w.heap.size := hz.below ((Below.refl _ _).alloc (Nat.le_refl _) _) hz.lt
    obtain ⟨z0, z1, z2, y0, y1, y2⟩ := hz2.facts
    have hb2 : Below w.heap.size w (w1.alloc (.cells #[.int .i64 cell] 2)) := hb1.alloc hb1.size _
    obtain ⟨W, hW⟩ : ∃ W, w1.alloc (.cells #[.int .i64 cell] 2) = W := ⟨_, rfl⟩
    rw [hW] at z0 z1 z2 y0 y1 y2 hb2 ⊢
    clear hW hz hb1 hb C1
    go_wp2
    refine bodyPost_ret (v := .tuple #[.agg #[.int .i64 0, .int .i64 0, .slice none 0 0], .int .i64 1]) (by simp [results, Tryd.results12, go_sem, z0, z1, z2]) rfl ⟨none, 0, rfl, .inl rfl, ?_⟩
    exact ((hb2.setCell (by simp) _).setCell (by simp) _).setCell (by simp) _
  · have h1 : validCells s = false := by simpa using h1
    rw [h1] at c1
    have C1 := Lib.hid c1; clear c1 hv h1
    go_enter Tryd.func12, Tryd.ntmps12
    go_wp2_with fail
    refine (C1.out _).mono ?_
    rintro e w1 ⟨rfl, hb⟩
    have hz := (ZeroAt.new w w.heap.size rfl).below hb (by simp)
    have hb1 := Below.trans (show Below w.heap.size w _ from (Below.refl _ _).alloc (Nat.le_refl _) _) (hb.mono (by simp))
    obtain ⟨z0, z1, z2, y0, y1, y2⟩ := hz.facts
    clear hz hb C1
    go_wp2
    refine bodyPost_ret (v := .tuple #[.agg #[.int .i64 0, .int .i64 0, .slice none 0 0], .int .i64 1]) (by simp [results, Tryd.results12, go_sem, z0, z1, z2]) rfl ⟨none, 0, rfl, .inl rfl, ?_⟩
    exact ((hb1.setCell (by simp) _).setCell (by simp) _).setCell (by simp) _
theorem validCells_at {s : ByteArray} (h : validCells s = true) {k : Nat} (hk : k < s.size) : s[k].toNat = 48 ∨ s[k].toNat = 49 := by
  unfold validCells cellsL at h
  rw [Bool.and_eq_true, List.all_eq_true] at h
  exact (isCell_iff _).1 (h.1 s[k] (by show s.data[k] ∈ _; simp))
theorem validCells_size {s : ByteArray} (h : validCells s = true) : 1 ≤ s.size ∧ s.size ≤ 8000 := by
  unfold validCells at h
  rw [Bool.and_eq_true] at h
  have := inB_iff.1 h.2
  omega
set_option maxHeartbeats 2000000 in
theorem fluxOf_yes (s : ByteArray) (cell : Int) (w : World) (h1 : validCells s = true) (h2 : inB 4 200 cell = true) :
    Calls Tryd.prog 12 #[.string s, .int .i64 cell] w (FluxRes (fluxOfVal s cell) w) := by
  obtain ⟨hs0, hs⟩ := validCells_size h1
  have h2' := inB_iff.1 h2
  have c1 := fun w' => validCells_any s w' (by unfold maxLen; omega)
  rw [h1] at c1
  have C1 := Lib.hid c1
  have HV := Lib.hid (And.intro h1 h2); clear c1 h1
  go_enter Tryd.func12, Tryd.ntmps12
  go_wp2_with fail
  refine (C1.out _).mono ?_
  rintro e w1 ⟨rfl, hb⟩
  have hz := (ZeroAt.new w w.heap.size rfl).below hb (by simp)
  have hb1 := Below.trans (show Below w.heap.size w _ from (Below.refl _ _).alloc (Nat.le_refl _) _) (hb.mono (by simp))
  go_wp2_with fail
  refine (within_at _ _ _ _ _ _ (by simp)).mono ?_
  rintro e w' ⟨rfl, rfl⟩
  have hz2 : ZeroAt (w1.alloc (.cells #[.int .i64 cell] 2)) w.heap.size := hz.below ((Below.refl _ _).alloc (Nat.le_refl _) _) hz.lt
  have hb2 : Below w.heap.size w (w1.alloc (.cells #[.int .i64 cell] 2)) := hb1.alloc hb1.size _
  obtain ⟨W, hW⟩ : ∃ W, w1.alloc (.cells #[.int .i64 cell] 2) = W := ⟨_, rfl⟩
  rw [hW] at hz2 hb2 ⊢
  clear hW hz hb1 hb C1
  have HZ := Lib.hid hz2
  have hlt0 := hz2.lt
  clear hz2
  go_wp2
  go_loopw [6, 7, 8] (fun v _ _ wr => ∃ pos, pos ≤ s.size ∧ wr.heap[W.heap.size]? = some (.stringIter s pos) ∧ OwnI wr (W.heap.size + 1) v (chg s cell pos) ∧ ZeroAt wr w.heap.size ∧ Below w.heap.size w wr) (fun _ _ _ wr => s.size - wr.iterPos W.heap.size)
  case atStart =>
    exact ⟨0, Nat.zero_le _, World.iter_heap W s 0, OwnI.nil _ _, HZ.out.below ((Below.refl _ _).alloc (Nat.le_refl _) _) hlt0, hb2.alloc hb2.size _⟩
  case round =>
    obtain ⟨pos, hk, hit, hown, hzr, hbr⟩ := hrel
    by_cases hp : pos < s.size
    · have hnx : ∀ ty, (Instr.next (.pointer (some ⟨W.heap.size, 0, none⟩)) true ty).run Tryd.prog wr = _ := fun ty => Lib.run_next_any_at wr W.heap.size s pos ty hit hp
      have hc2 := validCells_at HV.out.1 hp
      rw [decode_ascii s pos hp (by omega)] at hnx
      have hlen := chg_length_le s cell pos
      have hit2 := Lib.iterAt_heap wr W.heap.size s pos (pos + 1) hit
      have hmes := iterPos_of hit
      rcases hc2 with h48 | h49
      · have HC := Lib.hid (chg_zero cell hp (by omega))
        rw [h48] at hnx
        go_wp2
        go_roundw
        case rel =>
          refine ⟨pos + 1, by omega, hit2, by rw [HC.out]; exact hown.iterAt (by omega) _ _, ?_, Lib.below_iterAt hbr (by omega) _ _⟩
          unfold ZeroAt
          rw [Lib.iterAt_other _ _ _ _ _ (by omega)]; exact hzr
        case measure => rw [iterPos_of hit2, hmes]; omega
      · have HC := Lib.hid (chg_one cell hp h49)
        rw [h49] at hnx
        have hq : cell.tdiv 2 = cell / 2 := Int.tdiv_eq_ediv_of_nonneg (by omega)
        have hm := cellMul (k := pos) (by omega) (by omega) h2'.2
        have hown2 := hown.iterAt (k := W.heap.size) (by omega) s (pos + 1)
        have hz3 : ZeroAt (wr.iterAt W.heap.size s (pos + 1)) w.heap.size := by
          unfold ZeroAt
          rw [Lib.iterAt_other _ _ _ _ _ (by omega)]; exact hzr
        have hbr3 := Lib.below_iterAt hbr (k := W.heap.size) (by omega) s (pos + 1)
        have hsz3 : W.heap.size + 1 ≤ (wr.iterAt W.heap.size s (pos + 1)).heap.size := by
          rw [Lib.iterAt_size]; exact (Array.getElem?_eq_some_iff.1 hit).1
        obtain ⟨V, hV⟩ : ∃ V, wr.iterAt W.heap.size s (pos + 1) = V := ⟨_, rfl⟩
        rw [hV] at hnx hit2 hown2 hz3 hbr3 hsz3
        have HF := Lib.hid (And.intro hit (And.intro hown (And.intro hzr hbr)))
        clear hit hown hzr hbr hV
        go_wp2_with (at_builtin; refine wpList_appendI 50 Tryd.underlying50 rfl _ _ rfl rfl (hown2.alloc _) ((pos : Int) * cell + cell / 2) ⟨V.heap.size, 0, none⟩ 1 rfl (World.news_of_block (cs := #[.int .i64 ((pos : Int) * cell + cell / 2)]) (t := 2) (fr := (0, 0)) (heap_alloc_new V _)) (by omega) (by simp; omega) ?_; intro g cap w3 hown3 hb3 _)
        have hit3 : w3.heap[W.heap.size]? = some (.stringIter s (pos + 1)) := by
          rw [hb3.block _ (by omega), Below.heap_alloc _ _ _ (by omega)]; exact hit2
        go_roundw
        case rel =>
          refine ⟨pos + 1, by omega, hit3, ?_, ?_, ?_⟩
          · rw [HC.out]; exact hown3
          · unfold ZeroAt
            rw [hb3.block _ (by omega), Below.heap_alloc _ _ _ (by omega)]; exact hz3
          · exact (hbr3.alloc (by omega) _).trans (hb3.mono (by omega))
        case measure => rw [iterPos_of hit3, hmes]; omega
    · have hnx : ∀ ty, (Instr.next (.pointer (some ⟨W.heap.size, 0, none⟩)) true ty).run Tryd.prog wr = _ := fun ty => Lib.run_next_end_at wr W.heap.size s pos ty hit hp
      obtain rfl : pos = s.size := by omega
      obtain ⟨a, cp, rfl⟩ := hown.form
      have HZR := Lib.hid hzr
      obtain ⟨z0, z1, z2, y0, y1, y2⟩ := hzr.facts
      have hm := cellMul (k := s.size) (by omega) (by omega) h2'.2
      have hlen := chg_length_le s cell s.size
      have hmild := chg_mild (s := s) (k := s.size) (by omega) (by omega) h2'.2
      have hsl := hown.slO
      have HE := Lib.hid (show fluxOfVal s cell = if (chg s cell s.size).length = 0 then .none 6 else if 4000 < (chg s cell s.size).length then .none 5 else ⟨cell, (chg s cell s.size)[0]?.getD 0, gapsOf (chg s cell s.size) ((s.size : Int) * cell), 0⟩ by unfold fluxOfVal; rw [if_pos HV.out])
      clear hit hzr
      generalize chg s cell s.size = ts at *
      by_cases hl0 : ts.length = 0
      · have hb0 : ((ts.length : Int) == 0) = true := by simp [hl0]
        have HE2 := Lib.hid (HE.out.trans (if_pos hl0))
        have HH := Lib.hid (And.intro hown (And.intro hsl (And.intro hmild hl0)))
        clear hown hsl hmild hl0 HE
        go_wp2
        rw [HE2.out]
        refine bodyPost_ret (v := .tuple #[.agg #[.int .i64 0, .int .i64 0, .slice none 0 0], .int .i64 6]) (by simp [results, Tryd.results12, go_sem, z0, z1, z2]) rfl ⟨none, 0, rfl, .inl rfl, ?_⟩
        exact ((hbr.setCell (by simp) _).setCell (by simp) _).setCell (by simp) _
      · have hb0 : ((ts.length : Int) == 0) = false := by rw [beq_eq_false_iff_ne]; omega
        by_cases hl4 : 4000 < ts.length
        · have HE2 := Lib.hid ((HE.out.trans (if_neg hl0)).trans (if_pos hl4))
          have HH := Lib.hid (And.intro hown (And.intro hsl (And.intro hmild hl0)))
          clear hown hsl hmild hl0 HE
          go_wp2
          rw [HE2.out]
          refine bodyPost_ret (v := .tuple #[.agg #[.int .i64 0, .int .i64 0, .slice none 0 0], .int .i64 5]) (by simp [results, Tryd.results12, go_sem, z0, z1, z2]) rfl ⟨none, 0, rfl, .inl rfl, ?_⟩
          exact ((hbr.setCell (by simp) _).setCell (by simp) _).setCell (by simp) _
        · obtain ⟨f, hf⟩ := getOf (zs := ts) (k := 0) (by omega)
          have hff : ts[0]?.getD 0 = f := by rw [hf]; rfl
          have HE2 := Lib.hid ((HE.out.trans (if_neg hl0)).trans (if_neg hl4))
          have hcall := fun w' hb => timesFlux_any a ts cp ((s.size : Int) * cell) cell f w' (by omega) hf hmild (by omega) (by omega) hb
          obtain ⟨a', c', hv, hsl2⟩ := hsl
          cases hv
          have HC := Lib.hid (hcall wr hsl2.sl)
          have HH := Lib.hid (And.intro hown (And.intro hsl2 (And.intro hmild (And.intro hl0 (And.intro hf hff)))))
          clear hown hsl2 hmild hl0 HE hcall hf hff
          go_wp2_with fail
          refine HC.out.mono ?_
          rintro e w4 ⟨g, rfl, hrow, hg, hb4⟩
          have hz4 := HZR.out.below hb4 HZR.out.lt
          obtain ⟨z0, z1, z2, y0, y1, y2⟩ := hz4.facts
          have hbw4 : Below w.heap.size w w4 := hbr.trans (hb4.mono hbr.size)
          have hgs : w.heap.size < wr.heap.size := HZR.out.lt
          have HR := Lib.hid hrow; clear hrow hb4 hz4
          go_wp2
          rw [HE2.out]
          refine bodyPost_ret (v := .tuple #[.agg #[.int .i64 cell, .int .i64 f, .slice (some ⟨g, 0, none⟩) (gapsOf ts ((s.size : Int) * cell)).length (gapsOf ts ((s.size : Int) * cell)).length], .int .i64 0]) (by simp [results, Tryd.results12, go_sem, z0, z1, z2]) rfl ⟨some ⟨g, 0, none⟩, _, by rw [HH.out.2.2.2.2.2], ?_, ?_⟩
          · exact (HR.out.set3 _ _ _ (by omega)).slO (by omega)
          · exact ((hbw4.setCell (by simp) _).setCell (by simp) _).setCell (by simp) _
end Go.Proofs.YtfedlehibkgjbaaDoor
end
section
set_option linter.unusedVariables false
namespace Go.Proofs.YtfedlehibkgjbaaDoor
open Go.RowKit
def revOf (c f : Int) (zs : List Int) : Int := if fluxOk c f zs = true then zs.sum else -1
set_option maxHeartbeats 400000 in
theorem revolutionOf_any (c f : Int) (a : Option Addr) (zs : List Int) (d : Nat) (w : World) (hl : zs.length ≤ 1048576) (h : SlA w a zs) :
    Calls Tryd.prog 14 #[.agg #[.int .i64 c, .int .i64 f, .slice a zs.length d]] w fun e w' => e = .returned (.int .i64 (revOf c f zs)) ∧ Below w.heap.size w w' := by
  have c1 := fun w' (hb : Below w.heap.size w w') => validFlux_any c f a zs d w' hl (h.below hb (Nat.le_refl _))
  by_cases hv : fluxOk c f zs = true
  · have HE := Lib.hid (show revOf c f zs = zs.sum by unfold revOf; rw [if_pos hv])
    have hall := (fluxOk_iff.1 hv).2.2.1
    have c2 := fun w' (hb : Below w.heap.size w w') => sum_any a zs d w' hl hall (h.below hb (Nat.le_refl _))
    rw [hv] at c1
    obtain ⟨s, hs⟩ : ∃ s, zs.sum = s := ⟨_, rfl⟩
    rw [hs] at HE c2
    clear hs
    have C1 := Lib.hid c1; have C2 := Lib.hid c2; clear c1 c2 hall hv h
    go_enter Tryd.func14, Tryd.ntmps14
    go_wp2_with fail
    refine (C1.out _ (by go_grown)).mono ?_
    rintro e w1 ⟨rfl, hb1⟩
    obtain ⟨x0, x1, x2⟩ := (FluxAt.new w c f a zs.length d 24 w.heap.size rfl).below hb1 (by simp)
    have hb1' : Below w.heap.size w w1 := Below.trans (by go_grown) (hb1.mono (by simp))
    go_wp2_with fail
    refine (C2.out _ hb1').mono ?_
    rintro e w2 ⟨rfl, rfl⟩
    go_wp2
    go_ret
    exact ⟨ret_int HE.out.symm, hb1'⟩
  · have HE := Lib.hid (show revOf c f zs = -1 by unfold revOf; rw [if_neg hv])
    have hv0 : fluxOk c f zs = false := by simpa using hv
    rw [hv0] at c1
    have C1 := Lib.hid c1; clear c1 hv hv0 h
    go_enter Tryd.func14, Tryd.ntmps14
    go_wp2_with fail
    refine (C1.out _ (by go_grown)).mono ?_
    rintro e w1 ⟨rfl, hb1⟩
    go_wp2
    go_ret
    exact ⟨ret_int HE.out.symm, Below.trans (by go_grown) (hb1.mono (by simp))⟩
end Go.Proofs.YtfedlehibkgjbaaDoor
end
section
set_option linter.unusedVariables false
namespace Go.Proofs.YtfedlehibkgjbaaDoor
open Go.RowKit
open Go.Shelf
attribute [local go_sem] Oper.semAt_some
/-- The first k of n rounds. -/
def rnds (n k : Nat) : List (Fin n) := (List.finRange n).take k
theorem rnds_succ {n k : Nat} (h : k < n) : rnds n (k + 1) = rnds n k ++ [⟨k, h⟩] := by
  unfold rnds
  rw [List.take_succ_eq_append_getElem (by simpa using h)]
  simp
theorem rnds_length {n k : Nat} (h : k ≤ n) : (rnds n k).length = k := by simp [rnds]; omega
/-- The time of change k. -/
def tAt (f : Int) (zs : List Int) (k : Nat) : Int := f + (zs.take k).sum
theorem tAt_succ {f : Int} {zs : List Int} {k : Nat} {x : Int} (h : zs[k]? = some x) : tAt f zs (k + 1) = tAt f zs k + x := by
  unfold tAt; rw [sum_snoc h]; omega
abbrev chgEnc (f : Int) (zs : List Int) (x : Fin zs.length) : Array Value := #[.int .i64 (x.val : Int), .int .i64 (tAt f zs x.val)]
set_option maxRecDepth 100000 in
set_option maxHeartbeats 2000000 in
theorem changes1_in (F : Fence) (n : Nat) (hfn : F.fn 45) (hro : F.round = none) (hn : 1 ≤ n) (l Bs n₀ : Nat) (c f : Int) (a : Option Addr) (cap : Nat) (zs : List Int) (hlen : zs.length ≤ 4000) (hz : zs.all (inB 1 2000000) = true) (hf0 : 0 ≤ f) (hf1 : f ≤ 2000000) (J Jx : List (Fin zs.length) → World → Prop)
    (hY : ∀ pre x W, J pre W → pre.length < zs.length → YieldAt F (n - 1) Tryd.prog l (chgEnc f zs x) W fun e W' =>
      (e = .returned (.bool true) ∧ J (pre ++ [x]) W' ∧ Below n₀ W W') ∨ (e = .returned (.bool false) ∧ Jx (pre ++ [x]) W'))
    (W : World) (hBs : FluxAt W Bs c f a zs.length cap) (hI : SlA W a zs) (hb : ∀ x, a = some x → x.block < n₀) (h0 : J [] W) :
    CallsIn F n Tryd.prog 45 #[.func (.yield l) #[] #[], .pointer (some ⟨Bs, 0, none⟩)] W fun e W' => (∃ v, e = .returned v) ∧
      ((∃ ys, ys = rnds zs.length zs.length ∧ J ys W') ∨ (∃ pre, (∃ k, k ≤ zs.length ∧ pre = rnds zs.length k) ∧ Jx pre W')) := by
  obtain ⟨x0, x1, x2⟩ := hBs
  have HZ := Lib.hid hz; clear hz
  refine callsIn_of_wp Tryd.func45 rfl hfn ?_ hro
  simp only [Tryd.ntmps45, List.size_toArray, List.length_cons, List.length_nil, Nat.reduceAdd, Nat.reduceSub, Array.replicate_succ, Array.replicate_zero, List.push_toArray, List.append_toArray, List.nil_append, List.cons_append]
  gi_wp2
  gi_loopw [3, 4, 5, 11] (fun q _ _ i wr => ∃ k : Nat, k ≤ zs.length ∧ i = .int .i64 k ∧ (∃ t : Int, q = .int .i64 t ∧ 0 ≤ t ∧ t ≤ 2000000 + 2000000 * (k : Int) ∧ Hid (t = tAt f zs k)) ∧ J (rnds zs.length k) wr ∧ Below n₀ W wr)
    (fun _ _ _ i _ => zs.length - (intOf i).toNat)
  case atStart => exact ⟨0, Nat.zero_le _, rfl, ⟨f, rfl, hf0, by omega, by unfold Hid tAt; simp⟩, h0, Below.refl _ _⟩
  case round =>
    obtain ⟨k, hk, rfl, ⟨t, rfl, ht0, ht1, hT⟩, hJs, hnx⟩ := hrel
    by_cases hlt : k < zs.length
    · obtain ⟨x, hx⟩ := getOf hlt
      obtain ⟨hx0, hx1⟩ := bd_of_all HZ.out hx
      obtain ⟨b, off, rfl, hc⟩ := hI.cell hx
      have hbb := hb _ rfl
      have hcx := (hnx.cell (p := ⟨b, off + k, none⟩) hbb).trans hc
      obtain ⟨fn, tmps, assign, body, hy, hR⟩ := hY _ ⟨k, hlt⟩ wr hJs (by rw [rnds_length hk]; exact hlt)
      dsimp only [chgEnc] at hy
      rw [← hT.out] at hy
      have HX := Lib.hid hx; clear hx
      have HI := Lib.hid hI; clear hI
      gi_wp2
      refine hR.mono ?_
      rintro e W3 (⟨rfl, hJ3, hk3⟩ | ⟨rfl, hJx3⟩)
      · gi_wp2
        go_roundw
        case rel => exact ⟨k + 1, by omega, by go_num, ⟨t + x, rfl, by omega, by omega, by unfold Hid; rw [tAt_succ HX.out, hT.out]⟩, by rw [rnds_succ hlt]; exact hJ3, hnx.trans hk3⟩
        case measure => simp [intOf]; omega
      · gi_wp2
        refine bodyPost_ret (results_none rfl _ _ _) rfl ?_
        exact ⟨⟨_, rfl⟩, .inr ⟨_, ⟨k + 1, by omega, by rw [rnds_succ hlt]⟩, hJx3⟩⟩
    · obtain rfl : k = zs.length := by omega
      gi_wp2
      go_end0
      exact ⟨⟨_, rfl⟩, .inl ⟨_, rfl, hJs⟩⟩
/-- The row lies below n₀. -/
def SlB (n₀ : Nat) (w : World) (a : Option Addr) (zs : List Int) : Prop := SlA w a zs ∧ ∀ x, a = some x → x.block < n₀
theorem SlB.below {n₀ : Nat} {w w' : World} {a : Option Addr} {zs : List Int} (h : SlB n₀ w a zs) (hb : Below n₀ w w') : SlB n₀ w' a zs := by
  refine ⟨?_, h.2⟩
  rcases h.1 with rfl | ⟨b, off, rfl, hlt, hi⟩
  · exact .inl rfl
  · exact .inr ⟨b, off, rfl, Nat.lt_of_lt_of_le hlt hb.size, hi.below hb (h.2 _ rfl)⟩
theorem changes_stops (F : Fence) (n : Nat) (hfn : F.fn 45) (hro : F.round = none) (hn : 1 ≤ n) (Bs n₀ : Nat) (c f : Int) (a : Option Addr) (cap : Nat) (zs : List Int) (hlen : zs.length ≤ 4000) (hz : zs.all (inB 1 2000000) = true) (hf0 : 0 ≤ f) (hf1 : f ≤ 2000000)
    (w : World) (hBs : Bs < w.heap.size) (hn₀ : n₀ ≤ w.heap.size) (hc : FluxAt w Bs c f a zs.length cap) (hI : SlB n₀ w a zs) :
    SeqStopsK F n Tryd.prog 45 #[.pointer (some ⟨Bs, 0, none⟩)] (chgEnc f zs) (Below n₀) (fun ys => ys = rnds zs.length zs.length)
      (fun pre => ∃ k, k ≤ zs.length ∧ pre = rnds zs.length k) zs.length w := fun l J Jx W hW _ _ hY h0 =>
  changes1_in F n hfn hro hn l Bs n₀ c f a cap zs hlen hz hf0 hf1 J Jx hY W (hc.below hW hBs) (hI.below (hW.mono hn₀)).1 hI.2 h0
set_option maxHeartbeats 1000000 in
theorem changesIn_in (F : Fence) (n : Nat) (hfn : F.fn 37) (hro : F.round = none) (c f : Int) (a : Option Addr) (len cap : Nat) (w : World) :
    CallsIn F n Tryd.prog 37 #[.agg #[.int .i64 c, .int .i64 f, .slice a len cap]] w fun e w' => e = .returned (.func (.func 45) #[] #[.pointer (some ⟨w.heap.size, 0, none⟩)]) ∧ w' = w.alloc (.cells #[.int .i64 c, .int .i64 f, .slice a len cap] 24) := by
  refine callsIn_of_wp Tryd.func37 rfl hfn ?_ hro
  simp only [Tryd.ntmps37, List.size_toArray, List.length_cons, List.length_nil, Nat.reduceAdd, Nat.reduceSub, Array.replicate_succ, Array.replicate_zero, List.push_toArray, List.append_toArray, List.nil_append, List.cons_append]
  gi_wp2
  go_ret
  exact ⟨rfl, rfl⟩
end Go.Proofs.YtfedlehibkgjbaaDoor
end
section
set_option linter.unusedVariables false
namespace Go.Proofs.YtfedlehibkgjbaaDoor
open Go.RowKit
open Go.Shelf
attribute [local go_sem] Oper.semAt_some
/-- The times of all changes. -/
def timesOf (f : Int) (zs : List Int) : List Int := (List.range zs.length).map (tAt f zs)
theorem timesOf_length (f : Int) (zs : List Int) : (timesOf f zs).length = zs.length := by simp [timesOf]
theorem timesOf_at (f : Int) (zs : List Int) (k : Nat) (h : k < zs.length) : (timesOf f zs)[k]? = some (tAt f zs k) := by simp [timesOf, h]
/-- The cells when the rounds of pre are over. -/
def rowOf (f : Int) (zs : List Int) (pre : List (Fin zs.length)) : Array Value := pre.foldl (fun C x => C.setIfInBounds x.val (.int .i64 (tAt f zs x.val))) (cpRow (timesOf f zs) 0)
theorem rowOf_snoc (f : Int) (zs : List Int) (pre : List (Fin zs.length)) (x : Fin zs.length) : rowOf f zs (pre ++ [x]) = (rowOf f zs pre).setIfInBounds x.val (.int .i64 (tAt f zs x.val)) := by simp [rowOf]
theorem rowOf_size (f : Int) (zs : List Int) (pre : List (Fin zs.length)) : (rowOf f zs pre).size = zs.length := by
  have h : ∀ (l : List (Fin zs.length)) (C : Array Value), (l.foldl (fun C x => C.setIfInBounds x.val (Value.int .i64 (tAt f zs x.val))) C).size = C.size := by
    intro l
    induction l with
    | nil => intro C; rfl
    | cons x l ih => intro C; rw [List.foldl_cons, ih]; simp
  unfold rowOf
  rw [h]
  simp [cpRow, timesOf_length]
theorem rowOf_rnds (f : Int) (zs : List Int) (k : Nat) (hk : k ≤ zs.length) : rowOf f zs (rnds zs.length k) = cpRow (timesOf f zs) k := by
  induction k with
  | zero => rfl
  | succ k ih =>
    rw [rnds_succ (by omega), rowOf_snoc, ih (by omega), cpRow_succ _ _ _ (timesOf_at f zs k (by omega))]
def cellsAt (W : World) (g : Nat) (C : Array Value) (T : TypeId) : Prop := W.heap[g]? = some (.cells C T (0, 0))
theorem cellsAt_own {β : Type} (C : β → Array Value) (g : Nat) (T : TypeId) : Own (fun s W => cellsAt W g (C s) T) := fun s W W' row hs hg hr => (grownBy_keeps_cells hg hr hs rfl).trans hs
set_option maxRecDepth 100000 in
set_option maxHeartbeats 2000000 in
theorem changesOf_in (F : Fence) (n : Nat) (h39 : F.fn 13) (h28 : F.fn 25) (h64 : F.fn 37) (h67 : F.fn 45) (hro : F.round = none) (hn : 3 ≤ n) (c f : Int) (a : Option Addr) (cap : Nat) (zs : List Int) (hv : fluxOk c f zs = true)
    (w : World) (h : SlA w a zs) (hval : ∀ W, Below w.heap.size w W → CallsIn F (n - 1) Tryd.prog 25 #[.agg #[.int .i64 c, .int .i64 f, .slice a zs.length cap]] W fun e w' => e = .returned (.bool true) ∧ Below W.heap.size W w') :
    CallsIn F n Tryd.prog 13 #[.agg #[.int .i64 c, .int .i64 f, .slice a zs.length cap]] w fun e w' => ∃ g, e = .returned (.slice (some ⟨g, 0, none⟩) zs.length zs.length) ∧ RowAt w' g (timesOf f zs) ∧ w.heap.size ≤ g ∧ Below w.heap.size w w' := by
  obtain ⟨_, ⟨hn1, hn4⟩, hz, hsum, hf0, hf1⟩ := fluxOk_iff.1 hv
  have h1 : 1 ≤ n := by omega
  have hmk := fun w => run_make_row' (P := Tryd.prog) 22 2 (.int .i64 0) 8 Tryd.underlying22 i64info rfl .i64 .i64 zs.length (by omega) (by omega) w
  obtain ⟨b, off, rfl, hblt, hints⟩ : ∃ b off, a = some ⟨b, off, none⟩ ∧ b < w.heap.size ∧ Ints w b off zs := by
    rcases h with rfl | h
    · simp at hn1
    · exact h
  have HV := Lib.hid hval; clear hval
  have HZ := Lib.hid (And.intro hz (And.intro hv h)); clear hz hv h
  refine callsIn_of_wp_marks Tryd.func13 rfl h39 ?_ hro
  simp only [Tryd.ntmps13, List.size_toArray, List.length_cons, List.length_nil, Nat.reduceAdd, Nat.reduceSub, Array.replicate_succ, Array.replicate_zero, List.push_toArray, List.append_toArray, List.nil_append, List.cons_append]
  gi_wp2_with (first
    | (gi_at_call 25; refine (HV.out _ (by go_grown)).mono ?_; rintro e w1 ⟨rfl, hb1⟩; have F1 := (FluxAt.new w c f (some ⟨b, off, none⟩) zs.length cap 24 w.heap.size rfl).below hb1 (by simp); have F2 := F1.below (Below.alloc (Below.alloc (Below.refl _ w1) (Nat.le_refl _) (.cells (madeCells #[.int .i64 0] zs.length) 2)) (by simp) (.cells #[.slice (some ⟨w1.heap.size, 0, none⟩) zs.length zs.length] 22)) F1.lt; have hl1 := F1.lt; obtain ⟨x0, x1, x2⟩ := F1; obtain ⟨q0, q1, q2⟩ := F2)
    | (gi_at_call 37; refine (changesIn_in F (n - 1) h64 hro _ _ _ _ _ _).mono ?_; rintro e w' ⟨rfl, rfl⟩))
  have hs1 : w.heap.size < w1.heap.size := by have := hb1.size; simp at this; omega
  have hb2 : Below w.heap.size w w1 := Below.trans (show Below w.heap.size w _ from (Below.refl _ _).alloc (Nat.le_refl _) _) (hb1.mono (by simp))
  have ez : madeCells #[Value.int .i64 0] zs.length = rowOf f zs [] := by
    have := cpRow_zero (timesOf f zs)
    rw [timesOf_length] at this
    rw [this]; rfl
  rw [ez]
  clear ez hmk x0 x1 x2 q0 q1 q2 hb1
  obtain ⟨W0, hW0⟩ : ∃ W0, ((w1.alloc (.cells (rowOf f zs []) 2)).alloc (.cells #[.slice (some ⟨w1.heap.size, 0, none⟩) zs.length zs.length] 22)).alloc (.cells #[.int .i64 c, .int .i64 f, .slice (some ⟨b, off, none⟩) zs.length cap] 24) = W0 := ⟨_, rfl⟩
  have cB : FluxAt W0 (w1.heap.size + 2) c f (some ⟨b, off, none⟩) zs.length cap := by rw [← hW0]; exact FluxAt.new _ c f _ _ _ _ _ (by simp)
  have cR : cellsAt W0 w1.heap.size (rowOf f zs []) 2 := by
    rw [← hW0]; unfold cellsAt
    rw [Below.heap_alloc _ _ _ (by simp; omega), Below.heap_alloc _ _ _ (by simp)]; exact heap_alloc_new w1 _
  have cS : cellsAt W0 (w1.heap.size + 1) #[.slice (some ⟨w1.heap.size, 0, none⟩) zs.length zs.length] 22 := by
    rw [← hW0]; unfold cellsAt
    rw [Below.heap_alloc _ _ _ (by simp)]
    have e := heap_alloc_new (w1.alloc (.cells (rowOf f zs []) 2)) (.cells #[.slice (some ⟨w1.heap.size, 0, none⟩) zs.length zs.length] 22)
    rw [World.size_alloc] at e; exact e
  have hB0 : Below w.heap.size w W0 := by rw [← hW0]; exact ((hb2.alloc hb2.size _).alloc (by simp; omega) _).alloc (by simp; omega) _
  have hsz : W0.heap.size = w1.heap.size + 3 := by rw [← hW0]; simp
  rw [hW0]
  clear hW0
  have hIB : SlB w.heap.size W0 (some ⟨b, off, none⟩) zs := SlB.below (w := w) ⟨.inr ⟨b, off, rfl, hblt, hints⟩, fun x e => by cases e; exact hblt⟩ hB0
  refine wpIn_rangeFunc_ownG hro h1 (gf := 45) (lb := #[.pointer (some ⟨w1.heap.size + 2, 0, none⟩)]) rfl h67 (enters_of Tryd.func45 (by kernel_rfl) rfl)
    (changes_stops F (n - 1) h67 hro (by omega) (w1.heap.size + 2) w.heap.size c f (some ⟨b, off, none⟩) cap zs hn4 HZ.out.1 hf0 (by have := bd_of_all HZ.out.1 (k := zs.length - 1) (x := zs[zs.length - 1]?.getD 0) (by rw [List.getElem?_eq_getElem (by omega)]; rfl); omega) W0 (by omega) hB0.size cB hIB) belowK_t (belowK_b (by omega)) (Below.refl _ _) (fun _ => rfl)
    (fun pre W => (cellsAt W w1.heap.size (rowOf f zs pre) 2 ∧ cellsAt W (w1.heap.size + 1) #[.slice (some ⟨w1.heap.size, 0, none⟩) zs.length zs.length] 22) ∧ Below w.heap.size w W)
    (fun _ _ _ => False)
    (OwnFrom.and (OwnFrom.and (Own.from (cellsAt_own _ _ _) _) (Own.from (cellsAt_own (fun _ => _) _ _) _)) (ownFrom_below (Nat.le_refl _) (by omega)))
    (fun _ _ _ _ _ hs _ _ => hs)
    ⟨⟨cR, cS⟩, hB0⟩
    (fun x => { tmps := #[.agg #[.int .i64 c, .int .i64 f, .slice (some ⟨b, off, none⟩) zs.length cap], .pointer (some ⟨w.heap.size, 0, none⟩), .slice none 0 0, .pointer (some ⟨w1.heap.size + 1, 0, none⟩), .int .i64 (x.val : Int), .int .i64 (tAt f zs x.val), .agg #[.int .i64 c, .int .i64 f, .slice (some ⟨b, off, none⟩) zs.length cap], .bool true, .bool false, .pointer (some ⟨w.heap.size, 2, none⟩), .slice (some ⟨b, off, none⟩) zs.length cap, .int .i64 zs.length, .slice (some ⟨w1.heap.size, 0, none⟩) zs.length zs.length, .agg #[.int .i64 c, .int .i64 f, .slice (some ⟨b, off, none⟩) zs.length cap], .func (.func 45) #[] #[.pointer (some ⟨w1.heap.size + 2, 0, none⟩)], .int .i64 (x.val : Int), .int .i64 (tAt f zs x.val), undef, undef, undef, undef, undef], defers := [] }) ?assign ?body ?done ?stop
  case assign =>
    intro l x W K hK
    gi_wp2
    exact hK
  case body =>
    rintro l pre x W ⟨⟨hR, hS⟩, hB⟩ _
    have hxl := x.isLt
    have hx1 : ((x.val : Nat) : Int) < (zs.length : Int) := by omega
    have hsz3 := rowOf_size f zs pre
    have hsome : (rowOf f zs pre)[x.val]?.isSome = true := by simp; omega
    obtain ⟨old, hold⟩ := Option.isSome_iff_exists.1 hsome
    have k0 : W.cell? ⟨w1.heap.size + 1, 0, none⟩ = some (.slice (some ⟨w1.heap.size, 0, none⟩) zs.length zs.length) := by
      unfold cellsAt at hS; simp [World.cell?, hS]
    have k1 : W.cell? ⟨w1.heap.size, x.val, none⟩ = some old := by
      unfold cellsAt at hR; simp only [World.cell?, hR]; simpa using hold
    have k2 : W.frozen? ⟨w1.heap.size, x.val, none⟩ = false := by
      unfold cellsAt at hR; simp [World.frozen?, hR]
    clear hold hsome
    have HR := Lib.hid hR; have HS := Lib.hid hS; clear hR hS
    gi_wp2
    refine ⟨(KeepsOthers.setCell _ _ _).from _, (Below.refl w.heap.size W).setCell (p := ⟨w1.heap.size, x.val, none⟩) (show w.heap.size ≤ w1.heap.size by omega) _, ⟨?_, ?_⟩, hB.setCell (p := ⟨w1.heap.size, x.val, none⟩) (show w.heap.size ≤ w1.heap.size by omega) _⟩
    · unfold cellsAt
      rw [heap_set_row _ _ _ _ _ _ HR.out, rowOf_snoc]
    · unfold cellsAt
      rw [Below.heap_setCell _ _ _ _ (by simp)]; exact HS.out
  case done =>
    rintro D ys W hD rfl ⟨⟨hR, hS⟩, hB⟩ hK
    have k0 : W.cell? ⟨w1.heap.size + 1, 0, none⟩ = some (.slice (some ⟨w1.heap.size, 0, none⟩) zs.length zs.length) := by
      unfold cellsAt at hS; simp [World.cell?, hS]
    gi_wp2
    refine ⟨by simp, .inl ⟨_, _, rfl, run_takeDeferred hK, ?_⟩⟩
    refine ⟨_, results_tmp rfl _ _ _, w1.heap.size, rfl, ?_, by omega, hB.trans (belowK_b (w := w) (Nat.le_refl _) W D _ _ (by omega) hK rfl rfl)⟩
    have h2 := (grownBy_keeps_cells (grownBy_putObj' W D (.deferred none)) (fun r e => by cases e; exact ⟨_, hK, rfl⟩) hR rfl).trans hR
    unfold RowAt
    rw [rowOf_rnds _ _ _ (Nat.le_refl _)] at h2
    have e := cpRow_all (timesOf f zs)
    rw [timesOf_length] at e
    rw [e] at h2
    exact h2
  case stop =>
    rintro D c pre W _ _ h _
    exact h.elim
theorem changesOf_yes (c f : Int) (a : Option Addr) (cap : Nat) (zs : List Int) (hl : zs.length ≤ 1048576) (hv : fluxOk c f zs = true) (w : World) (h : SlA w a zs) :
    Calls Tryd.prog 13 #[.agg #[.int .i64 c, .int .i64 f, .slice a zs.length cap]] w fun e w' => ∃ g, e = .returned (.slice (some ⟨g, 0, none⟩) zs.length zs.length) ∧ RowAt w' g (timesOf f zs) ∧ w.heap.size ≤ g ∧ Below w.heap.size w w' :=
  callsIn_wide.1 (changesOf_in Fence.wide 3 trivial trivial trivial trivial rfl (Nat.le_refl _) c f a cap zs hv w h
    (fun W hb => callsIn_wide.2 ((validFlux_any c f a zs cap W hl (h.below hb (Nat.le_refl _))).mono fun _ _ ⟨he, hw⟩ => ⟨by rw [he, hv], hw⟩)))
set_option maxRecDepth 100000 in
set_option maxHeartbeats 2000000 in
theorem changesOf_no_in (F : Fence) (n : Nat) (h39 : F.fn 13) (h28 : F.fn 25) (hro : F.round = none) (hn : 3 ≤ n) (c f : Int) (a : Option Addr) (cap len : Nat)
    (w : World) (hval : ∀ W, Below w.heap.size w W → CallsIn F (n - 1) Tryd.prog 25 #[.agg #[.int .i64 c, .int .i64 f, .slice a len cap]] W fun e w' => e = .returned (.bool false) ∧ Below W.heap.size W w') :
    CallsIn F n Tryd.prog 13 #[.agg #[.int .i64 c, .int .i64 f, .slice a len cap]] w fun e w' => e = .returned (.slice none 0 0) ∧ Below w.heap.size w w' := by
  have h1 : 1 ≤ n := by omega
  have HV := Lib.hid hval; clear hval
  refine callsIn_of_wp_marks Tryd.func13 rfl h39 ?_ hro
  simp only [Tryd.ntmps13, List.size_toArray, List.length_cons, List.length_nil, Nat.reduceAdd, Nat.reduceSub, Array.replicate_succ, Array.replicate_zero, List.push_toArray, List.append_toArray, List.nil_append, List.cons_append]
  gi_wp2_with (gi_at_call 25; refine (HV.out _ (by go_grown)).mono ?_; rintro e w1 ⟨rfl, hb1⟩)
  have hb2 : Below w.heap.size w w1 := Below.trans (show Below w.heap.size w _ from (Below.refl _ _).alloc (Nat.le_refl _) _) (hb1.mono (by simp))
  exact ⟨_, results_tmp rfl _ _ _, rfl, hb2⟩
theorem changesOf_no (c f : Int) (a : Option Addr) (cap : Nat) (zs : List Int) (hl : zs.length ≤ 1048576) (hv : fluxOk c f zs = false) (w : World) (h : SlA w a zs) :
    Calls Tryd.prog 13 #[.agg #[.int .i64 c, .int .i64 f, .slice a zs.length cap]] w fun e w' => e = .returned (.slice none 0 0) ∧ Below w.heap.size w w' :=
  callsIn_wide.1 (changesOf_no_in Fence.wide 3 trivial trivial rfl (Nat.le_refl _) c f a cap zs.length w
    (fun W hb => callsIn_wide.2 ((validFlux_any c f a zs cap W hl (h.below hb (Nat.le_refl _))).mono fun _ _ ⟨he, hw⟩ => ⟨by rw [he, hv], hw⟩)))
end Go.Proofs.YtfedlehibkgjbaaDoor
end
