/- (impl.reading).flux, impl.FluxOfTimes -/
import Derived.Test.YtoehejikohicfaaRises
import Derived.Test.YtoehejikohicfaaTimesFlux
import Derived.Test.YtoehejikohicfaaFluxVal
import Derived.Test.YtoehejikohicfaaSpecTimes
import Derived.Test.YtoehejikohicfaaBoxes
namespace Go.Proofs.Ytoehejikohicfaa
open Go.RowKit
set_option linter.unusedVariables false
/-- The flux with changes at some times, or a code. -/
def mkVal (c : Int) (ts : List Int) (rev wrong : Int) : FluxVal :=
  if ts.length = 0 then .none 6
  else if inB 1 2000000 rev = true ∧ risesB 0 (rev - 1) ts = true ∧ fluxOk c (ts[0]?.getD 0) (gapsOf ts rev) = true then ⟨c, ts[0]?.getD 0, gapsOf ts rev, 0⟩
  else .none wrong
theorem mkVal_len (c : Int) (ts : List Int) (rev wrong : Int) (hl : ts.length ≤ 1048576) : (mkVal c ts rev wrong).gaps.length ≤ 1048576 := by
  unfold mkVal
  split
  · simp [FluxVal.none]
  · split
    · simp [gapsOf_length]; exact hl
    · simp [FluxVal.none]
theorem mild_of_rises {rev : Int} {ts : List Int} (h1 : inB 1 2000000 rev = true) (h2 : risesB 0 (rev - 1) ts = true) : Mild ts := by
  intro x hx
  have := risesB_bd h2 hx
  have := inB_iff.1 h1
  omega
theorem cells5 (w1 : World) (p : Nat) : True := trivial
/-- The result variable, still zero, and that nothing below has changed. -/
def ZB (n : Nat) (w w1 : World) (p : Nat) : Prop := ZeroAt w1 p ∧ Below n w w1
set_option maxHeartbeats 2000000 in
theorem readingFlux_none (c f0 : Int) (a0 : Option Addr) (n0 d0 : Nat) (a : Option Addr) (d : Nat) (rev wrong : Int) (w : World) :
    Calls Try.prog 13 #[.agg #[.int .i64 c, .int .i64 f0, .slice a0 n0 d0, .slice a 0 d, .int .i64 rev], .int .i64 wrong] w (FluxRes (.none 6) w) := by
  go_enter Try.func13, Try.ntmps13
  go_wp2
  refine bodyPost_ret (v := .tuple #[.agg #[.int .i64 0, .int .i64 0, .slice none 0 0], .int .i64 6]) (by simp [results, Try.results13, go_sem]) rfl ⟨none, 0, rfl, .inl rfl, ?_⟩
  go_grown
set_option maxHeartbeats 2000000 in
theorem readingFlux_w (c f0 : Int) (a0 : Option Addr) (n0 d0 : Nat) (a : Option Addr) (n d : Nat) (rev wrong : Int) (w : World) (hn : 0 < n) (hr : inB 1 2000000 rev = false) :
    Calls Try.prog 13 #[.agg #[.int .i64 c, .int .i64 f0, .slice a0 n0 d0, .slice a n d, .int .i64 rev], .int .i64 wrong] w (FluxRes (.none wrong) w) := by
  have c1 := fun w T b (hb : w.heap.size = b) => within_at 1 2000000 rev w T b hb
  rw [hr] at c1
  have C1 := Lib.hid c1; clear c1 hr
  have h0 : ((n : Int) == 0) = false := by rw [beq_eq_false_iff_ne]; omega
  go_enter Try.func13, Try.ntmps13
  go_wp2_with (go_at_call 18; refine (C1.out _ _ _ (by simp)).mono ?_; rintro e w' ⟨rfl, rfl⟩)
  refine bodyPost_ret (v := .tuple #[.agg #[.int .i64 0, .int .i64 0, .slice none 0 0], .int .i64 wrong]) (by simp [results, Try.results13, go_sem]) rfl ⟨none, 0, rfl, .inl rfl, ?_⟩
  go_grown
set_option maxHeartbeats 4000000 in
theorem readingFlux_r (c f0 : Int) (a0 : Option Addr) (n0 d0 : Nat) (a : Option Addr) (ts : List Int) (d : Nat) (rev wrong : Int) (w : World) (hl : ts.length ≤ 1048576) (hn : 0 < ts.length) (hr : inB 1 2000000 rev = true) (hs : risesB 0 (rev - 1) ts = false) (h : SlA w a ts) :
    Calls Try.prog 13 #[.agg #[.int .i64 c, .int .i64 f0, .slice a0 n0 d0, .slice a ts.length d, .int .i64 rev], .int .i64 wrong] w (FluxRes (.none wrong) w) := by
  have c1 := fun w T b (hb : w.heap.size = b) => within_at 1 2000000 rev w T b hb
  have hr2 := inB_iff.1 hr
  have hr3 := hr2.1
  have hr4 := hr2.2
  have c2 := fun w' (hb : Below w.heap.size w w') => rising_any 0 (rev - 1) a ts d w' hl (by omega) (by omega) (h.below hb (Nat.le_refl _))
  rw [hr] at c1
  rw [hs] at c2
  have C1 := Lib.hid c1; have C2 := Lib.hid c2; clear c1 c2 hr hs h hr2
  have h0 : ((ts.length : Int) == 0) = false := by rw [beq_eq_false_iff_ne]; omega
  go_enter Try.func13, Try.ntmps13
  go_wp2_with fail
  refine (C1.out _ _ _ (by simp)).mono ?_
  rintro e w' ⟨rfl, rfl⟩
  go_wp2_with fail
  refine (C2.out _ (by go_grown)).mono ?_
  rintro e w1 ⟨rfl, hb1⟩
  have FB := Lib.hid (show Below w.heap.size w w1 from Below.trans (by go_grown) (hb1.mono (by simp; omega)))
  obtain ⟨z0, z1, z2, y0, y1, y2⟩ := (((ZeroAt.new (w.alloc (.cells #[.int .i64 c, .int .i64 f0, .slice a0 n0 d0, .slice a ts.length d, .int .i64 rev] 37)) (w.heap.size + 1) (by simp)).below (Below.alloc (Below.refl _ _) (Nat.le_refl _) (.cells #[.int .i64 rev] 2)) (by simp)).below hb1 (by simp)).facts
  clear hb1
  go_wp2
  refine bodyPost_ret (v := .tuple #[.agg #[.int .i64 0, .int .i64 0, .slice none 0 0], .int .i64 wrong]) (by simp [results, Try.results13, go_sem, z0, z1, z2]) rfl ⟨none, 0, rfl, .inl rfl, below_set3 FB.out (by omega) _ _ _⟩
/-- The result variable at p, another flux at q, both among the old blocks of w1. -/
theorem read_start (w : World) (cs : Array Value) (T : TypeId) (rev : Int) {w1 : World} {W : World} (hW : (((w.alloc (.cells cs T)).alloc (.cells #[.int .i64 0, .int .i64 0, .slice none 0 0] 24)).alloc (.cells #[.int .i64 rev] 2)) = W) (hb1 : Below W.heap.size W w1) :
    ZeroAt w1 (w.heap.size + 1) ∧ BoxAt w1 w.heap.size cs ∧ Below w.heap.size w w1 ∧ w.heap.size + 3 ≤ w1.heap.size := by
  subst hW
  have hz := hb1.size
  simp at hz
  refine ⟨((ZeroAt.new _ (w.heap.size + 1) (by simp)).below (Below.alloc (Below.refl _ _) (Nat.le_refl _) _) (by simp)).below hb1 (by simp), ?_, Below.trans (by go_grown) (hb1.mono (by simp; omega)), by omega⟩
  exact (((BoxAt.new w cs T _ rfl).alloc _ (by simp)).alloc _ (by simp; omega)).below hb1 (by simp; omega)
set_option maxHeartbeats 4000000 in
theorem readingFlux_go (c f0 f : Int) (a0 : Option Addr) (n0 d0 : Nat) (a : Option Addr) (ts : List Int) (d : Nat) (rev wrong : Int) (w : World) (hl : ts.length ≤ 1048576) (hf : ts[0]? = some f) (hr : inB 1 2000000 rev = true) (hs : risesB 0 (rev - 1) ts = true) (h : SlA w a ts) :
    Calls Try.prog 13 #[.agg #[.int .i64 c, .int .i64 f0, .slice a0 n0 d0, .slice a ts.length d, .int .i64 rev], .int .i64 wrong] w (FluxRes (if fluxOk c f (gapsOf ts rev) = true then ⟨c, f, gapsOf ts rev, 0⟩ else .none wrong) w) := by
  have c1 := fun w T b (hb : w.heap.size = b) => within_at 1 2000000 rev w T b hb
  have hr2 := inB_iff.1 hr
  have hr3 := hr2.1
  have hr4 := hr2.2
  have c2 := fun w' (hb : Below w.heap.size w w') => rising_any 0 (rev - 1) a ts d w' hl (by omega) (by omega) (h.below hb (Nat.le_refl _))
  have c3 := fun w' (hb : Below w.heap.size w w') => timesFlux_any a ts d rev c f w' hl hf (mild_of_rises hr hs) (by omega) (by omega) (h.below hb (Nat.le_refl _))
  have hgl := gapsOf_length ts rev
  have c4 := fun w' g (hg : SlA w' (some ⟨g, 0, none⟩) (gapsOf ts rev)) => validFlux_any c f (some ⟨g, 0, none⟩) (gapsOf ts rev) (gapsOf ts rev).length w' (by omega) hg
  rw [hr] at c1
  rw [hs] at c2
  unfold TimesFluxPost at c3
  have hn : 0 < ts.length := (List.getElem?_eq_some_iff.1 hf).1
  generalize gapsOf ts rev = gs at c3 c4 hgl ⊢
  generalize fluxOk c f gs = q at c4 ⊢
  have C1 := Lib.hid c1; have C2 := Lib.hid c2; have C3 := Lib.hid c3; have C4 := Lib.hid c4; clear c1 c2 c3 c4 hr hs h hr2 hf hgl
  have h0 : ((ts.length : Int) == 0) = false := by rw [beq_eq_false_iff_ne]; omega
  cases q
  all_goals
    go_enter Try.func13, Try.ntmps13
    go_wp2_with fail
    refine (C1.out _ _ _ (by simp)).mono ?_
    rintro e w' ⟨rfl, rfl⟩
    go_wp2_with fail
    refine (C2.out _ (by go_grown)).mono ?_
    rintro e w1 ⟨rfl, hb1⟩
    have R1 := Lib.hid (read_start w _ _ _ rfl hb1)
    have b0 := R1.out.2.1 0 _ rfl; have b3 := R1.out.2.1 3 _ rfl; have b4 := R1.out.2.1 4 _ rfl
    clear hb1
    go_wp2_with fail
    refine (C3.out _ R1.out.2.2.1).mono ?_
    rintro e w2 ⟨g, rfl, hrow, hg, hb2⟩
    have hz2 := hb2.size
    have R2 := Lib.hid (show ZeroAt w2 (w.heap.size + 1) ∧ Below w.heap.size w w2 ∧ w.heap.size + 3 ≤ w2.heap.size from ⟨R1.out.1.below hb2 (by have := R1.out.2.2.2; omega), R1.out.2.2.1.trans (hb2.mono (by have := R1.out.2.2.2; omega)), by have := R1.out.2.2.2; omega⟩)
    have hgl : g < w2.heap.size := hrow.lt
    have HR := Lib.hid hrow
    have h3 := R1.out.2.2.2
    clear hb2 b0 b3 b4 hrow R1
    have hW : Below w2.heap.size w2 (w2.alloc (.cells #[.int .i64 c, .int .i64 f, .slice (some ⟨g, 0, none⟩) gs.length gs.length] 24)) := (Below.refl _ _).alloc (Nat.le_refl _) _
    have HW := Lib.hid hW; clear hW
    have F3 := Lib.hid (FluxAt.new w2 c f (some ⟨g, 0, none⟩) gs.length gs.length 24 w2.heap.size rfl)
    go_wp2_with fail
    refine (C4.out _ g (HR.out.below HW.out hgl).sl).mono ?_
    rintro e w4 ⟨rfl, hb4⟩
    have hz4 := hb4.size
    simp at hz4
    have HB4 := Lib.hid (show Below w2.heap.size w2 w4 from HW.out.trans (hb4.mono (by simp)))
    obtain ⟨x0, x1, x2⟩ := F3.out.below hb4 (by simp)
    obtain ⟨z0, z1, z2, y0, y1, y2⟩ := (R2.out.1.below HB4.out (by have := R2.out.2.2; omega)).facts
    have FB := Lib.hid (show Below w.heap.size w w4 from R2.out.2.1.trans (HB4.out.mono (by have := R2.out.2.2; omega)))
    have HR4 := Lib.hid (HR.out.below HB4.out hgl)
    clear hb4
    go_wp2
  · refine bodyPost_ret (v := .tuple #[.agg #[.int .i64 0, .int .i64 0, .slice none 0 0], .int .i64 wrong]) (by simp [results, Try.results13, go_sem, z0, z1, z2]) rfl ⟨none, 0, rfl, .inl rfl, below_set3 FB.out (by omega) _ _ _⟩
  · refine bodyPost_ret (v := .tuple #[.agg #[.int .i64 c, .int .i64 f, .slice (some ⟨g, 0, none⟩) gs.length gs.length], .int .i64 0]) (by simp [results, Try.results13, go_sem, z0, z1, z2]) rfl ⟨some ⟨g, 0, none⟩, gs.length, rfl, ?_, below_set3 FB.out (by omega) _ _ _⟩
    exact (HR4.out.set3 _ _ _ (by omega)).slO (by omega)
theorem readingFlux_any (c f0 : Int) (a0 : Option Addr) (n0 d0 : Nat) (a : Option Addr) (ts : List Int) (d : Nat) (rev wrong : Int) (w : World) (hl : ts.length ≤ 1048576) (h : SlA w a ts) :
    Calls Try.prog 13 #[.agg #[.int .i64 c, .int .i64 f0, .slice a0 n0 d0, .slice a ts.length d, .int .i64 rev], .int .i64 wrong] w (FluxRes (mkVal c ts rev wrong) w) := by
  unfold mkVal
  by_cases hn : ts.length = 0
  · rw [if_pos hn, hn]; exact readingFlux_none c f0 a0 n0 d0 a d rev wrong w
  · rw [if_neg hn]
    by_cases hr : inB 1 2000000 rev = true
    · by_cases hs : risesB 0 (rev - 1) ts = true
      · obtain ⟨f, hf⟩ := getOf (show 0 < ts.length by omega)
        have h1 := readingFlux_go c f0 f a0 n0 d0 a ts d rev wrong w hl hf hr hs h
        rw [hf, hr, hs]
        simpa using h1
      · have hs' : risesB 0 (rev - 1) ts = false := by simpa using hs
        rw [if_neg (by intro h; exact hs h.2.1)]
        exact readingFlux_r c f0 a0 n0 d0 a ts d rev wrong w hl (by omega) hr hs' h
    · rw [if_neg (by intro h; exact hr h.1)]
      exact readingFlux_w c f0 a0 n0 d0 a ts.length d rev wrong w (by omega) (by simpa using hr)
end Go.Proofs.Ytoehejikohicfaa
