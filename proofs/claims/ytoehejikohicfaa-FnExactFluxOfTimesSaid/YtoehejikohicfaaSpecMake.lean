/- spec.l04Make, spec.l04Done -/
import Derived.Test.YtoehejikohicfaaReading
namespace Go.Proofs.Ytoehejikohicfaa
open Go.RowKit
set_option linter.unusedVariables false
def MadeRes (r : FluxVal) (ok : Bool) (w : World) (e : Ending) (w' : World) : Prop :=
  ∃ a cap, e = .returned (.tuple #[.agg #[.int .i64 r.cell, .int .i64 r.first, .slice a r.gaps.length cap], .bool ok]) ∧ SlO w' w.heap.size a r.gaps ∧ Below w.heap.size w w'
theorem zero_start (w : World) {w1 : World} (hb1 : Below (w.alloc (.cells #[.int .i64 0, .int .i64 0, .slice none 0 0] 24)).heap.size (w.alloc (.cells #[.int .i64 0, .int .i64 0, .slice none 0 0] 24)) w1) :
    ZeroAt w1 w.heap.size ∧ Below w.heap.size w w1 ∧ w.heap.size + 1 ≤ w1.heap.size := by
  have hz := hb1.size
  simp at hz
  exact ⟨(ZeroAt.new w w.heap.size rfl).below hb1 (by simp), Below.trans (by go_grown) (hb1.mono (by simp)), hz⟩
set_option maxHeartbeats 4000000 in
theorem l04Make_no (c : Int) (a : Option Addr) (ts : List Int) (d : Nat) (rev : Int) (w : World) (hl : ts.length ≤ 1048576) (b1 : -9223372036854775808 < rev) (b2 : rev ≤ 9223372036854775807) (hno : risesB 0 (rev - 1) ts = false ∨ 2000000 < rev) (h : SlA w a ts) :
    Calls Try.prog 12 #[.slice a ts.length d, .int .i64 rev, .int .i64 c] w (MadeRes (.none 0) false w) := by
  have c2 := fun w' (hb : Below w.heap.size w w') => l00Rises_any 0 (rev - 1) a ts d w' hl (h.below hb (Nat.le_refl _))
  have ew : IntKind.i64.wrap (rev - 1) = rev - 1 := IntWalk.i64_in _ (by omega)
  have ew2 : wrap64 (rev - 1) = rev - 1 := by unfold wrap64; omega
  generalize risesB 0 (rev - 1) ts = q at c2 hno
  have C2 := Lib.hid c2; clear c2 h
  cases q
  · clear hno
    go_enter Try.func12, Try.ntmps12
    go_wp2_with fail
    refine (C2.out _ (by go_grown)).mono ?_
    rintro e w1 ⟨rfl, hb1⟩
    have R := Lib.hid (zero_start w hb1)
    obtain ⟨z0, z1, z2, y0, y1, y2⟩ := R.out.1.facts
    clear hb1
    go_wp2
    refine bodyPost_ret (v := .tuple #[.agg #[.int .i64 0, .int .i64 0, .slice none 0 0], .bool false]) (by simp [results, Try.results12, go_sem, z0, z1, z2]) rfl ⟨none, 0, rfl, .inl rfl, below_set3 R.out.2.1 (by omega) _ _ _⟩
  · have hg : 2000000 < rev := by rcases hno with h | h; cases h; exact h
    have hd : decide (2000000 < rev) = true := by simpa using hg
    clear hno
    go_enter Try.func12, Try.ntmps12
    go_wp2_with fail
    refine (C2.out _ (by go_grown)).mono ?_
    rintro e w1 ⟨rfl, hb1⟩
    have R := Lib.hid (zero_start w hb1)
    obtain ⟨z0, z1, z2, y0, y1, y2⟩ := R.out.1.facts
    clear hb1
    go_wp2
    refine bodyPost_ret (v := .tuple #[.agg #[.int .i64 0, .int .i64 0, .slice none 0 0], .bool false]) (by simp [results, Try.results12, go_sem, z0, z1, z2]) rfl ⟨none, 0, rfl, .inl rfl, below_set3 R.out.2.1 (by omega) _ _ _⟩
set_option maxHeartbeats 4000000 in
theorem l04Make_go (c f : Int) (a : Option Addr) (ts : List Int) (d : Nat) (rev : Int) (w : World) (hl : ts.length ≤ 1048576) (hf : ts[0]? = some f) (hr : inB 1 2000000 rev = true) (hs : risesB 0 (rev - 1) ts = true) (h : SlA w a ts) :
    Calls Try.prog 12 #[.slice a ts.length d, .int .i64 rev, .int .i64 c] w (MadeRes (if fluxOk c f (gapsOf ts rev) = true then ⟨c, f, gapsOf ts rev, 0⟩ else .none 0) (fluxOk c f (gapsOf ts rev)) w) := by
  have hr2 := inB_iff.1 hr
  have hr3 := hr2.1
  have hr4 := hr2.2
  have c2 := fun w' (hb : Below w.heap.size w w') => l00Rises_any 0 (rev - 1) a ts d w' hl (h.below hb (Nat.le_refl _))
  have c3 := fun w' (hb : Below w.heap.size w w') => l02Times_any a ts d rev c f w' hl hf (mild_of_rises hr hs) (by omega) (by omega) (h.below hb (Nat.le_refl _))
  have hgl := gapsOf_length ts rev
  have c4 := fun w' p x cap (hf : FluxAt w' p c f x (gapsOf ts rev).length cap) (hg : SlA w' x (gapsOf ts rev)) => l02Ok_any p c f x (gapsOf ts rev) cap w' (by omega) hf hg
  rw [hs] at c2
  have hd : decide (2000000 < rev) = false := by simpa using hr4
  generalize gapsOf ts rev = gs at c3 c4 hgl ⊢
  generalize fluxOk c f gs = q at c4 ⊢
  have C2 := Lib.hid c2; have C3 := Lib.hid c3; have C4 := Lib.hid c4; clear c2 c3 c4 hr hs h hr2 hf hgl
  cases q
  all_goals
    go_enter Try.func12, Try.ntmps12
    go_wp2_with fail
    refine (C2.out _ (by go_grown)).mono ?_
    rintro e w1 ⟨rfl, hb1⟩
    have R1 := Lib.hid (zero_start w hb1)
    clear hb1
    go_wp2_with fail
    refine (C3.out _ R1.out.2.1).mono ?_
    rintro e w2 ⟨x, cap, rfl, hso, hb2⟩
    have hz2 := hb2.size
    have R2 := Lib.hid (show ZeroAt w2 w.heap.size ∧ Below w.heap.size w w2 ∧ w.heap.size + 1 ≤ w2.heap.size from ⟨R1.out.1.below hb2 (by have := R1.out.2.2; omega), R1.out.2.1.trans (hb2.mono (by have := R1.out.2.2; omega)), by have := R1.out.2.2; omega⟩)
    have HS := Lib.hid (hso.mono (show w.heap.size + 1 ≤ w1.heap.size from R1.out.2.2))
    clear hb2 hso R1
    have F3 := Lib.hid (FluxAt.new w2 c f x gs.length cap 24 w2.heap.size rfl)
    have HW := Lib.hid ((Below.refl w2.heap.size w2).alloc (Nat.le_refl _) (.cells #[.int .i64 c, .int .i64 f, .slice x gs.length cap] 24))
    go_wp2_with fail
    refine (C4.out _ _ _ _ F3.out (HS.out.sl.below HW.out (Nat.le_refl _))).mono ?_
    rintro e w4 ⟨rfl, hb4⟩
    have hz4 := hb4.size
    simp at hz4
    have HB4 := Lib.hid (show Below w2.heap.size w2 w4 from HW.out.trans (hb4.mono (by simp)))
    obtain ⟨x0, x1, x2⟩ := F3.out.below hb4 (by simp)
    obtain ⟨z0, z1, z2, y0, y1, y2⟩ := (R2.out.1.below HB4.out (by have := R2.out.2.2; omega)).facts
    have FB := Lib.hid (show Below w.heap.size w w4 from R2.out.2.1.trans (HB4.out.mono (by have := R2.out.2.2; omega)))
    have HS4 := Lib.hid (HS.out.below HB4.out (Nat.le_refl _))
    clear hb4
    go_wp2
  · refine bodyPost_ret (v := .tuple #[.agg #[.int .i64 0, .int .i64 0, .slice none 0 0], .bool false]) (by simp [results, Try.results12, go_sem, z0, z1, z2]) rfl ⟨none, 0, rfl, .inl rfl, below_set3 FB.out (by omega) _ _ _⟩
  · refine bodyPost_ret (v := .tuple #[.agg #[.int .i64 c, .int .i64 f, .slice x gs.length cap], .bool true]) (by simp [results, Try.results12, go_sem, z0, z1, z2]) rfl ⟨x, cap, rfl, ?_, below_set3 FB.out (by omega) _ _ _⟩
    exact (HS4.out.set3 _ _ _ (by omega)).mono (by omega)
def makeB (c : Int) (ts : List Int) (rev : Int) : Bool := inB 1 2000000 rev && (risesB 0 (rev - 1) ts && fluxOk c (ts[0]?.getD 0) (gapsOf ts rev))
def madeVal (c : Int) (ts : List Int) (rev : Int) : FluxVal := if makeB c ts rev = true then ⟨c, ts[0]?.getD 0, gapsOf ts rev, 0⟩ else .none 0
theorem l04Make_any (c : Int) (a : Option Addr) (ts : List Int) (d : Nat) (rev : Int) (w : World) (hl : ts.length ≤ 1048576) (hn : 0 < ts.length) (b1 : -9223372036854775808 < rev) (b2 : rev ≤ 9223372036854775807) (h : SlA w a ts) :
    Calls Try.prog 12 #[.slice a ts.length d, .int .i64 rev, .int .i64 c] w (MadeRes (madeVal c ts rev) (makeB c ts rev) w) := by
  obtain ⟨f, hf⟩ := getOf hn
  by_cases hs : risesB 0 (rev - 1) ts = true
  · have hb := risesB_bd hs (List.mem_of_getElem? hf)
    by_cases hr : rev ≤ 2000000
    · have hr1 : inB 1 2000000 rev = true := inB_iff.2 (by omega)
      have h1 := l04Make_go c f a ts d rev w hl hf hr1 hs h
      unfold madeVal makeB
      rw [hf, hr1, hs]
      simpa using h1
    · have h1 := l04Make_no c a ts d rev w hl b1 b2 (.inr (by omega)) h
      have e : makeB c ts rev = false := by unfold makeB; rw [inB_hi (by omega)]; rfl
      unfold madeVal; rw [e]; exact h1
  · have hs' : risesB 0 (rev - 1) ts = false := by simpa using hs
    have h1 := l04Make_no c a ts d rev w hl b1 b2 (.inl hs') h
    have e : makeB c ts rev = false := by unfold makeB; rw [hs']; simp
    unfold madeVal; rw [e]; exact h1
theorem mkVal_eq (c : Int) (ts : List Int) (rev wrong : Int) (hn : 0 < ts.length) : mkVal c ts rev wrong = if makeB c ts rev = true then ⟨c, ts[0]?.getD 0, gapsOf ts rev, 0⟩ else .none wrong := by
  unfold mkVal makeB
  rw [if_neg (by omega)]
  simp only [Bool.and_eq_true]
end Go.Proofs.Ytoehejikohicfaa
