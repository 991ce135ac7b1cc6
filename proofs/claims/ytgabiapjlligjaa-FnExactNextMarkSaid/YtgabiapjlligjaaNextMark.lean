/- slices.IndexFunc at marks, impl.NextMark, spec.NextMark -/
import Derived.Test.YtgabiapjlligjaaMarks
namespace Go.Proofs.Ytgabiapjlligjaa
open Go.RowKit
set_option maxRecDepth 20000
set_option linter.unusedVariables false
/-- The index of the first mark from a place on, -1 if there is none. -/
def geIdx (at_ : Int) : Nat → List MarkV → Int
  | _, [] => -1
  | k, e :: r => if at_ ≤ e.f1 then (k : Int) else geIdx at_ (k + 1) r
theorem geIdx_bd (at_ : Int) : ∀ (es : List MarkV) (k : Nat), -1 ≤ geIdx at_ k es ∧ geIdx at_ k es < k + es.length
  | [], k => by simp only [geIdx, List.length_nil]; omega
  | e :: r, k => by
    have := geIdx_bd at_ r (k + 1)
    unfold geIdx
    simp only [List.length_cons]
    split <;> omega
def nextOk (at_ : Int) (es : List MarkV) : Bool := (decide (0 < es.length) && mkValid 8000 es) && inB 0 7999 at_
def nextV (at_ : Int) (es : List MarkV) : Int := if nextOk at_ es = true then (if geIdx at_ 0 es < 0 then 0 else geIdx at_ 0 es) else 0
set_option maxHeartbeats 1000000 in
theorem nextMark1_any (e : MarkV) (at_ : Int) (p : Nat) (w : World) (hp : w.cell? ⟨p, 0, none⟩ = some (.int .i64 at_)) :
    Calls Try.prog 71 #[.agg #[.int .i64 e.f0, .int .i64 e.f1, .int .i64 e.f2], .pointer (some ⟨p, 0, none⟩)] w fun x w' => x = .returned (.bool (decide (at_ ≤ e.f1))) ∧ Below w.heap.size w w' := by
  have hlt := World.block_lt_of_cell? w _ hp
  have hp' : (w.alloc (.cells #[.int .i64 e.f0, .int .i64 e.f1, .int .i64 e.f2] 95)).cell? ⟨p, 0, none⟩ = some (.int .i64 at_) := by
    rw [((Below.refl w.heap.size w).alloc (Nat.le_refl _) _).cell (p := ⟨p, 0, none⟩) hlt]; exact hp
  go_enter Try.func71, Try.ntmps71
  go_wp2
  go_ret
  exact ⟨rfl, by go_grown⟩
set_option maxHeartbeats 2000000 in
theorem indexMark_any (a : Option Addr) (es : List MarkV) (c : Nat) (at_ : Int) (p : Nat) (w : World) (hm : es.length ≤ 1048576) (h : SlS rowMark w a es) (hp : w.cell? ⟨p, 0, none⟩ = some (.int .i64 at_)) :
    Calls Try.prog 70 #[.slice a es.length c, .func (.func 71) #[] #[.pointer (some ⟨p, 0, none⟩)]] w fun x w' => x = .returned (.int .i64 (geIdx at_ 0 es)) ∧ Below w.heap.size w w' := by
  have hlt := World.block_lt_of_cell? w _ hp
  go_enter Try.func70, Try.ntmps70
  go_wp2
  go_loopw [5, 8] (fun _ i wr => ∃ (k : Nat), k ≤ es.length ∧ i = .int .i64 k ∧ Hid (geIdx at_ 0 es = geIdx at_ k (es.drop k)) ∧ Below w.heap.size w wr) (fun _ i _ => es.length - (intOf i).toNat)
  case atStart => exact ⟨0, Nat.zero_le _, rfl, by unfold Hid; simp, Below.refl _ _⟩
  case round =>
    obtain ⟨k, hk, rfl, hR, hb⟩ := hrel
    by_cases hlt2 : k < es.length
    · obtain ⟨e, hx⟩ : ∃ e, es[k]? = some e := ⟨es[k], by simp [hlt2]⟩
      obtain ⟨b, off, rfl, hbl, hc⟩ := (h.below hb (Nat.le_refl _)).at rowMark_len hx
      have c0 : wr.cell? ⟨b, off + k * 3, none⟩ = some (.int .i64 e.f0) := hc 0 _ rfl
      have c1 : wr.cell? ⟨b, off + k * 3 + 1, none⟩ = some (.int .i64 e.f1) := hc 1 _ rfl
      have c2 : wr.cell? ⟨b, off + k * 3 + 2, none⟩ = some (.int .i64 e.f2) := hc 2 _ rfl
      have hR' := hR.out
      rw [drop_cons_of hx, geIdx] at hR'
      have CL := Lib.hid (nextMark1_any e at_ p wr (by rw [hb.cell (p := ⟨p, 0, none⟩) hlt]; exact hp))
      have H := Lib.hid (And.intro h (And.intro hc hx)); clear h hc hx
      by_cases hge : at_ ≤ e.f1
      · rw [if_pos hge] at hR'
        rw [decide_eq_true hge] at CL
        have HR := Lib.hid hR'; clear hR' hge
        go_wp2_with fail
        refine CL.out.mono ?_
        rintro e_ w1 ⟨rfl, hb1⟩
        go_wp2
        go_ret
        exact ⟨ret_int HR.out.symm, hb.trans (hb1.mono hb.size)⟩
      · rw [if_neg hge] at hR'
        rw [decide_eq_false hge] at CL
        have HR := Lib.hid hR'; clear hR' hge
        go_wp2_with fail
        refine CL.out.mono ?_
        rintro e_ w1 ⟨rfl, hb1⟩
        clear c0 c1 c2
        go_wp2
        go_roundw
        case rel => exact ⟨k + 1, by omega, by go_num, by unfold Hid; exact HR.out, hb.trans (hb1.mono hb.size)⟩
        case measure => simp [intOf]; omega
    · obtain rfl : k = es.length := by omega
      have HR := Lib.hid (show geIdx at_ 0 es = -1 by rw [hR.out]; simp [geIdx])
      go_wp2
      go_ret
      exact ⟨ret_int HR.out.symm, hb⟩
theorem nextV_bad {at_ : Int} {es : List MarkV} (h : nextOk at_ es = false) : nextV at_ es = 0 := by unfold nextV; rw [h]; rfl
set_option maxHeartbeats 4000000 in
theorem nextMark_g (a : Option Addr) (c : Nat) (es : List MarkV) (at_ : Int) (hm : es.length ≤ 1048576) (w : World) (h : SlS rowMark w a es) :
    Calls Try.prog 20 #[.slice a es.length c, .int .i64 at_] w fun x w' => x = .returned (.tuple #[.int .i64 (nextV at_ es), .bool (nextOk at_ es)]) ∧ Below w.heap.size w w' := by
  have hW0 : Below w.heap.size w (w.alloc (.cells #[.int .i64 at_] 2)) := (Below.refl _ _).alloc (Nat.le_refl _) _
  by_cases h0 : es.length = 0
  · have hbad : nextOk at_ es = false := by unfold nextOk; simp [h0]
    rw [hbad, nextV_bad hbad, h0]
    clear h hbad
    go_enter Try.func20, Try.ntmps20
    go_wp2
    go_ret2
    exact ⟨rfl, hW0⟩
  · have h0' : ((es.length : Int) == 0) = false := beq_eq_false_iff_ne.2 (by omega)
    have hnil : ¬ es = [] := fun e => h0 (by rw [e]; rfl)
    have VM := Lib.hid (fun w' (hb : Below w.heap.size w w') => validMarks_any a es c 8000 w' hm (h.below hb (Nat.le_refl _)))
    have IP := Lib.hid (fun w => isPlace_any at_ 8000 w (by omega) (by omega))
    have hcell : (w.alloc (.cells #[.int .i64 at_] 2)).cell? ⟨w.heap.size, 0, none⟩ = some (.int .i64 at_) := cell_new w _ _
    by_cases h1 : mkValid 8000 es = true
    · rw [h1] at VM
      by_cases h2 : inB 0 (8000 - 1) at_ = true
      · rw [h2] at IP
        have hok : nextOk at_ es = true := by unfold nextOk; rw [h1, show (7999 : Int) = 8000 - 1 from rfl, h2]; simp; omega
        have IX := Lib.hid (fun w' (hb : Below w.heap.size w w') (hp : w'.cell? ⟨w.heap.size, 0, none⟩ = some (.int .i64 at_)) => indexMark_any a es c at_ w.heap.size w' hm (h.below hb (Nat.le_refl _)) hp)
        have hbd := geIdx_bd at_ es 0
        have HV := Lib.hid (show nextV at_ es = (if geIdx at_ 0 es < 0 then 0 else geIdx at_ 0 es) by unfold nextV; rw [if_pos hok])
        rw [hok]
        generalize geIdx at_ 0 es = g at *
        clear h h1 h2 hok h0
        have HC := Lib.hid hcell; have HW := Lib.hid hW0
        clear hW0
        by_cases hg : g < 0
        · have hgm : g = -1 := by omega
          subst hgm
          go_enter Try.func20, Try.ntmps20
          go_wp2_with fail
          refine (VM.out _ HW.out).mono ?_
          rintro e w1 ⟨rfl, hb1⟩
          have hc1 : w1.cell? ⟨w.heap.size, 0, none⟩ = some (.int .i64 at_) := by rw [hb1.cell (p := ⟨w.heap.size, 0, none⟩) (by simp)]; exact HC.out
          have B1 := Lib.hid (HW.out.trans (hb1.mono HW.out.size))
          have L1 := Lib.hid (show w.heap.size < w1.heap.size from Nat.lt_of_lt_of_le (by simp) hb1.size)
          clear hb1 hcell
          go_wp2_with fail
          refine (IP.out _).mono ?_
          rintro e w2 ⟨rfl, hb2⟩
          have hc2 : w2.cell? ⟨w.heap.size, 0, none⟩ = some (.int .i64 at_) := by rw [hb2.cell (p := ⟨w.heap.size, 0, none⟩) L1.out]; exact hc1
          have B2 := Lib.hid (B1.out.trans (hb2.mono B1.out.size))
          have HC2 := Lib.hid hc2
          clear hb2 hc1 hc2
          go_wp2_with fail
          refine (IX.out _ B2.out HC2.out).mono ?_
          rintro e w3 ⟨rfl, hb3⟩
          go_wp2
          go_ret2
          exact ⟨by rw [HV.out]; rfl, B2.out.trans (hb3.mono B2.out.size)⟩
        · have HV2 := Lib.hid (show nextV at_ es = g by rw [HV.out, if_neg hg])
          have hmx : max g 0 = g := by omega
          go_enter Try.func20, Try.ntmps20
          go_wp2_with fail
          refine (VM.out _ HW.out).mono ?_
          rintro e w1 ⟨rfl, hb1⟩
          have hc1 : w1.cell? ⟨w.heap.size, 0, none⟩ = some (.int .i64 at_) := by rw [hb1.cell (p := ⟨w.heap.size, 0, none⟩) (by simp)]; exact HC.out
          have B1 := Lib.hid (HW.out.trans (hb1.mono HW.out.size))
          have L1 := Lib.hid (show w.heap.size < w1.heap.size from Nat.lt_of_lt_of_le (by simp) hb1.size)
          clear hb1 hcell
          go_wp2_with fail
          refine (IP.out _).mono ?_
          rintro e w2 ⟨rfl, hb2⟩
          have hc2 : w2.cell? ⟨w.heap.size, 0, none⟩ = some (.int .i64 at_) := by rw [hb2.cell (p := ⟨w.heap.size, 0, none⟩) L1.out]; exact hc1
          have B2 := Lib.hid (B1.out.trans (hb2.mono B1.out.size))
          have HC2 := Lib.hid hc2
          clear hb2 hc1 hc2
          go_wp2_with fail
          refine (IX.out _ B2.out HC2.out).mono ?_
          rintro e w3 ⟨rfl, hb3⟩
          go_wp2
          go_ret2
          exact ⟨by rw [HV2.out]; rfl, B2.out.trans (hb3.mono B2.out.size)⟩
      · have h2 : inB 0 (8000 - 1) at_ = false := by simpa using h2
        rw [h2] at IP
        have hbad : nextOk at_ es = false := by unfold nextOk; rw [show (7999 : Int) = 8000 - 1 from rfl, h2]; simp
        rw [hbad, nextV_bad hbad]
        clear h h1 h2 hbad h0
        have HC := Lib.hid hcell; have HW := Lib.hid hW0
        clear hW0
        go_enter Try.func20, Try.ntmps20
        go_wp2_with fail
        refine (VM.out _ HW.out).mono ?_
        rintro e w1 ⟨rfl, hb1⟩
        have hc1 : w1.cell? ⟨w.heap.size, 0, none⟩ = some (.int .i64 at_) := by rw [hb1.cell (p := ⟨w.heap.size, 0, none⟩) (by simp)]; exact HC.out
        have B1 := Lib.hid (HW.out.trans (hb1.mono HW.out.size))
        clear hb1 hcell
        go_wp2_with fail
        refine (IP.out _).mono ?_
        rintro e w2 ⟨rfl, hb2⟩
        go_wp2
        go_ret2
        exact ⟨rfl, B1.out.trans (hb2.mono B1.out.size)⟩
    · have h1 : mkValid 8000 es = false := by simpa using h1
      rw [h1] at VM
      have hbad : nextOk at_ es = false := by unfold nextOk; rw [h1]; simp
      rw [hbad, nextV_bad hbad]
      clear h h1 hbad h0
      have HW := Lib.hid hW0
      clear hW0
      go_enter Try.func20, Try.ntmps20
      go_wp2_with fail
      refine (VM.out _ HW.out).mono ?_
      rintro e w1 ⟨rfl, hb1⟩
      go_wp2
      go_ret2
      exact ⟨rfl, HW.out.trans (hb1.mono HW.out.size)⟩
set_option maxHeartbeats 4000000 in
theorem specNextMark_g (a : Option Addr) (c : Nat) (es : List MarkV) (at_ : Int) (hm : es.length ≤ 1048576) (w : World) (h : SlS rowMark w a es) :
    Calls Try.prog 19 #[.slice a es.length c, .int .i64 at_] w fun x w' => x = .returned (.tuple #[.int .i64 (nextV at_ es), .bool (nextOk at_ es)]) ∧ Below w.heap.size w w' := by
  have VM := Lib.hid (fun w' (hb : Below w.heap.size w w') => specValidMarks_any a es c 8000 w' hm (h.below hb (Nat.le_refl _)))
  have IP := Lib.hid (fun w => l00In_any at_ 0 7999 w)
  by_cases h1 : mkValid 8000 es = true
  · rw [h1] at VM
    by_cases h0 : es.length = 0
    · have hbad : nextOk at_ es = false := by unfold nextOk; simp [h0]
      rw [hbad, nextV_bad hbad]
      have h0i : ((es.length : Int) == 0) = true := by simp [h0]
      have hes : (es.length : Int) = 0 := by omega
      clear h hbad h1
      rw [h0] at VM ⊢
      clear h0 h0i hes
      go_enter Try.func19, Try.ntmps19
      go_wp2_with fail
      refine (VM.out _ (Below.refl _ _)).mono ?_
      rintro e w1 ⟨rfl, hb1⟩
      go_wp2
      go_ret2
      exact ⟨rfl, hb1⟩
    · have h0' : ((es.length : Int) == 0) = false := beq_eq_false_iff_ne.2 (by omega)
      have hnil : ¬ es = [] := fun e => h0 (by rw [e]; rfl)
      by_cases h2 : inB 0 7999 at_ = true
      · rw [h2] at IP
        have hok : nextOk at_ es = true := by unfold nextOk; rw [h1, h2]; simp; omega
        have HV := Lib.hid (show nextV at_ es = (if geIdx at_ 0 es < 0 then 0 else geIdx at_ 0 es) by unfold nextV; rw [if_pos hok])
        rw [hok]
        clear h1 h2 hok h0
        have HH := Lib.hid h; clear h
        go_enter Try.func19, Try.ntmps19
        go_wp2_with fail
        refine (VM.out _ (Below.refl _ _)).mono ?_
        rintro e w1 ⟨rfl, hb1⟩
        go_wp2_with fail
        refine (IP.out _).mono ?_
        rintro e w2 ⟨rfl, rfl⟩
        have HB1 := Lib.hid hb1; clear hb1
        go_wp2
        go_loopw [6] (fun i wr => ∃ (k : Nat), k ≤ es.length ∧ i = .int .i64 k ∧ Hid (geIdx at_ 0 es = geIdx at_ k (es.drop k)) ∧ Below w.heap.size w wr) (fun i _ => es.length - (intOf i).toNat)
        case atStart => exact ⟨0, Nat.zero_le _, rfl, by unfold Hid; simp, HB1.out⟩
        case round =>
          obtain ⟨k, hk, rfl, hR, hb⟩ := hrel
          by_cases hlt2 : k < es.length
          · obtain ⟨e, hx⟩ : ∃ e, es[k]? = some e := ⟨es[k], by simp [hlt2]⟩
            obtain ⟨b, off, rfl, hbl, hc⟩ := (HH.out.below hb (Nat.le_refl _)).at rowMark_len hx
            have c1 : wr.cell? ⟨b, off + k * 3 + 1, none⟩ = some (.int .i64 e.f1) := hc 1 _ rfl
            have hR' := hR.out
            rw [drop_cons_of hx, geIdx] at hR'
            have H := Lib.hid (And.intro hc hx); clear hc hx
            by_cases hge : at_ ≤ e.f1
            · rw [if_pos hge] at hR'
              have HR := Lib.hid hR'; clear hR'
              go_wp2
              go_ret2
              refine ⟨?_, hb⟩
              rw [HV.out, HR.out, if_neg (by omega)]; rfl
            · rw [if_neg hge] at hR'
              have HR := Lib.hid hR'; clear hR'
              go_wp2
              go_roundw
              case rel => exact ⟨k + 1, by omega, by go_num, by unfold Hid; exact HR.out, hb⟩
              case measure => simp [intOf]; omega
          · obtain rfl : k = es.length := by omega
            have HR := Lib.hid (show geIdx at_ 0 es = -1 by rw [hR.out]; simp [geIdx])
            go_wp2
            go_ret2
            refine ⟨?_, hb⟩
            rw [HV.out, HR.out]; rfl
      · have h2 : inB 0 7999 at_ = false := by simpa using h2
        rw [h2] at IP
        have hbad : nextOk at_ es = false := by unfold nextOk; rw [h2]; simp
        rw [hbad, nextV_bad hbad]
        clear h h1 h2 hbad h0
        go_enter Try.func19, Try.ntmps19
        go_wp2_with fail
        refine (VM.out _ (Below.refl _ _)).mono ?_
        rintro e w1 ⟨rfl, hb1⟩
        go_wp2_with fail
        refine (IP.out _).mono ?_
        rintro e w2 ⟨rfl, rfl⟩
        go_wp2
        go_ret2
        exact ⟨rfl, hb1⟩
  · have h1 : mkValid 8000 es = false := by simpa using h1
    rw [h1] at VM
    have hbad : nextOk at_ es = false := by unfold nextOk; rw [h1]; simp
    rw [hbad, nextV_bad hbad]
    clear h h1 hbad
    go_enter Try.func19, Try.ntmps19
    go_wp2_with fail
    refine (VM.out _ (Below.refl _ _)).mono ?_
    rintro e w1 ⟨rfl, hb1⟩
    go_wp2
    go_ret2
    exact ⟨rfl, hb1⟩
end Go.Proofs.Ytgabiapjlligjaa
