/- impl.ValidMarks, spec.l07Ok, spec.ValidMarks -/
import Derived.Test.YtidedgcmpkahgaaRecMark
import Derived.Test.YtidedgcmpkahgaaMarkTab
import Derived.Test.YtidedgcmpkahgaaBoxes
namespace Go.Proofs.Ytidedgcmpkahgaa
open Go.RowKit
set_option linter.unusedVariables false
/-- A mark of a track whose place is 'least' at least. -/
def mkOne (total least : Int) (e : MarkV) : Bool := inB 1 3 e.f0 && (inB least (total - 1) e.f1 && inB 0 (total - 1) e.f2)
def mkRise (total : Int) : Int → List MarkV → Bool
  | _, [] => true
  | least, e :: r => mkOne total least e && mkRise total (e.f1 + 1) r
def mkList (total : Int) (es : List MarkV) : Bool := decide (es.length ≤ 64) && mkRise total 0 es
def mkValid (total : Int) (es : List MarkV) : Bool := inB 1 8000 total && mkList total es
theorem drop_cons_of {E : Type} {es : List E} {k : Nat} {e : E} (h : es[k]? = some e) : es.drop k = e :: es.drop (k + 1) := by
  obtain ⟨hlt, he⟩ := List.getElem?_eq_some_iff.1 h
  rw [List.drop_eq_getElem_cons hlt, he]
theorem box3 (w : World) (x y z : Value) (T : TypeId) (w2 : World) (hb : Below (w.alloc (.cells #[x, y, z] T)).heap.size (w.alloc (.cells #[x, y, z] T)) w2) :
    w2.cell? ⟨w.heap.size, 0, none⟩ = some x ∧ w2.cell? ⟨w.heap.size, 1, none⟩ = some y ∧ w2.cell? ⟨w.heap.size, 2, none⟩ = some z := by
  have h := (BoxAt.new w #[x, y, z] T _ rfl).below hb (by simp)
  exact ⟨h 0 _ rfl, h 1 _ rfl, h 2 _ rfl⟩
theorem below_under {w w' : World} {o : Obj} (h : Below w.heap.size (w.alloc o) w') : Below w.heap.size w w' := Below.trans (show Below w.heap.size w (w.alloc o) from (Below.refl _ _).alloc (Nat.le_refl _) _) h
set_option maxHeartbeats 2000000 in
theorem validMarks_in (a : Option Addr) (es : List MarkV) (c : Nat) (total : Int) (w : World) (h1 : inB 1 8000 total = true) (hl : es.length ≤ 64) (h : SlS rowMark w a es) :
    Calls Try.prog 69 #[.slice a es.length c, .int .i64 total] w fun e w' => e = .returned (.bool (mkRise total 0 es)) ∧ Below w.heap.size w w' := by
  obtain ⟨t0, t1⟩ := inB_iff.1 h1
  have HW := Lib.hid (fun w T b hb => within_b 1 8000 total w T b hb)
  rw [h1] at HW
  have IP := Lib.hid (fun n w => isPlace_any n total w (by omega) (by omega))
  clear h1
  go_enter Try.func69, Try.ntmps69
  go_wp2_with (go_at_call 41; refine (HW.out _ _ _ (by simp)).mono ?_; rintro e w1 ⟨rfl, hb1⟩)
  have HB1 := Lib.hid hb1; clear hb1
  go_loopw [5, 19] (fun l i wr => ∃ (k : Nat) (m : Int), k ≤ es.length ∧ i = .int .i64 k ∧ l = .int .i64 m ∧ 0 ≤ m ∧ m ≤ 8000 ∧ Hid (mkRise total 0 es = mkRise total m (es.drop k)) ∧ Below w.heap.size w wr) (fun _ i _ => es.length - (intOf i).toNat)
  case atStart => exact ⟨0, 0, Nat.zero_le _, rfl, rfl, by omega, by omega, by unfold Hid; simp, HB1.out⟩
  case round =>
    obtain ⟨k, m, hk, rfl, rfl, hm0, hm1, hR, hb⟩ := hrel
    by_cases hlt : k < es.length
    · obtain ⟨e, hx⟩ : ∃ e, es[k]? = some e := ⟨es[k], by simp [hlt]⟩
      obtain ⟨b, off, rfl, hbl, hc⟩ := (h.below hb (Nat.le_refl _)).at rowMark_len hx
      have c0 : wr.cell? ⟨b, off + k * 3, none⟩ = some (.int .i64 e.f0) := hc 0 _ rfl
      have c1 : wr.cell? ⟨b, off + k * 3 + 1, none⟩ = some (.int .i64 e.f1) := hc 1 _ rfl
      have c2 : wr.cell? ⟨b, off + k * 3 + 2, none⟩ = some (.int .i64 e.f2) := hc 2 _ rfl
      have H := Lib.hid (And.intro h (And.intro hc hx)); clear h hc hx
      have hR' := hR.out
      rw [drop_cons_of H.out.2.2, mkRise] at hR'
      have IK := Lib.hid (fun w => isKind_any e.f0 w)
      have IW := Lib.hid (fun w T b hb => within_b m (total - 1) e.f1 w T b hb)
      have IB := Lib.hid (fun w => IP.out e.f2 w)
      obtain ⟨x, hxq⟩ : ∃ x, inB 1 3 e.f0 = x := ⟨_, rfl⟩
      rw [hxq] at IK
      cases x with
      | false =>
        have HE := Lib.hid (show mkRise total 0 es = false by rw [hR']; unfold mkOne; rw [hxq]; rfl)
        clear hR' hxq
        go_wp2_with (go_at_call 73; refine (IK.out _).mono ?_; rintro e_ w2 ⟨rfl, hb2⟩)
        go_ret
        exact ⟨ret_bool HE.out.symm, Below.trans (show Below w.heap.size w _ from hb.alloc hb.size _) (hb2.mono (by have := hb.size; simp; omega))⟩
      | true =>
        obtain ⟨y, hyq⟩ : ∃ y, inB m (total - 1) e.f1 = y := ⟨_, rfl⟩
        rw [hyq] at IW
        cases y with
        | false =>
          have HE := Lib.hid (show mkRise total 0 es = false by rw [hR']; unfold mkOne; rw [hyq]; simp)
          clear hR' hxq hyq
          have BX := Lib.hid (fun w2 (hb2 : Below (wr.alloc (.cells #[.int .i64 e.f0, .int .i64 e.f1, .int .i64 e.f2] 58)).heap.size (wr.alloc (.cells #[.int .i64 e.f0, .int .i64 e.f1, .int .i64 e.f2] 58)) w2) => box3 wr _ _ _ 58 w2 hb2)
          go_wp2_with fail
          refine (IK.out _).mono ?_
          rintro e_ w2 ⟨rfl, hb2⟩
          obtain ⟨q0, q1, q2⟩ := BX.out _ hb2
          have HF := Lib.hid (show Below w.heap.size w w2 from Below.trans (show Below w.heap.size w _ from hb.alloc hb.size _) (hb2.mono (by have := hb.size; simp; omega)))
          clear c0 c1 c2 hb2 hb
          go_wp2_with (go_at_call 41; refine (IW.out _ _ _ (by simp)).mono ?_; rintro e_ w3 ⟨rfl, hb3⟩)
          go_ret
          exact ⟨ret_bool HE.out.symm, HF.out.trans (hb3.mono HF.out.size)⟩
        | true =>
          obtain ⟨g0, g1⟩ := inB_iff.1 hyq
          obtain ⟨z, hzq⟩ : ∃ z, inB 0 (total - 1) e.f2 = z := ⟨_, rfl⟩
          rw [hzq] at IB
          have HE := Lib.hid (show mkRise total 0 es = (z && mkRise total (e.f1 + 1) (es.drop (k + 1))) by rw [hR']; unfold mkOne; rw [hxq, hyq, hzq]; simp)
          clear hR' hxq hyq hzq
          have BX := Lib.hid (fun w2 (hb2 : Below (wr.alloc (.cells #[.int .i64 e.f0, .int .i64 e.f1, .int .i64 e.f2] 58)).heap.size (wr.alloc (.cells #[.int .i64 e.f0, .int .i64 e.f1, .int .i64 e.f2] 58)) w2) => box3 wr _ _ _ 58 w2 hb2)
          have HLT := Lib.hid (show wr.heap.size < (wr.alloc (.cells #[.int .i64 e.f0, .int .i64 e.f1, .int .i64 e.f2] 58)).heap.size by simp)
          cases z
          all_goals
            go_wp2_with fail
            refine (IK.out _).mono ?_
            rintro e_ w2 ⟨rfl, hb2⟩
            obtain ⟨q0, q1, q2⟩ := BX.out _ hb2
            have HF := Lib.hid (show Below w.heap.size w w2 from Below.trans (show Below w.heap.size w _ from hb.alloc hb.size _) (hb2.mono (by have := hb.size; simp; omega)))
            have HL2 := Lib.hid (Nat.lt_of_lt_of_le HLT.out hb2.size)
            have HG2 := Lib.hid hb2
            clear c0 c1 c2 hb2 hb
            go_wp2_with fail
            refine (IW.out _ _ _ (by simp)).mono ?_
            rintro e_ w3 ⟨rfl, hb3⟩
            have hb3' := hb3
            clear q0 q1 q2
            obtain ⟨q0, q1, q2⟩ := BX.out _ (HG2.out.trans (hb3'.mono HG2.out.size))
            have HF3 := Lib.hid (HF.out.trans (hb3'.mono HF.out.size))
            have HG3 := Lib.hid (HG2.out.trans (hb3'.mono HG2.out.size))
            clear hb3 hb3'
            go_wp2_with fail
            refine (IB.out _).mono ?_
            rintro e_ w4 ⟨rfl, hb4⟩
            clear q0 q1 q2
            obtain ⟨q0, q1, q2⟩ := BX.out _ (HG3.out.trans (hb4.mono HG3.out.size))
            have HF4 := Lib.hid (HF3.out.trans (hb4.mono HF3.out.size))
            clear hb4
            go_wp2
          · go_ret
            exact ⟨ret_bool HE.out.symm, HF4.out⟩
          · go_roundw
            case rel => exact ⟨k + 1, e.f1 + 1, by omega, by go_num, by go_num, by omega, by omega, by unfold Hid; rw [HE.out]; simp, HF4.out⟩
            case measure => simp [intOf]; omega
    · obtain rfl : k = es.length := by omega
      go_wp2
      go_ret
      exact ⟨ret_bool (by rw [hR.out]; simp [mkRise]), hb⟩
set_option maxHeartbeats 1000000 in
theorem validMarks_any (a : Option Addr) (es : List MarkV) (c : Nat) (total : Int) (w : World) (hm : es.length ≤ 1048576) (h : SlS rowMark w a es) :
    Calls Try.prog 69 #[.slice a es.length c, .int .i64 total] w fun e w' => e = .returned (.bool (mkValid total es)) ∧ Below w.heap.size w w' := by
  have HW := Lib.hid (fun w T b hb => within_b 1 8000 total w T b hb)
  by_cases h1 : inB 1 8000 total = true
  · by_cases hl : es.length ≤ 64
    · have he : mkValid total es = mkRise total 0 es := by unfold mkValid mkList; rw [h1]; simp [hl]
      rw [he]
      exact validMarks_in a es c total w h1 hl h
    · have HE := Lib.hid (show mkValid total es = false by unfold mkValid mkList; simp [hl])
      rw [h1] at HW
      have hl2 : (64 : Int) < es.length := by omega
      go_enter Try.func69, Try.ntmps69
      go_wp2_with (go_at_call 41; refine (HW.out _ _ _ (by simp)).mono ?_; rintro e w1 ⟨rfl, hb1⟩)
      go_ret
      exact ⟨ret_bool HE.out.symm, hb1⟩
  · have h1 : inB 1 8000 total = false := by simpa using h1
    have HE := Lib.hid (show mkValid total es = false by unfold mkValid; rw [h1]; rfl)
    rw [h1] at HW
    go_enter Try.func69, Try.ntmps69
    go_wp2_with (go_at_call 41; refine (HW.out _ _ _ (by simp)).mono ?_; rintro e w1 ⟨rfl, hb1⟩)
    go_ret
    exact ⟨ret_bool HE.out.symm, hb1⟩
set_option maxHeartbeats 4000000 in
theorem l07Ok_any (a : Option Addr) (es : List MarkV) (c : Nat) (total : Int) (w : World) (t0 : 1 ≤ total) (t1 : total ≤ 8000) (hm : es.length ≤ 1048576) (h : SlS rowMark w a es) :
    Calls Try.prog 55 #[.slice a es.length c, .int .i64 total] w fun e w' => e = .returned (.bool (mkList total es)) ∧ Below w.heap.size w w' := by
  go_enter Try.func55, Try.ntmps55
  go_wp2
  go_loopw [5] (fun i wr => ∃ (k : Nat) (m : Int), k ≤ es.length ∧ i = .int .i64 k ∧ 0 ≤ m ∧ (k = 0 → m = 0) ∧ Hid (mkRise total 0 es = mkRise total m (es.drop k) ∧ ∀ p, 0 < k → es[k - 1]? = some p → m = p.f1 + 1) ∧ Below w.heap.size w wr) (fun i _ => es.length - (intOf i).toNat)
  case atStart => exact ⟨0, 0, Nat.zero_le _, rfl, by omega, fun _ => rfl, by unfold Hid; exact ⟨by simp, fun _ h => by omega⟩, Below.refl _ _⟩
  case round =>
    obtain ⟨k, m, hk, rfl, hm0, hmz, hR, hb⟩ := hrel
    by_cases hlt : k < es.length
    · obtain ⟨e, hx⟩ : ∃ e, es[k]? = some e := ⟨es[k], by simp [hlt]⟩
      obtain ⟨b, off, rfl, hbl, hc⟩ := (h.below hb (Nat.le_refl _)).at rowMark_len hx
      have c0 : wr.cell? ⟨b, off + k * 3, none⟩ = some (.int .i64 e.f0) := hc 0 _ rfl
      have c1 : wr.cell? ⟨b, off + k * 3 + 1, none⟩ = some (.int .i64 e.f1) := hc 1 _ rfl
      have c2 : wr.cell? ⟨b, off + k * 3 + 2, none⟩ = some (.int .i64 e.f2) := hc 2 _ rfl
      have hR' := hR.out.1
      rw [drop_cons_of hx, mkRise] at hR'
      have I1 := Lib.hid (fun w => l00In_any e.f0 1 3 w)
      have I2 := Lib.hid (fun w => l00In_any e.f1 0 (total - 1) w)
      have I3 := Lib.hid (fun w => l00In_any e.f2 0 (total - 1) w)
      obtain ⟨x1, h1⟩ : ∃ x, inB 1 3 e.f0 = x := ⟨_, rfl⟩
      obtain ⟨x2, h2⟩ : ∃ x, inB 0 (total - 1) e.f1 = x := ⟨_, rfl⟩
      obtain ⟨x3, h3⟩ : ∃ x, inB 0 (total - 1) e.f2 = x := ⟨_, rfl⟩
      rw [h1] at I1
      rw [h2] at I2
      rw [h3] at I3
      have hin : inB m (total - 1) e.f1 = (x2 && decide (m ≤ e.f1)) := by
        rw [← h2]
        unfold inB
        by_cases g : m ≤ e.f1
        · have g0 : 0 ≤ e.f1 := by omega
          simp [g, g0]
        · simp [g]
      have HE := Lib.hid (show mkRise total 0 es = ((x1 && (x2 && decide (m ≤ e.f1) && x3)) && mkRise total (e.f1 + 1) (es.drop (k + 1))) by rw [hR']; unfold mkOne; rw [h1, hin, h3])
      have HX2 := Lib.hid h2
      clear hR' h1 h2 h3 hin
      cases k with
      | zero =>
        obtain rfl : m = 0 := hmz rfl
        clear hmz hm0
        have H := Lib.hid (And.intro h (And.intro hc hx)); clear h hc hx
        have c0 : wr.cell? ⟨b, off, none⟩ = some (.int .i64 e.f0) := by simpa using c0
        have c1 : wr.cell? ⟨b, off + 1, none⟩ = some (.int .i64 e.f1) := by simpa using c1
        have c2 : wr.cell? ⟨b, off + 2, none⟩ = some (.int .i64 e.f2) := by simpa using c2
        have HB := Lib.hid (show Below w.heap.size w (wr.alloc (.cells #[.int .i64 e.f0, .int .i64 e.f1, .int .i64 e.f2] 58)) from hb.alloc hb.size _)
        cases x1 <;> cases x2 <;> cases x3
        all_goals
          go_wp2
          go_quiet ((go_at_call 35; first | (with_reducible exact Calls.quiet_of_same ((I1.out _).mono fun _ _ ⟨he, hw⟩ => ⟨he, hw.symm⟩)) | (with_reducible exact Calls.quiet_of_same ((I2.out _).mono fun _ _ ⟨he, hw⟩ => ⟨he, hw.symm⟩)) | (with_reducible exact Calls.quiet_of_same ((I3.out _).mono fun _ _ ⟨he, hw⟩ => ⟨he, hw.symm⟩))))
          go_wp2
          first
            | (go_ret
               exact ⟨ret_bool (by unfold mkList; rw [HE.out]; simp), below_drewN' HB.out _⟩)
            | skip
        go_roundw
        case rel => 
          have h2 := inB_iff.1 HX2.out
          exact ⟨1, e.f1 + 1, by omega, by go_num, by omega, by omega, by unfold Hid; exact ⟨by rw [HE.out]; simp [h2.1], fun p _ hp => by rw [show (1 - 1 : Nat) = 0 from rfl, H.out.2.2] at hp; cases hp; rfl⟩, below_drewN' HB.out _⟩
        case measure => simp [intOf]; omega
      | succ j =>
        obtain ⟨p, hp⟩ : ∃ p, es[j]? = some p := ⟨es[j], by simp [show j < es.length by omega]⟩
        obtain rfl : m = p.f1 + 1 := hR.out.2 p (by omega) (by simpa using hp)
        have hsl := h.below hb (Nat.le_refl _)
        obtain ⟨b', off', eq', _, hc'⟩ := hsl.at rowMark_len hp
        cases eq'
        have d1 : wr.cell? ⟨b, off + j * 3 + 1, none⟩ = some (.int .i64 p.f1) := hc' 1 _ rfl
        have H := Lib.hid (And.intro h (And.intro hc hx)); clear h hc hx hc' hp hsl hmz
        have HB := Lib.hid (show Below w.heap.size w (wr.alloc (.cells #[.int .i64 e.f0, .int .i64 e.f1, .int .i64 e.f2] 58)) from hb.alloc hb.size _)
        have hj0 : (0 : Int) < ((j + 1 : Nat) : Int) := by omega
        have hji : ((j + 1 : Nat) : Int) - 1 = (j : Int) := by omega
        by_cases hge : e.f1 ≤ p.f1
        · have hdec : decide (p.f1 + 1 ≤ e.f1) = false := by simp; omega
          rw [hdec] at HE
          clear hdec
          cases x1 <;> cases x2 <;> cases x3
          all_goals
            go_wp2
            go_quiet ((go_at_call 35; first | (with_reducible exact Calls.quiet_of_same ((I1.out _).mono fun _ _ ⟨he, hw⟩ => ⟨he, hw.symm⟩)) | (with_reducible exact Calls.quiet_of_same ((I2.out _).mono fun _ _ ⟨he, hw⟩ => ⟨he, hw.symm⟩)) | (with_reducible exact Calls.quiet_of_same ((I3.out _).mono fun _ _ ⟨he, hw⟩ => ⟨he, hw.symm⟩))))
            go_wp2
            go_ret
            exact ⟨ret_bool (by unfold mkList; rw [HE.out]; simp), below_drewN' HB.out _⟩
        · have hdec : decide (p.f1 + 1 ≤ e.f1) = true := by simp; omega
          rw [hdec] at HE
          clear hdec
          cases x1 <;> cases x2 <;> cases x3
          all_goals
            go_wp2
            go_quiet ((go_at_call 35; first | (with_reducible exact Calls.quiet_of_same ((I1.out _).mono fun _ _ ⟨he, hw⟩ => ⟨he, hw.symm⟩)) | (with_reducible exact Calls.quiet_of_same ((I2.out _).mono fun _ _ ⟨he, hw⟩ => ⟨he, hw.symm⟩)) | (with_reducible exact Calls.quiet_of_same ((I3.out _).mono fun _ _ ⟨he, hw⟩ => ⟨he, hw.symm⟩))))
            go_wp2
            first
              | (go_ret
                 exact ⟨ret_bool (by unfold mkList; rw [HE.out]; simp), below_drewN' HB.out _⟩)
              | skip
          go_roundw
          case rel =>
            have h2 := inB_iff.1 HX2.out
            exact ⟨j + 1 + 1, e.f1 + 1, by omega, by go_num, by omega, by omega, by unfold Hid; exact ⟨by rw [HE.out]; simp, fun p _ hp => by rw [show (j + 1 + 1 - 1 : Nat) = j + 1 from rfl, H.out.2.2] at hp; cases hp; rfl⟩, below_drewN' HB.out _⟩
          case measure => simp [intOf]; omega
    · obtain rfl : k = es.length := by omega
      have hE : mkRise total 0 es = true := by rw [hR.out.1]; simp [mkRise]
      have HE := Lib.hid hE; clear hE hR
      by_cases hl : es.length ≤ 64
      · have hl2 : (es.length : Int) ≤ 64 := by omega
        go_wp2
        go_ret
        exact ⟨ret_bool (by unfold mkList; rw [HE.out]; simp; omega), hb⟩
      · have hl2 : ¬ ((es.length : Int) ≤ 64) := by omega
        go_wp2
        go_ret
        exact ⟨ret_bool (by unfold mkList; rw [HE.out]; simp; omega), hb⟩
theorem validMarks_g (a : Option Addr) (c : Nat) (es : List MarkV) (total : Int) (hn : es.length ≤ 1048576) (w : World) (h : SlS rowMark w a es) :
    Calls Try.prog 69 #[.slice a es.length c, .int .i64 total] w fun e w' => e = .returned (.bool (mkValid total es)) ∧ Below w.heap.size w w' := validMarks_any a es c total w hn h
end Go.Proofs.Ytidedgcmpkahgaa
