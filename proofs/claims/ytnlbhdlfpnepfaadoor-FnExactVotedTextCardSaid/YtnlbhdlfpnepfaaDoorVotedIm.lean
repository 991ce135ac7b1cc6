/- impl.ValidVoted -/
import Derived.Test.YtnlbhdlfpnepfaaDoorSecData
import Derived.Test.YtnlbhdlfpnepfaaDoorOneVoted
import Derived.Test.YtnlbhdlfpnepfaaDoorBoxes
import Derived.Test.YtnlbhdlfpnepfaaDoorRises
namespace Go.Proofs.YtnlbhdlfpnepfaaDoor
open Go.RowKit
set_option linter.unusedVariables false
set_option linter.unusedSimpArgs false
set_option maxRecDepth 20000
def votedBody (z : Int) (d : ByteArray) (st : Int) (de : Bool) (m : Nat) : Bool :=
  if st = 1 then secDataB z d && decide (m = 0) else if st = 5 then secDataB z d && decide (0 < m) else if st = 3 then secDataB z d else if st = 4 then decide (d = ⟨#[]⟩) && !de else false
def votedB (e : VotedV) : Bool := [e.f0, e.f1, e.f2].all (inB 0 255) && (inB 0 2 e.f3 && (inB 1 5 e.f8 && (risesB 0 ((e.f4.size : Int) - 1) e.f7 && votedBody e.f3 e.f4 e.f5 e.f6 e.f7.length)))
theorem box9 (w : World) (v0 v1 v2 v3 v4 v5 v6 v7 v8 : Value) (T : TypeId) (w2 : World) (hb : Below (w.alloc (.cells #[v0, v1, v2, v3, v4, v5, v6, v7, v8] T)).heap.size (w.alloc (.cells #[v0, v1, v2, v3, v4, v5, v6, v7, v8] T)) w2) :
    w2.cell? ⟨w.heap.size, 0, none⟩ = some v0 ∧ w2.cell? ⟨w.heap.size, 1, none⟩ = some v1 ∧ w2.cell? ⟨w.heap.size, 2, none⟩ = some v2 ∧ w2.cell? ⟨w.heap.size, 3, none⟩ = some v3 ∧ w2.cell? ⟨w.heap.size, 4, none⟩ = some v4 ∧ w2.cell? ⟨w.heap.size, 5, none⟩ = some v5 ∧ w2.cell? ⟨w.heap.size, 6, none⟩ = some v6 ∧ w2.cell? ⟨w.heap.size, 7, none⟩ = some v7 ∧ w2.cell? ⟨w.heap.size, 8, none⟩ = some v8 := by
  have h := (BoxAt.new w #[v0, v1, v2, v3, v4, v5, v6, v7, v8] T _ rfl).below hb (by simp)
  exact ⟨h 0 _ rfl, h 1 _ rfl, h 2 _ rfl, h 3 _ rfl, h 4 _ rfl, h 5 _ rfl, h 6 _ rfl, h 7 _ rfl, h 8 _ rfl⟩
set_option maxHeartbeats 8000000 in
theorem validVoted_any (x : VotedV) (a : Option Addr) (cp : Nat) (w : World) (hd : x.f4.size ≤ 1048576) (hm : x.f7.length ≤ 1048576) (hs : SlA w a x.f7) :
    Calls Tryd.prog 13 #[.agg #[.int .i64 x.f0, .int .i64 x.f1, .int .i64 x.f2, .int .i64 x.f3, .string x.f4, .int .i64 x.f5, .bool x.f6, .slice a x.f7.length cp, .int .i64 x.f8]] w fun e w' => e = .returned (.bool (votedB x)) ∧ Below w.heap.size w w' := by
  obtain ⟨c, h, n, z, d, st, de, ws, vo⟩ := x
  dsimp only at hd hm hs ⊢
  have AB := Lib.hid (fun w T b hb => areBytes_3 c h n w T b hb)
  have IZ := Lib.hid (fun w => isSize_any z w)
  have WV := Lib.hid (fun w T b hb => within_b 1 5 vo w T b hb)
  have RI := Lib.hid (fun w' (hb : Below w.heap.size w w') => rising_any 0 ((d.size : Int) - 1) a ws cp w' hm (by omega) (by omega) (hs.below hb (Nat.le_refl _)))
  have SD := Lib.hid (fun w => isSectorData_any z d w (by unfold maxLen; omega))
  have BX := Lib.hid (fun T w2 hb => box9 w (.int .i64 c) (.int .i64 h) (.int .i64 n) (.int .i64 z) (.string d) (.int .i64 st) (.bool de) (.slice a ws.length cp) (.int .i64 vo) T w2 hb)
  clear hs
  unfold votedB
  dsimp only
  obtain ⟨p0, hp0⟩ : ∃ y, [c, h, n].all (inB 0 255) = y := ⟨_, rfl⟩
  rw [hp0] at AB ⊢
  obtain ⟨p1, hp1⟩ : ∃ y, inB 0 2 z = y := ⟨_, rfl⟩
  have HZ1 := Lib.hid hp1
  rw [hp1] at IZ ⊢
  obtain ⟨p2, hp2⟩ : ∃ y, inB 1 5 vo = y := ⟨_, rfl⟩
  rw [hp2] at WV ⊢
  obtain ⟨p3, hp3⟩ : ∃ y, risesB 0 ((d.size : Int) - 1) ws = y := ⟨_, rfl⟩
  rw [hp3] at RI ⊢
  clear hp0 hp1 hp2 hp3
  cases p0 with
  | false =>
    go_enter Tryd.func13, Tryd.ntmps13
    go_wp2_with fail
    refine (AB.out _ _ _ (by simp)).mono ?_
    rintro e w1 ⟨rfl, hb1⟩
    obtain ⟨c0, c1, c2, c3, c4, c5, c6, c7, c8⟩ := BX.out _ _  hb1
    have FB := Lib.hid (show Below w.heap.size w w1 from Below.trans (show Below w.heap.size w _ from (Below.refl _ _).alloc (Nat.le_refl _) _) (hb1.mono (by simp)))
    have HB1 := Lib.hid hb1
    clear hb1
    go_wp2
    go_ret
    exact ⟨rfl, FB.out⟩
  | true =>
    cases p1 with
    | false =>
      go_enter Tryd.func13, Tryd.ntmps13
      go_wp2_with fail
      refine (AB.out _ _ _ (by simp)).mono ?_
      rintro e w1 ⟨rfl, hb1⟩
      obtain ⟨c0, c1, c2, c3, c4, c5, c6, c7, c8⟩ := BX.out _ _  hb1
      have FB := Lib.hid (show Below w.heap.size w w1 from Below.trans (show Below w.heap.size w _ from (Below.refl _ _).alloc (Nat.le_refl _) _) (hb1.mono (by simp)))
      have HB1 := Lib.hid hb1
      clear hb1
      go_wp2_with fail
      refine (IZ.out _).mono ?_
      rintro e w2 ⟨rfl, hb2⟩
      clear c0 c1 c2 c3 c4 c5 c6 c7 c8
      have HB2 := Lib.hid (HB1.out.trans (hb2.mono HB1.out.size))
      obtain ⟨c0, c1, c2, c3, c4, c5, c6, c7, c8⟩ := BX.out _ _  HB2.out
      replace FB := Lib.hid (FB.out.trans (hb2.mono FB.out.size))
      clear hb2
      go_wp2
      go_ret
      exact ⟨rfl, FB.out⟩
    | true =>
      cases p2 with
      | false =>
        go_enter Tryd.func13, Tryd.ntmps13
        go_wp2_with fail
        refine (AB.out _ _ _ (by simp)).mono ?_
        rintro e w1 ⟨rfl, hb1⟩
        obtain ⟨c0, c1, c2, c3, c4, c5, c6, c7, c8⟩ := BX.out _ _  hb1
        have FB := Lib.hid (show Below w.heap.size w w1 from Below.trans (show Below w.heap.size w _ from (Below.refl _ _).alloc (Nat.le_refl _) _) (hb1.mono (by simp)))
        have HB1 := Lib.hid hb1
        clear hb1
        go_wp2_with fail
        refine (IZ.out _).mono ?_
        rintro e w2 ⟨rfl, hb2⟩
        clear c0 c1 c2 c3 c4 c5 c6 c7 c8
        have HB2 := Lib.hid (HB1.out.trans (hb2.mono HB1.out.size))
        obtain ⟨c0, c1, c2, c3, c4, c5, c6, c7, c8⟩ := BX.out _ _  HB2.out
        replace FB := Lib.hid (FB.out.trans (hb2.mono FB.out.size))
        clear hb2
        go_wp2_with fail
        refine (WV.out _ _ _ (by simp)).mono ?_
        rintro e w3 ⟨rfl, hb3⟩
        clear c0 c1 c2 c3 c4 c5 c6 c7 c8
        have HB3 := Lib.hid (HB2.out.trans (hb3.mono HB2.out.size))
        obtain ⟨c0, c1, c2, c3, c4, c5, c6, c7, c8⟩ := BX.out _ _  HB3.out
        replace FB := Lib.hid (FB.out.trans (hb3.mono FB.out.size))
        clear hb3
        go_wp2
        go_ret
        exact ⟨rfl, FB.out⟩
      | true =>
        cases p3 with
        | false =>
          go_enter Tryd.func13, Tryd.ntmps13
          go_wp2_with fail
          refine (AB.out _ _ _ (by simp)).mono ?_
          rintro e w1 ⟨rfl, hb1⟩
          obtain ⟨c0, c1, c2, c3, c4, c5, c6, c7, c8⟩ := BX.out _ _  hb1
          have FB := Lib.hid (show Below w.heap.size w w1 from Below.trans (show Below w.heap.size w _ from (Below.refl _ _).alloc (Nat.le_refl _) _) (hb1.mono (by simp)))
          have HB1 := Lib.hid hb1
          clear hb1
          go_wp2_with fail
          refine (IZ.out _).mono ?_
          rintro e w2 ⟨rfl, hb2⟩
          clear c0 c1 c2 c3 c4 c5 c6 c7 c8
          have HB2 := Lib.hid (HB1.out.trans (hb2.mono HB1.out.size))
          obtain ⟨c0, c1, c2, c3, c4, c5, c6, c7, c8⟩ := BX.out _ _  HB2.out
          replace FB := Lib.hid (FB.out.trans (hb2.mono FB.out.size))
          clear hb2
          go_wp2_with fail
          refine (WV.out _ _ _ (by simp)).mono ?_
          rintro e w3 ⟨rfl, hb3⟩
          clear c0 c1 c2 c3 c4 c5 c6 c7 c8
          have HB3 := Lib.hid (HB2.out.trans (hb3.mono HB2.out.size))
          obtain ⟨c0, c1, c2, c3, c4, c5, c6, c7, c8⟩ := BX.out _ _  HB3.out
          replace FB := Lib.hid (FB.out.trans (hb3.mono FB.out.size))
          clear hb3
          go_wp2_with fail
          refine (RI.out _ FB.out).mono ?_
          rintro e w4 ⟨rfl, hb4⟩
          clear c0 c1 c2 c3 c4 c5 c6 c7 c8
          have HB4 := Lib.hid (HB3.out.trans (hb4.mono HB3.out.size))
          obtain ⟨c0, c1, c2, c3, c4, c5, c6, c7, c8⟩ := BX.out _ _  HB4.out
          replace FB := Lib.hid (FB.out.trans (hb4.mono FB.out.size))
          clear hb4
          go_wp2
          go_ret
          exact ⟨rfl, FB.out⟩
        | true =>
          simp only [Bool.true_and]
          by_cases h1 : st = 1
          · subst h1
            have hv : votedBody z d 1 de ws.length = (secDataB z d && decide (ws.length = 0)) := rfl
            rw [hv]
            obtain ⟨q, hq⟩ : ∃ q, secDataB z d = q := ⟨_, rfl⟩
            rw [hq] at SD ⊢
            clear hq hv
            cases q with
            | false =>
              go_enter Tryd.func13, Tryd.ntmps13
              go_wp2_with fail
              refine (AB.out _ _ _ (by simp)).mono ?_
              rintro e w1 ⟨rfl, hb1⟩
              obtain ⟨c0, c1, c2, c3, c4, c5, c6, c7, c8⟩ := BX.out _ _  hb1
              have FB := Lib.hid (show Below w.heap.size w w1 from Below.trans (show Below w.heap.size w _ from (Below.refl _ _).alloc (Nat.le_refl _) _) (hb1.mono (by simp)))
              have HB1 := Lib.hid hb1
              clear hb1
              go_wp2_with fail
              refine (IZ.out _).mono ?_
              rintro e w2 ⟨rfl, hb2⟩
              clear c0 c1 c2 c3 c4 c5 c6 c7 c8
              have HB2 := Lib.hid (HB1.out.trans (hb2.mono HB1.out.size))
              obtain ⟨c0, c1, c2, c3, c4, c5, c6, c7, c8⟩ := BX.out _ _  HB2.out
              replace FB := Lib.hid (FB.out.trans (hb2.mono FB.out.size))
              clear hb2
              go_wp2_with fail
              refine (WV.out _ _ _ (by simp)).mono ?_
              rintro e w3 ⟨rfl, hb3⟩
              clear c0 c1 c2 c3 c4 c5 c6 c7 c8
              have HB3 := Lib.hid (HB2.out.trans (hb3.mono HB2.out.size))
              obtain ⟨c0, c1, c2, c3, c4, c5, c6, c7, c8⟩ := BX.out _ _  HB3.out
              replace FB := Lib.hid (FB.out.trans (hb3.mono FB.out.size))
              clear hb3
              go_wp2_with fail
              refine (RI.out _ FB.out).mono ?_
              rintro e w4 ⟨rfl, hb4⟩
              clear c0 c1 c2 c3 c4 c5 c6 c7 c8
              have HB4 := Lib.hid (HB3.out.trans (hb4.mono HB3.out.size))
              obtain ⟨c0, c1, c2, c3, c4, c5, c6, c7, c8⟩ := BX.out _ _  HB4.out
              replace FB := Lib.hid (FB.out.trans (hb4.mono FB.out.size))
              clear hb4
              go_wp2_with fail
              refine (SD.out _).mono ?_
              rintro e w5 ⟨rfl, hb5⟩
              clear c0 c1 c2 c3 c4 c5 c6 c7 c8
              have HB5 := Lib.hid (HB4.out.trans (hb5.mono HB4.out.size))
              obtain ⟨c0, c1, c2, c3, c4, c5, c6, c7, c8⟩ := BX.out _ _  HB5.out
              replace FB := Lib.hid (FB.out.trans (hb5.mono FB.out.size))
              clear hb5
              go_wp2
              go_ret
              exact ⟨rfl, FB.out⟩
            | true =>
              by_cases hz : ws.length = 0
              · have hE := Lib.hid (show (true && decide (ws.length = 0)) = true by simp [hz])
                rw [hE.out]
                have hzi : ((ws.length : Int) == 0) = true := by simp [hz]
                have hzl : decide ((0 : Int) < (ws.length : Int)) = false := by simp [hz]
                have HZ := Lib.hid (show ws = [] from List.length_eq_zero_iff.1 hz)
                clear hz
                go_enter Tryd.func13, Tryd.ntmps13
                go_wp2_with fail
                refine (AB.out _ _ _ (by simp)).mono ?_
                rintro e w1 ⟨rfl, hb1⟩
                obtain ⟨c0, c1, c2, c3, c4, c5, c6, c7, c8⟩ := BX.out _ _  hb1
                have FB := Lib.hid (show Below w.heap.size w w1 from Below.trans (show Below w.heap.size w _ from (Below.refl _ _).alloc (Nat.le_refl _) _) (hb1.mono (by simp)))
                have HB1 := Lib.hid hb1
                clear hb1
                go_wp2_with fail
                refine (IZ.out _).mono ?_
                rintro e w2 ⟨rfl, hb2⟩
                clear c0 c1 c2 c3 c4 c5 c6 c7 c8
                have HB2 := Lib.hid (HB1.out.trans (hb2.mono HB1.out.size))
                obtain ⟨c0, c1, c2, c3, c4, c5, c6, c7, c8⟩ := BX.out _ _  HB2.out
                replace FB := Lib.hid (FB.out.trans (hb2.mono FB.out.size))
                clear hb2
                go_wp2_with fail
                refine (WV.out _ _ _ (by simp)).mono ?_
                rintro e w3 ⟨rfl, hb3⟩
                clear c0 c1 c2 c3 c4 c5 c6 c7 c8
                have HB3 := Lib.hid (HB2.out.trans (hb3.mono HB2.out.size))
                obtain ⟨c0, c1, c2, c3, c4, c5, c6, c7, c8⟩ := BX.out _ _  HB3.out
                replace FB := Lib.hid (FB.out.trans (hb3.mono FB.out.size))
                clear hb3
                go_wp2_with fail
                refine (RI.out _ FB.out).mono ?_
                rintro e w4 ⟨rfl, hb4⟩
                clear c0 c1 c2 c3 c4 c5 c6 c7 c8
                have HB4 := Lib.hid (HB3.out.trans (hb4.mono HB3.out.size))
                obtain ⟨c0, c1, c2, c3, c4, c5, c6, c7, c8⟩ := BX.out _ _  HB4.out
                replace FB := Lib.hid (FB.out.trans (hb4.mono FB.out.size))
                clear hb4
                go_wp2_with fail
                refine (SD.out _).mono ?_
                rintro e w5 ⟨rfl, hb5⟩
                clear c0 c1 c2 c3 c4 c5 c6 c7 c8
                have HB5 := Lib.hid (HB4.out.trans (hb5.mono HB4.out.size))
                obtain ⟨c0, c1, c2, c3, c4, c5, c6, c7, c8⟩ := BX.out _ _  HB5.out
                replace FB := Lib.hid (FB.out.trans (hb5.mono FB.out.size))
                clear hb5
                go_wp2
                go_ret
                exact ⟨ret_bool (by first | rfl | (simp [HZ.out]; done) | (have := List.length_pos_iff.2 HZ.out; simp; omega)), FB.out⟩
              · have hE := Lib.hid (show (true && decide (ws.length = 0)) = false by rw [Bool.true_and]; first | exact decide_eq_false (by omega) | exact decide_eq_true (by omega))
                rw [hE.out]
                have hzi : ((ws.length : Int) == 0) = false := beq_eq_false_iff_ne.2 (by omega)
                have hzl : decide ((0 : Int) < (ws.length : Int)) = true := decide_eq_true (by omega)
                have HZ := Lib.hid (show ¬ ws = [] from fun e => hz (by rw [e]; rfl))
                clear hz
                go_enter Tryd.func13, Tryd.ntmps13
                go_wp2_with fail
                refine (AB.out _ _ _ (by simp)).mono ?_
                rintro e w1 ⟨rfl, hb1⟩
                obtain ⟨c0, c1, c2, c3, c4, c5, c6, c7, c8⟩ := BX.out _ _  hb1
                have FB := Lib.hid (show Below w.heap.size w w1 from Below.trans (show Below w.heap.size w _ from (Below.refl _ _).alloc (Nat.le_refl _) _) (hb1.mono (by simp)))
                have HB1 := Lib.hid hb1
                clear hb1
                go_wp2_with fail
                refine (IZ.out _).mono ?_
                rintro e w2 ⟨rfl, hb2⟩
                clear c0 c1 c2 c3 c4 c5 c6 c7 c8
                have HB2 := Lib.hid (HB1.out.trans (hb2.mono HB1.out.size))
                obtain ⟨c0, c1, c2, c3, c4, c5, c6, c7, c8⟩ := BX.out _ _  HB2.out
                replace FB := Lib.hid (FB.out.trans (hb2.mono FB.out.size))
                clear hb2
                go_wp2_with fail
                refine (WV.out _ _ _ (by simp)).mono ?_
                rintro e w3 ⟨rfl, hb3⟩
                clear c0 c1 c2 c3 c4 c5 c6 c7 c8
                have HB3 := Lib.hid (HB2.out.trans (hb3.mono HB2.out.size))
                obtain ⟨c0, c1, c2, c3, c4, c5, c6, c7, c8⟩ := BX.out _ _  HB3.out
                replace FB := Lib.hid (FB.out.trans (hb3.mono FB.out.size))
                clear hb3
                go_wp2_with fail
                refine (RI.out _ FB.out).mono ?_
                rintro e w4 ⟨rfl, hb4⟩
                clear c0 c1 c2 c3 c4 c5 c6 c7 c8
                have HB4 := Lib.hid (HB3.out.trans (hb4.mono HB3.out.size))
                obtain ⟨c0, c1, c2, c3, c4, c5, c6, c7, c8⟩ := BX.out _ _  HB4.out
                replace FB := Lib.hid (FB.out.trans (hb4.mono FB.out.size))
                clear hb4
                go_wp2_with fail
                refine (SD.out _).mono ?_
                rintro e w5 ⟨rfl, hb5⟩
                clear c0 c1 c2 c3 c4 c5 c6 c7 c8
                have HB5 := Lib.hid (HB4.out.trans (hb5.mono HB4.out.size))
                obtain ⟨c0, c1, c2, c3, c4, c5, c6, c7, c8⟩ := BX.out _ _  HB5.out
                replace FB := Lib.hid (FB.out.trans (hb5.mono FB.out.size))
                clear hb5
                go_wp2
                go_ret
                exact ⟨ret_bool (by first | rfl | (simp [HZ.out]; done) | (have := List.length_pos_iff.2 HZ.out; simp; omega)), FB.out⟩
          by_cases h5 : st = 5
          · subst h5
            have hv : votedBody z d 5 de ws.length = (secDataB z d && decide (0 < ws.length)) := rfl
            rw [hv]
            obtain ⟨q, hq⟩ : ∃ q, secDataB z d = q := ⟨_, rfl⟩
            rw [hq] at SD ⊢
            clear hq hv
            cases q with
            | false =>
              go_enter Tryd.func13, Tryd.ntmps13
              go_wp2_with fail
              refine (AB.out _ _ _ (by simp)).mono ?_
              rintro e w1 ⟨rfl, hb1⟩
              obtain ⟨c0, c1, c2, c3, c4, c5, c6, c7, c8⟩ := BX.out _ _  hb1
              have FB := Lib.hid (show Below w.heap.size w w1 from Below.trans (show Below w.heap.size w _ from (Below.refl _ _).alloc (Nat.le_refl _) _) (hb1.mono (by simp)))
              have HB1 := Lib.hid hb1
              clear hb1
              go_wp2_with fail
              refine (IZ.out _).mono ?_
              rintro e w2 ⟨rfl, hb2⟩
              clear c0 c1 c2 c3 c4 c5 c6 c7 c8
              have HB2 := Lib.hid (HB1.out.trans (hb2.mono HB1.out.size))
              obtain ⟨c0, c1, c2, c3, c4, c5, c6, c7, c8⟩ := BX.out _ _  HB2.out
              replace FB := Lib.hid (FB.out.trans (hb2.mono FB.out.size))
              clear hb2
              go_wp2_with fail
              refine (WV.out _ _ _ (by simp)).mono ?_
              rintro e w3 ⟨rfl, hb3⟩
              clear c0 c1 c2 c3 c4 c5 c6 c7 c8
              have HB3 := Lib.hid (HB2.out.trans (hb3.mono HB2.out.size))
              obtain ⟨c0, c1, c2, c3, c4, c5, c6, c7, c8⟩ := BX.out _ _  HB3.out
              replace FB := Lib.hid (FB.out.trans (hb3.mono FB.out.size))
              clear hb3
              go_wp2_with fail
              refine (RI.out _ FB.out).mono ?_
              rintro e w4 ⟨rfl, hb4⟩
              clear c0 c1 c2 c3 c4 c5 c6 c7 c8
              have HB4 := Lib.hid (HB3.out.trans (hb4.mono HB3.out.size))
              obtain ⟨c0, c1, c2, c3, c4, c5, c6, c7, c8⟩ := BX.out _ _  HB4.out
              replace FB := Lib.hid (FB.out.trans (hb4.mono FB.out.size))
              clear hb4
              go_wp2_with fail
              refine (SD.out _).mono ?_
              rintro e w5 ⟨rfl, hb5⟩
              clear c0 c1 c2 c3 c4 c5 c6 c7 c8
              have HB5 := Lib.hid (HB4.out.trans (hb5.mono HB4.out.size))
              obtain ⟨c0, c1, c2, c3, c4, c5, c6, c7, c8⟩ := BX.out _ _  HB5.out
              replace FB := Lib.hid (FB.out.trans (hb5.mono FB.out.size))
              clear hb5
              go_wp2
              go_ret
              exact ⟨rfl, FB.out⟩
            | true =>
              by_cases hz : ws.length = 0
              · have hE := Lib.hid (show (true && decide (0 < ws.length)) = false by simp [hz])
                rw [hE.out]
                have hzi : ((ws.length : Int) == 0) = true := by simp [hz]
                have hzl : decide ((0 : Int) < (ws.length : Int)) = false := by simp [hz]
                have HZ := Lib.hid (show ws = [] from List.length_eq_zero_iff.1 hz)
                clear hz
                go_enter Tryd.func13, Tryd.ntmps13
                go_wp2_with fail
                refine (AB.out _ _ _ (by simp)).mono ?_
                rintro e w1 ⟨rfl, hb1⟩
                obtain ⟨c0, c1, c2, c3, c4, c5, c6, c7, c8⟩ := BX.out _ _  hb1
                have FB := Lib.hid (show Below w.heap.size w w1 from Below.trans (show Below w.heap.size w _ from (Below.refl _ _).alloc (Nat.le_refl _) _) (hb1.mono (by simp)))
                have HB1 := Lib.hid hb1
                clear hb1
                go_wp2_with fail
                refine (IZ.out _).mono ?_
                rintro e w2 ⟨rfl, hb2⟩
                clear c0 c1 c2 c3 c4 c5 c6 c7 c8
                have HB2 := Lib.hid (HB1.out.trans (hb2.mono HB1.out.size))
                obtain ⟨c0, c1, c2, c3, c4, c5, c6, c7, c8⟩ := BX.out _ _  HB2.out
                replace FB := Lib.hid (FB.out.trans (hb2.mono FB.out.size))
                clear hb2
                go_wp2_with fail
                refine (WV.out _ _ _ (by simp)).mono ?_
                rintro e w3 ⟨rfl, hb3⟩
                clear c0 c1 c2 c3 c4 c5 c6 c7 c8
                have HB3 := Lib.hid (HB2.out.trans (hb3.mono HB2.out.size))
                obtain ⟨c0, c1, c2, c3, c4, c5, c6, c7, c8⟩ := BX.out _ _  HB3.out
                replace FB := Lib.hid (FB.out.trans (hb3.mono FB.out.size))
                clear hb3
                go_wp2_with fail
                refine (RI.out _ FB.out).mono ?_
                rintro e w4 ⟨rfl, hb4⟩
                clear c0 c1 c2 c3 c4 c5 c6 c7 c8
                have HB4 := Lib.hid (HB3.out.trans (hb4.mono HB3.out.size))
                obtain ⟨c0, c1, c2, c3, c4, c5, c6, c7, c8⟩ := BX.out _ _  HB4.out
                replace FB := Lib.hid (FB.out.trans (hb4.mono FB.out.size))
                clear hb4
                go_wp2_with fail
                refine (SD.out _).mono ?_
                rintro e w5 ⟨rfl, hb5⟩
                clear c0 c1 c2 c3 c4 c5 c6 c7 c8
                have HB5 := Lib.hid (HB4.out.trans (hb5.mono HB4.out.size))
                obtain ⟨c0, c1, c2, c3, c4, c5, c6, c7, c8⟩ := BX.out _ _  HB5.out
                replace FB := Lib.hid (FB.out.trans (hb5.mono FB.out.size))
                clear hb5
                go_wp2
                go_ret
                exact ⟨ret_bool (by first | rfl | (simp [HZ.out]; done) | (have := List.length_pos_iff.2 HZ.out; simp; omega)), FB.out⟩
              · have hE := Lib.hid (show (true && decide (0 < ws.length)) = true by rw [Bool.true_and]; first | exact decide_eq_false (by omega) | exact decide_eq_true (by omega))
                rw [hE.out]
                have hzi : ((ws.length : Int) == 0) = false := beq_eq_false_iff_ne.2 (by omega)
                have hzl : decide ((0 : Int) < (ws.length : Int)) = true := decide_eq_true (by omega)
                have HZ := Lib.hid (show ¬ ws = [] from fun e => hz (by rw [e]; rfl))
                clear hz
                go_enter Tryd.func13, Tryd.ntmps13
                go_wp2_with fail
                refine (AB.out _ _ _ (by simp)).mono ?_
                rintro e w1 ⟨rfl, hb1⟩
                obtain ⟨c0, c1, c2, c3, c4, c5, c6, c7, c8⟩ := BX.out _ _  hb1
                have FB := Lib.hid (show Below w.heap.size w w1 from Below.trans (show Below w.heap.size w _ from (Below.refl _ _).alloc (Nat.le_refl _) _) (hb1.mono (by simp)))
                have HB1 := Lib.hid hb1
                clear hb1
                go_wp2_with fail
                refine (IZ.out _).mono ?_
                rintro e w2 ⟨rfl, hb2⟩
                clear c0 c1 c2 c3 c4 c5 c6 c7 c8
                have HB2 := Lib.hid (HB1.out.trans (hb2.mono HB1.out.size))
                obtain ⟨c0, c1, c2, c3, c4, c5, c6, c7, c8⟩ := BX.out _ _  HB2.out
                replace FB := Lib.hid (FB.out.trans (hb2.mono FB.out.size))
                clear hb2
                go_wp2_with fail
                refine (WV.out _ _ _ (by simp)).mono ?_
                rintro e w3 ⟨rfl, hb3⟩
                clear c0 c1 c2 c3 c4 c5 c6 c7 c8
                have HB3 := Lib.hid (HB2.out.trans (hb3.mono HB2.out.size))
                obtain ⟨c0, c1, c2, c3, c4, c5, c6, c7, c8⟩ := BX.out _ _  HB3.out
                replace FB := Lib.hid (FB.out.trans (hb3.mono FB.out.size))
                clear hb3
                go_wp2_with fail
                refine (RI.out _ FB.out).mono ?_
                rintro e w4 ⟨rfl, hb4⟩
                clear c0 c1 c2 c3 c4 c5 c6 c7 c8
                have HB4 := Lib.hid (HB3.out.trans (hb4.mono HB3.out.size))
                obtain ⟨c0, c1, c2, c3, c4, c5, c6, c7, c8⟩ := BX.out _ _  HB4.out
                replace FB := Lib.hid (FB.out.trans (hb4.mono FB.out.size))
                clear hb4
                go_wp2_with fail
                refine (SD.out _).mono ?_
                rintro e w5 ⟨rfl, hb5⟩
                clear c0 c1 c2 c3 c4 c5 c6 c7 c8
                have HB5 := Lib.hid (HB4.out.trans (hb5.mono HB4.out.size))
                obtain ⟨c0, c1, c2, c3, c4, c5, c6, c7, c8⟩ := BX.out _ _  HB5.out
                replace FB := Lib.hid (FB.out.trans (hb5.mono FB.out.size))
                clear hb5
                go_wp2
                go_ret
                exact ⟨ret_bool (by first | rfl | (simp [HZ.out]; done) | (have := List.length_pos_iff.2 HZ.out; simp; omega)), FB.out⟩
          by_cases h3 : st = 3
          · subst h3
            have hv : votedBody z d 3 de ws.length = secDataB z d := rfl
            rw [hv]
            obtain ⟨q, hq⟩ : ∃ q, secDataB z d = q := ⟨_, rfl⟩
            rw [hq] at SD ⊢
            clear hq hv
            go_enter Tryd.func13, Tryd.ntmps13
            go_wp2_with fail
            refine (AB.out _ _ _ (by simp)).mono ?_
            rintro e w1 ⟨rfl, hb1⟩
            obtain ⟨c0, c1, c2, c3, c4, c5, c6, c7, c8⟩ := BX.out _ _  hb1
            have FB := Lib.hid (show Below w.heap.size w w1 from Below.trans (show Below w.heap.size w _ from (Below.refl _ _).alloc (Nat.le_refl _) _) (hb1.mono (by simp)))
            have HB1 := Lib.hid hb1
            clear hb1
            go_wp2_with fail
            refine (IZ.out _).mono ?_
            rintro e w2 ⟨rfl, hb2⟩
            clear c0 c1 c2 c3 c4 c5 c6 c7 c8
            have HB2 := Lib.hid (HB1.out.trans (hb2.mono HB1.out.size))
            obtain ⟨c0, c1, c2, c3, c4, c5, c6, c7, c8⟩ := BX.out _ _  HB2.out
            replace FB := Lib.hid (FB.out.trans (hb2.mono FB.out.size))
            clear hb2
            go_wp2_with fail
            refine (WV.out _ _ _ (by simp)).mono ?_
            rintro e w3 ⟨rfl, hb3⟩
            clear c0 c1 c2 c3 c4 c5 c6 c7 c8
            have HB3 := Lib.hid (HB2.out.trans (hb3.mono HB2.out.size))
            obtain ⟨c0, c1, c2, c3, c4, c5, c6, c7, c8⟩ := BX.out _ _  HB3.out
            replace FB := Lib.hid (FB.out.trans (hb3.mono FB.out.size))
            clear hb3
            go_wp2_with fail
            refine (RI.out _ FB.out).mono ?_
            rintro e w4 ⟨rfl, hb4⟩
            clear c0 c1 c2 c3 c4 c5 c6 c7 c8
            have HB4 := Lib.hid (HB3.out.trans (hb4.mono HB3.out.size))
            obtain ⟨c0, c1, c2, c3, c4, c5, c6, c7, c8⟩ := BX.out _ _  HB4.out
            replace FB := Lib.hid (FB.out.trans (hb4.mono FB.out.size))
            clear hb4
            go_wp2_with fail
            refine (SD.out _).mono ?_
            rintro e w5 ⟨rfl, hb5⟩
            clear c0 c1 c2 c3 c4 c5 c6 c7 c8
            have HB5 := Lib.hid (HB4.out.trans (hb5.mono HB4.out.size))
            obtain ⟨c0, c1, c2, c3, c4, c5, c6, c7, c8⟩ := BX.out _ _  HB5.out
            replace FB := Lib.hid (FB.out.trans (hb5.mono FB.out.size))
            clear hb5
            go_wp2
            go_ret
            exact ⟨rfl, FB.out⟩
          by_cases h4 : st = 4
          · subst h4
            have hv : votedBody z d 4 de ws.length = (decide (d = ⟨#[]⟩) && !de) := rfl
            rw [hv]
            clear hv h1 h3 h5
            by_cases he : d = ⟨#[]⟩
            · subst he
              cases de
              all_goals
                go_enter Tryd.func13, Tryd.ntmps13
                go_wp2_with fail
                refine (AB.out _ _ _ (by simp)).mono ?_
                rintro e w1 ⟨rfl, hb1⟩
                obtain ⟨c0, c1, c2, c3, c4, c5, c6, c7, c8⟩ := BX.out _ _  hb1
                have FB := Lib.hid (show Below w.heap.size w w1 from Below.trans (show Below w.heap.size w _ from (Below.refl _ _).alloc (Nat.le_refl _) _) (hb1.mono (by simp)))
                have HB1 := Lib.hid hb1
                clear hb1
                go_wp2_with fail
                refine (IZ.out _).mono ?_
                rintro e w2 ⟨rfl, hb2⟩
                clear c0 c1 c2 c3 c4 c5 c6 c7 c8
                have HB2 := Lib.hid (HB1.out.trans (hb2.mono HB1.out.size))
                obtain ⟨c0, c1, c2, c3, c4, c5, c6, c7, c8⟩ := BX.out _ _  HB2.out
                replace FB := Lib.hid (FB.out.trans (hb2.mono FB.out.size))
                clear hb2
                go_wp2_with fail
                refine (WV.out _ _ _ (by simp)).mono ?_
                rintro e w3 ⟨rfl, hb3⟩
                clear c0 c1 c2 c3 c4 c5 c6 c7 c8
                have HB3 := Lib.hid (HB2.out.trans (hb3.mono HB2.out.size))
                obtain ⟨c0, c1, c2, c3, c4, c5, c6, c7, c8⟩ := BX.out _ _  HB3.out
                replace FB := Lib.hid (FB.out.trans (hb3.mono FB.out.size))
                clear hb3
                go_wp2_with fail
                refine (RI.out _ FB.out).mono ?_
                rintro e w4 ⟨rfl, hb4⟩
                clear c0 c1 c2 c3 c4 c5 c6 c7 c8
                have HB4 := Lib.hid (HB3.out.trans (hb4.mono HB3.out.size))
                obtain ⟨c0, c1, c2, c3, c4, c5, c6, c7, c8⟩ := BX.out _ _  HB4.out
                replace FB := Lib.hid (FB.out.trans (hb4.mono FB.out.size))
                clear hb4
                go_wp2
                go_ret
                exact ⟨rfl, FB.out⟩
            · obtain ⟨e1, e2⟩ := empty_no he
              have HV := Lib.hid (show (decide (d = ⟨#[]⟩)) = false by simp [he])
              rw [HV.out]
              clear he
              go_enter Tryd.func13, Tryd.ntmps13
              go_wp2_with fail
              refine (AB.out _ _ _ (by simp)).mono ?_
              rintro e w1 ⟨rfl, hb1⟩
              obtain ⟨c0, c1, c2, c3, c4, c5, c6, c7, c8⟩ := BX.out _ _  hb1
              have FB := Lib.hid (show Below w.heap.size w w1 from Below.trans (show Below w.heap.size w _ from (Below.refl _ _).alloc (Nat.le_refl _) _) (hb1.mono (by simp)))
              have HB1 := Lib.hid hb1
              clear hb1
              go_wp2_with fail
              refine (IZ.out _).mono ?_
              rintro e w2 ⟨rfl, hb2⟩
              clear c0 c1 c2 c3 c4 c5 c6 c7 c8
              have HB2 := Lib.hid (HB1.out.trans (hb2.mono HB1.out.size))
              obtain ⟨c0, c1, c2, c3, c4, c5, c6, c7, c8⟩ := BX.out _ _  HB2.out
              replace FB := Lib.hid (FB.out.trans (hb2.mono FB.out.size))
              clear hb2
              go_wp2_with fail
              refine (WV.out _ _ _ (by simp)).mono ?_
              rintro e w3 ⟨rfl, hb3⟩
              clear c0 c1 c2 c3 c4 c5 c6 c7 c8
              have HB3 := Lib.hid (HB2.out.trans (hb3.mono HB2.out.size))
              obtain ⟨c0, c1, c2, c3, c4, c5, c6, c7, c8⟩ := BX.out _ _  HB3.out
              replace FB := Lib.hid (FB.out.trans (hb3.mono FB.out.size))
              clear hb3
              go_wp2_with fail
              refine (RI.out _ FB.out).mono ?_
              rintro e w4 ⟨rfl, hb4⟩
              clear c0 c1 c2 c3 c4 c5 c6 c7 c8
              have HB4 := Lib.hid (HB3.out.trans (hb4.mono HB3.out.size))
              obtain ⟨c0, c1, c2, c3, c4, c5, c6, c7, c8⟩ := BX.out _ _  HB4.out
              replace FB := Lib.hid (FB.out.trans (hb4.mono FB.out.size))
              clear hb4
              go_wp2
              go_ret
              exact ⟨rfl, FB.out⟩
          have hv : votedBody z d st de ws.length = false := by unfold votedBody; simp [h1, h3, h4, h5]
          rw [hv]
          have b1 : (st == 1) = false := beq_eq_false_iff_ne.2 h1
          have b3 : (st == 3) = false := beq_eq_false_iff_ne.2 h3
          have b4 : (st == 4) = false := beq_eq_false_iff_ne.2 h4
          have b5 : (st == 5) = false := beq_eq_false_iff_ne.2 h5
          clear hv h1 h3 h4 h5
          go_enter Tryd.func13, Tryd.ntmps13
          go_wp2_with fail
          refine (AB.out _ _ _ (by simp)).mono ?_
          rintro e w1 ⟨rfl, hb1⟩
          obtain ⟨c0, c1, c2, c3, c4, c5, c6, c7, c8⟩ := BX.out _ _  hb1
          have FB := Lib.hid (show Below w.heap.size w w1 from Below.trans (show Below w.heap.size w _ from (Below.refl _ _).alloc (Nat.le_refl _) _) (hb1.mono (by simp)))
          have HB1 := Lib.hid hb1
          clear hb1
          go_wp2_with fail
          refine (IZ.out _).mono ?_
          rintro e w2 ⟨rfl, hb2⟩
          clear c0 c1 c2 c3 c4 c5 c6 c7 c8
          have HB2 := Lib.hid (HB1.out.trans (hb2.mono HB1.out.size))
          obtain ⟨c0, c1, c2, c3, c4, c5, c6, c7, c8⟩ := BX.out _ _  HB2.out
          replace FB := Lib.hid (FB.out.trans (hb2.mono FB.out.size))
          clear hb2
          go_wp2_with fail
          refine (WV.out _ _ _ (by simp)).mono ?_
          rintro e w3 ⟨rfl, hb3⟩
          clear c0 c1 c2 c3 c4 c5 c6 c7 c8
          have HB3 := Lib.hid (HB2.out.trans (hb3.mono HB2.out.size))
          obtain ⟨c0, c1, c2, c3, c4, c5, c6, c7, c8⟩ := BX.out _ _  HB3.out
          replace FB := Lib.hid (FB.out.trans (hb3.mono FB.out.size))
          clear hb3
          go_wp2_with fail
          refine (RI.out _ FB.out).mono ?_
          rintro e w4 ⟨rfl, hb4⟩
          clear c0 c1 c2 c3 c4 c5 c6 c7 c8
          have HB4 := Lib.hid (HB3.out.trans (hb4.mono HB3.out.size))
          obtain ⟨c0, c1, c2, c3, c4, c5, c6, c7, c8⟩ := BX.out _ _  HB4.out
          replace FB := Lib.hid (FB.out.trans (hb4.mono FB.out.size))
          clear hb4
          go_wp2
          go_ret
          exact ⟨rfl, FB.out⟩
end Go.Proofs.YtnlbhdlfpnepfaaDoor
