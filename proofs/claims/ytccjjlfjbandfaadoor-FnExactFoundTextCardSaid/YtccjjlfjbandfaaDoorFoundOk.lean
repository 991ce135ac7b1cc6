/- impl.ValidFound, spec.l09Ok, spec.ValidFound -/
import Derived.Test.YtccjjlfjbandfaaDoorSecData
import Derived.Test.YtccjjlfjbandfaaDoorRecFound
import Derived.Test.YtccjjlfjbandfaaDoorBoxes
namespace Go.Proofs.YtccjjlfjbandfaaDoor
open Go.RowKit
set_option linter.unusedVariables false
set_option linter.unusedSimpArgs false
set_option maxRecDepth 20000
def bodyB (z : Int) (d : ByteArray) (st : Int) (de : Bool) : Bool :=
  if st = 1 ∨ st = 3 then secDataB z d else if st = 4 then inB 0 2 z && (decide (d = ⟨#[]⟩) && !de) else if st = 2 then decide (d = ⟨#[]⟩) && !de else false
def foundB (e : FoundV) : Bool := [e.f0, e.f1, e.f2, e.f3].all (inB 0 255) && (inB 0 (8000 - 1) e.f7 && bodyB e.f3 e.f4 e.f5 e.f6)
theorem box8 (w : World) (v0 v1 v2 v3 v4 v5 v6 v7 : Value) (T : TypeId) (w2 : World) (hb : Below (w.alloc (.cells #[v0, v1, v2, v3, v4, v5, v6, v7] T)).heap.size (w.alloc (.cells #[v0, v1, v2, v3, v4, v5, v6, v7] T)) w2) :
    w2.cell? ⟨w.heap.size, 0, none⟩ = some v0 ∧ w2.cell? ⟨w.heap.size, 1, none⟩ = some v1 ∧ w2.cell? ⟨w.heap.size, 2, none⟩ = some v2 ∧ w2.cell? ⟨w.heap.size, 3, none⟩ = some v3 ∧ w2.cell? ⟨w.heap.size, 4, none⟩ = some v4 ∧ w2.cell? ⟨w.heap.size, 5, none⟩ = some v5 ∧ w2.cell? ⟨w.heap.size, 6, none⟩ = some v6 ∧ w2.cell? ⟨w.heap.size, 7, none⟩ = some v7 := by
  have h := (BoxAt.new w #[v0, v1, v2, v3, v4, v5, v6, v7] T _ rfl).below hb (by simp)
  exact ⟨h 0 _ rfl, h 1 _ rfl, h 2 _ rfl, h 3 _ rfl, h 4 _ rfl, h 5 _ rfl, h 6 _ rfl, h 7 _ rfl⟩
set_option maxHeartbeats 8000000 in
theorem validFound_any (e : FoundV) (w : World) (hd : e.f4.size ≤ maxLen) :
    Calls Tryd.prog 18 #[.agg #[.int .i64 e.f0, .int .i64 e.f1, .int .i64 e.f2, .int .i64 e.f3, .string e.f4, .int .i64 e.f5, .bool e.f6, .int .i64 e.f7]] w fun x w' => x = .returned (.bool (foundB e)) ∧ Below w.heap.size w w' := by
  obtain ⟨c, h, n, z, d, st, de, at_⟩ := e
  dsimp only at hd ⊢
  have AB := Lib.hid (fun w T b hb => areBytes_4 c h n z w T b hb)
  have IP := Lib.hid (fun w => isPlace_any at_ 8000 w (by omega) (by omega))
  have SD := Lib.hid (fun w => isSectorData_any z d w hd)
  have IZ := Lib.hid (fun w => isSize_any z w)
  have BX := Lib.hid (fun T w2 hb => box8 w (.int .i64 c) (.int .i64 h) (.int .i64 n) (.int .i64 z) (.string d) (.int .i64 st) (.bool de) (.int .i64 at_) T w2 hb)
  unfold foundB
  dsimp only
  obtain ⟨x, hx⟩ : ∃ x, [c, h, n, z].all (inB 0 255) = x := ⟨_, rfl⟩
  rw [hx] at AB ⊢
  obtain ⟨y, hy⟩ : ∃ y, inB 0 (8000 - 1) at_ = y := ⟨_, rfl⟩
  rw [hy] at IP ⊢
  clear hx hy
  cases x with
  | false =>
    go_enter Tryd.func18, Tryd.ntmps18
    go_wp2_with fail
    refine (AB.out _ _ _ (by simp)).mono ?_
    rintro e w1 ⟨rfl, hb1⟩
    obtain ⟨c0, c1, c2, c3, c4, c5, c6, c7⟩ := BX.out _ _ hb1
    have FB := Lib.hid (show Below w.heap.size w w1 from Below.trans (show Below w.heap.size w _ from (Below.refl _ _).alloc (Nat.le_refl _) _) (hb1.mono (by simp)))
    have HB1 := Lib.hid hb1
    clear hb1
    go_wp2
    go_ret
    exact ⟨rfl, FB.out⟩
  | true =>
    cases y with
    | false =>
      go_enter Tryd.func18, Tryd.ntmps18
      go_wp2_with fail
      refine (AB.out _ _ _ (by simp)).mono ?_
      rintro e w1 ⟨rfl, hb1⟩
      obtain ⟨c0, c1, c2, c3, c4, c5, c6, c7⟩ := BX.out _ _ hb1
      have FB := Lib.hid (show Below w.heap.size w w1 from Below.trans (show Below w.heap.size w _ from (Below.refl _ _).alloc (Nat.le_refl _) _) (hb1.mono (by simp)))
      have HB1 := Lib.hid hb1
      clear hb1
      go_wp2_with fail
      refine (IP.out _).mono ?_
      rintro e w2 ⟨rfl, hb2⟩
      clear c0 c1 c2 c3 c4 c5 c6 c7
      have HB2 := Lib.hid (HB1.out.trans (hb2.mono HB1.out.size))
      obtain ⟨c0, c1, c2, c3, c4, c5, c6, c7⟩ := BX.out _ _ HB2.out
      replace FB := Lib.hid (FB.out.trans (hb2.mono FB.out.size))
      clear hb2
      go_wp2
      go_ret
      exact ⟨rfl, FB.out⟩
    | true =>
      rw [Bool.true_and, Bool.true_and]
      by_cases h1 : st = 1
      · subst h1
        have hv : bodyB z d 1 de = secDataB z d := rfl
        rw [hv]
        obtain ⟨q, hq⟩ : ∃ q, secDataB z d = q := ⟨_, rfl⟩
        rw [hq] at SD ⊢
        clear hq hv
        go_enter Tryd.func18, Tryd.ntmps18
        go_wp2_with fail
        refine (AB.out _ _ _ (by simp)).mono ?_
        rintro e w1 ⟨rfl, hb1⟩
        obtain ⟨c0, c1, c2, c3, c4, c5, c6, c7⟩ := BX.out _ _ hb1
        have FB := Lib.hid (show Below w.heap.size w w1 from Below.trans (show Below w.heap.size w _ from (Below.refl _ _).alloc (Nat.le_refl _) _) (hb1.mono (by simp)))
        have HB1 := Lib.hid hb1
        clear hb1
        go_wp2_with fail
        refine (IP.out _).mono ?_
        rintro e w2 ⟨rfl, hb2⟩
        clear c0 c1 c2 c3 c4 c5 c6 c7
        have HB2 := Lib.hid (HB1.out.trans (hb2.mono HB1.out.size))
        obtain ⟨c0, c1, c2, c3, c4, c5, c6, c7⟩ := BX.out _ _ HB2.out
        replace FB := Lib.hid (FB.out.trans (hb2.mono FB.out.size))
        clear hb2
        go_wp2_with fail
        refine (SD.out _).mono ?_
        rintro e w3 ⟨rfl, hb3⟩
        clear c0 c1 c2 c3 c4 c5 c6 c7
        have HB3 := Lib.hid (HB2.out.trans (hb3.mono HB2.out.size))
        obtain ⟨c0, c1, c2, c3, c4, c5, c6, c7⟩ := BX.out _ _ HB3.out
        replace FB := Lib.hid (FB.out.trans (hb3.mono FB.out.size))
        clear hb3
        go_wp2
        go_ret
        exact ⟨rfl, FB.out⟩
      by_cases h3 : st = 3
      · subst h3
        have hv : bodyB z d 3 de = secDataB z d := rfl
        rw [hv]
        obtain ⟨q, hq⟩ : ∃ q, secDataB z d = q := ⟨_, rfl⟩
        rw [hq] at SD ⊢
        clear hq hv
        go_enter Tryd.func18, Tryd.ntmps18
        go_wp2_with fail
        refine (AB.out _ _ _ (by simp)).mono ?_
        rintro e w1 ⟨rfl, hb1⟩
        obtain ⟨c0, c1, c2, c3, c4, c5, c6, c7⟩ := BX.out _ _ hb1
        have FB := Lib.hid (show Below w.heap.size w w1 from Below.trans (show Below w.heap.size w _ from (Below.refl _ _).alloc (Nat.le_refl _) _) (hb1.mono (by simp)))
        have HB1 := Lib.hid hb1
        clear hb1
        go_wp2_with fail
        refine (IP.out _).mono ?_
        rintro e w2 ⟨rfl, hb2⟩
        clear c0 c1 c2 c3 c4 c5 c6 c7
        have HB2 := Lib.hid (HB1.out.trans (hb2.mono HB1.out.size))
        obtain ⟨c0, c1, c2, c3, c4, c5, c6, c7⟩ := BX.out _ _ HB2.out
        replace FB := Lib.hid (FB.out.trans (hb2.mono FB.out.size))
        clear hb2
        go_wp2_with fail
        refine (SD.out _).mono ?_
        rintro e w3 ⟨rfl, hb3⟩
        clear c0 c1 c2 c3 c4 c5 c6 c7
        have HB3 := Lib.hid (HB2.out.trans (hb3.mono HB2.out.size))
        obtain ⟨c0, c1, c2, c3, c4, c5, c6, c7⟩ := BX.out _ _ HB3.out
        replace FB := Lib.hid (FB.out.trans (hb3.mono FB.out.size))
        clear hb3
        go_wp2
        go_ret
        exact ⟨rfl, FB.out⟩
      by_cases h4 : st = 4
      · subst h4
        have hv : bodyB z d 4 de = (inB 0 2 z && (decide (d = ⟨#[]⟩) && !de)) := rfl
        rw [hv]
        obtain ⟨q, hq⟩ : ∃ q, inB 0 2 z = q := ⟨_, rfl⟩
        rw [hq] at IZ ⊢
        clear hq hv h1 h3
        cases q with
        | false =>
          go_enter Tryd.func18, Tryd.ntmps18
          go_wp2_with fail
          refine (AB.out _ _ _ (by simp)).mono ?_
          rintro e w1 ⟨rfl, hb1⟩
          obtain ⟨c0, c1, c2, c3, c4, c5, c6, c7⟩ := BX.out _ _ hb1
          have FB := Lib.hid (show Below w.heap.size w w1 from Below.trans (show Below w.heap.size w _ from (Below.refl _ _).alloc (Nat.le_refl _) _) (hb1.mono (by simp)))
          have HB1 := Lib.hid hb1
          clear hb1
          go_wp2_with fail
          refine (IP.out _).mono ?_
          rintro e w2 ⟨rfl, hb2⟩
          clear c0 c1 c2 c3 c4 c5 c6 c7
          have HB2 := Lib.hid (HB1.out.trans (hb2.mono HB1.out.size))
          obtain ⟨c0, c1, c2, c3, c4, c5, c6, c7⟩ := BX.out _ _ HB2.out
          replace FB := Lib.hid (FB.out.trans (hb2.mono FB.out.size))
          clear hb2
          go_wp2_with fail
          refine (IZ.out _).mono ?_
          rintro e w3 ⟨rfl, hb3⟩
          clear c0 c1 c2 c3 c4 c5 c6 c7
          have HB3 := Lib.hid (HB2.out.trans (hb3.mono HB2.out.size))
          obtain ⟨c0, c1, c2, c3, c4, c5, c6, c7⟩ := BX.out _ _ HB3.out
          replace FB := Lib.hid (FB.out.trans (hb3.mono FB.out.size))
          clear hb3
          go_wp2
          go_ret
          exact ⟨rfl, FB.out⟩
        | true =>
          by_cases he : d = ⟨#[]⟩
          · subst he
            cases de
            all_goals
              go_enter Tryd.func18, Tryd.ntmps18
              go_wp2_with fail
              refine (AB.out _ _ _ (by simp)).mono ?_
              rintro e w1 ⟨rfl, hb1⟩
              obtain ⟨c0, c1, c2, c3, c4, c5, c6, c7⟩ := BX.out _ _ hb1
              have FB := Lib.hid (show Below w.heap.size w w1 from Below.trans (show Below w.heap.size w _ from (Below.refl _ _).alloc (Nat.le_refl _) _) (hb1.mono (by simp)))
              have HB1 := Lib.hid hb1
              clear hb1
              go_wp2_with fail
              refine (IP.out _).mono ?_
              rintro e w2 ⟨rfl, hb2⟩
              clear c0 c1 c2 c3 c4 c5 c6 c7
              have HB2 := Lib.hid (HB1.out.trans (hb2.mono HB1.out.size))
              obtain ⟨c0, c1, c2, c3, c4, c5, c6, c7⟩ := BX.out _ _ HB2.out
              replace FB := Lib.hid (FB.out.trans (hb2.mono FB.out.size))
              clear hb2
              go_wp2_with fail
              refine (IZ.out _).mono ?_
              rintro e w3 ⟨rfl, hb3⟩
              clear c0 c1 c2 c3 c4 c5 c6 c7
              have HB3 := Lib.hid (HB2.out.trans (hb3.mono HB2.out.size))
              obtain ⟨c0, c1, c2, c3, c4, c5, c6, c7⟩ := BX.out _ _ HB3.out
              replace FB := Lib.hid (FB.out.trans (hb3.mono FB.out.size))
              clear hb3
              go_wp2
              go_ret
              exact ⟨rfl, FB.out⟩
          · obtain ⟨e1, e2⟩ := empty_no he
            have HV := Lib.hid (show (decide (d = ⟨#[]⟩)) = false by simp [he])
            rw [HV.out]
            clear he
            go_enter Tryd.func18, Tryd.ntmps18
            go_wp2_with fail
            refine (AB.out _ _ _ (by simp)).mono ?_
            rintro e w1 ⟨rfl, hb1⟩
            obtain ⟨c0, c1, c2, c3, c4, c5, c6, c7⟩ := BX.out _ _ hb1
            have FB := Lib.hid (show Below w.heap.size w w1 from Below.trans (show Below w.heap.size w _ from (Below.refl _ _).alloc (Nat.le_refl _) _) (hb1.mono (by simp)))
            have HB1 := Lib.hid hb1
            clear hb1
            go_wp2_with fail
            refine (IP.out _).mono ?_
            rintro e w2 ⟨rfl, hb2⟩
            clear c0 c1 c2 c3 c4 c5 c6 c7
            have HB2 := Lib.hid (HB1.out.trans (hb2.mono HB1.out.size))
            obtain ⟨c0, c1, c2, c3, c4, c5, c6, c7⟩ := BX.out _ _ HB2.out
            replace FB := Lib.hid (FB.out.trans (hb2.mono FB.out.size))
            clear hb2
            go_wp2_with fail
            refine (IZ.out _).mono ?_
            rintro e w3 ⟨rfl, hb3⟩
            clear c0 c1 c2 c3 c4 c5 c6 c7
            have HB3 := Lib.hid (HB2.out.trans (hb3.mono HB2.out.size))
            obtain ⟨c0, c1, c2, c3, c4, c5, c6, c7⟩ := BX.out _ _ HB3.out
            replace FB := Lib.hid (FB.out.trans (hb3.mono FB.out.size))
            clear hb3
            go_wp2
            go_ret
            exact ⟨rfl, FB.out⟩
      by_cases h2 : st = 2
      · subst h2
        have hv : bodyB z d 2 de = (decide (d = ⟨#[]⟩) && !de) := rfl
        rw [hv]
        clear hv h1 h3 h4
        by_cases he : d = ⟨#[]⟩
        · subst he
          cases de
          all_goals
            go_enter Tryd.func18, Tryd.ntmps18
            go_wp2_with fail
            refine (AB.out _ _ _ (by simp)).mono ?_
            rintro e w1 ⟨rfl, hb1⟩
            obtain ⟨c0, c1, c2, c3, c4, c5, c6, c7⟩ := BX.out _ _ hb1
            have FB := Lib.hid (show Below w.heap.size w w1 from Below.trans (show Below w.heap.size w _ from (Below.refl _ _).alloc (Nat.le_refl _) _) (hb1.mono (by simp)))
            have HB1 := Lib.hid hb1
            clear hb1
            go_wp2_with fail
            refine (IP.out _).mono ?_
            rintro e w2 ⟨rfl, hb2⟩
            clear c0 c1 c2 c3 c4 c5 c6 c7
            have HB2 := Lib.hid (HB1.out.trans (hb2.mono HB1.out.size))
            obtain ⟨c0, c1, c2, c3, c4, c5, c6, c7⟩ := BX.out _ _ HB2.out
            replace FB := Lib.hid (FB.out.trans (hb2.mono FB.out.size))
            clear hb2
            go_wp2
            go_ret
            exact ⟨rfl, FB.out⟩
        · obtain ⟨e1, e2⟩ := empty_no he
          have HV := Lib.hid (show (decide (d = ⟨#[]⟩)) = false by simp [he])
          rw [HV.out]
          clear he
          go_enter Tryd.func18, Tryd.ntmps18
          go_wp2_with fail
          refine (AB.out _ _ _ (by simp)).mono ?_
          rintro e w1 ⟨rfl, hb1⟩
          obtain ⟨c0, c1, c2, c3, c4, c5, c6, c7⟩ := BX.out _ _ hb1
          have FB := Lib.hid (show Below w.heap.size w w1 from Below.trans (show Below w.heap.size w _ from (Below.refl _ _).alloc (Nat.le_refl _) _) (hb1.mono (by simp)))
          have HB1 := Lib.hid hb1
          clear hb1
          go_wp2_with fail
          refine (IP.out _).mono ?_
          rintro e w2 ⟨rfl, hb2⟩
          clear c0 c1 c2 c3 c4 c5 c6 c7
          have HB2 := Lib.hid (HB1.out.trans (hb2.mono HB1.out.size))
          obtain ⟨c0, c1, c2, c3, c4, c5, c6, c7⟩ := BX.out _ _ HB2.out
          replace FB := Lib.hid (FB.out.trans (hb2.mono FB.out.size))
          clear hb2
          go_wp2
          go_ret
          exact ⟨rfl, FB.out⟩
      have hv : bodyB z d st de = false := by unfold bodyB; simp [h1, h2, h3, h4]
      rw [hv]
      have b1 : (st == 1) = false := beq_eq_false_iff_ne.2 h1
      have b2 : (st == 2) = false := beq_eq_false_iff_ne.2 h2
      have b3 : (st == 3) = false := beq_eq_false_iff_ne.2 h3
      have b4 : (st == 4) = false := beq_eq_false_iff_ne.2 h4
      clear hv h1 h2 h3 h4
      go_enter Tryd.func18, Tryd.ntmps18
      go_wp2_with fail
      refine (AB.out _ _ _ (by simp)).mono ?_
      rintro e w1 ⟨rfl, hb1⟩
      obtain ⟨c0, c1, c2, c3, c4, c5, c6, c7⟩ := BX.out _ _ hb1
      have FB := Lib.hid (show Below w.heap.size w w1 from Below.trans (show Below w.heap.size w _ from (Below.refl _ _).alloc (Nat.le_refl _) _) (hb1.mono (by simp)))
      have HB1 := Lib.hid hb1
      clear hb1
      go_wp2_with fail
      refine (IP.out _).mono ?_
      rintro e w2 ⟨rfl, hb2⟩
      clear c0 c1 c2 c3 c4 c5 c6 c7
      have HB2 := Lib.hid (HB1.out.trans (hb2.mono HB1.out.size))
      obtain ⟨c0, c1, c2, c3, c4, c5, c6, c7⟩ := BX.out _ _ HB2.out
      replace FB := Lib.hid (FB.out.trans (hb2.mono FB.out.size))
      clear hb2
      go_wp2
      go_ret
      exact ⟨rfl, FB.out⟩
/-- A found sector in memory. -/
def FoundAt (w : World) (b off : Nat) (e : FoundV) : Prop := CellsAt w b off (rowFound e)
set_option maxHeartbeats 8000000 in
theorem l09Ok_any (e : FoundV) (b off : Nat) (w : World) (hd : e.f4.size ≤ maxLen) (hp : FoundAt w b off e) :
    Calls Tryd.prog 17 #[.pointer (some ⟨b, off, none⟩)] w fun x w' => x = .returned (.bool (foundB e)) ∧ Below w.heap.size w w' := by
  obtain ⟨c, h, n, z, d, st, de, at_⟩ := e
  dsimp only at hd
  unfold maxLen at hd
  have c0 : w.cell? ⟨b, off, none⟩ = some (.int .i64 c) := hp 0 _ rfl
  have c1 : w.cell? ⟨b, off + 1, none⟩ = some (.int .i64 h) := hp 1 _ rfl
  have c2 : w.cell? ⟨b, off + 2, none⟩ = some (.int .i64 n) := hp 2 _ rfl
  have c3 : w.cell? ⟨b, off + 3, none⟩ = some (.int .i64 z) := hp 3 _ rfl
  have c4 : w.cell? ⟨b, off + 4, none⟩ = some (.string d) := hp 4 _ rfl
  have c5 : w.cell? ⟨b, off + 5, none⟩ = some (.int .i64 st) := hp 5 _ rfl
  have c6 : w.cell? ⟨b, off + 6, none⟩ = some (.bool de) := hp 6 _ rfl
  have c7 : w.cell? ⟨b, off + 7, none⟩ = some (.int .i64 at_) := hp 7 _ rfl
  clear hp
  have I0 := Lib.hid (fun w => l00In_any c 0 255 w)
  have I1 := Lib.hid (fun w => l00In_any h 0 255 w)
  have I2 := Lib.hid (fun w => l00In_any n 0 255 w)
  have I3 := Lib.hid (fun w => l00In_any z 0 255 w)
  have I4 := Lib.hid (fun w => l00In_any st 1 4 w)
  have I5 := Lib.hid (fun w => l00In_any at_ 0 7999 w)
  unfold foundB
  dsimp only
  rw [show (8000 - 1 : Int) = 7999 from rfl]
  simp only [List.all_cons, List.all_nil, Bool.and_true]
  by_cases x0 : inB 0 255 c = true
  case neg =>
    have y0 : inB 0 255 c = false := by simpa using x0
    have HE := Lib.hid (show ((inB 0 255 c && (inB 0 255 h && (inB 0 255 n && inB 0 255 z))) && (inB 0 7999 at_ && bodyB z d st de)) = false by simp [y0])
    rw [HE.out]
    rw [y0] at I0
    clear x0 y0
    go_enter Tryd.func17, Tryd.ntmps17
    go_wp2_with fail
    refine (I0.out _).mono ?_
    rintro e w1 ⟨rfl, rfl⟩
    go_wp2
    go_ret
    exact ⟨rfl, Below.refl _ _⟩
  rw [x0] at I0
  by_cases x1 : inB 0 255 h = true
  case neg =>
    have y1 : inB 0 255 h = false := by simpa using x1
    have HE := Lib.hid (show ((inB 0 255 c && (inB 0 255 h && (inB 0 255 n && inB 0 255 z))) && (inB 0 7999 at_ && bodyB z d st de)) = false by simp [y1])
    rw [HE.out]
    rw [y1] at I1
    clear x1 y1
    go_enter Tryd.func17, Tryd.ntmps17
    go_wp2_with fail
    refine (I0.out _).mono ?_
    rintro e w1 ⟨rfl, rfl⟩
    go_wp2_with fail
    refine (I1.out _).mono ?_
    rintro e w2 ⟨rfl, rfl⟩
    go_wp2
    go_ret
    exact ⟨rfl, Below.refl _ _⟩
  rw [x1] at I1
  by_cases x2 : inB 0 255 n = true
  case neg =>
    have y2 : inB 0 255 n = false := by simpa using x2
    have HE := Lib.hid (show ((inB 0 255 c && (inB 0 255 h && (inB 0 255 n && inB 0 255 z))) && (inB 0 7999 at_ && bodyB z d st de)) = false by simp [y2])
    rw [HE.out]
    rw [y2] at I2
    clear x2 y2
    go_enter Tryd.func17, Tryd.ntmps17
    go_wp2_with fail
    refine (I0.out _).mono ?_
    rintro e w1 ⟨rfl, rfl⟩
    go_wp2_with fail
    refine (I1.out _).mono ?_
    rintro e w2 ⟨rfl, rfl⟩
    go_wp2_with fail
    refine (I2.out _).mono ?_
    rintro e w3 ⟨rfl, rfl⟩
    go_wp2
    go_ret
    exact ⟨rfl, Below.refl _ _⟩
  rw [x2] at I2
  by_cases x3 : inB 0 255 z = true
  case neg =>
    have y3 : inB 0 255 z = false := by simpa using x3
    have HE := Lib.hid (show ((inB 0 255 c && (inB 0 255 h && (inB 0 255 n && inB 0 255 z))) && (inB 0 7999 at_ && bodyB z d st de)) = false by simp [y3])
    rw [HE.out]
    rw [y3] at I3
    clear x3 y3
    go_enter Tryd.func17, Tryd.ntmps17
    go_wp2_with fail
    refine (I0.out _).mono ?_
    rintro e w1 ⟨rfl, rfl⟩
    go_wp2_with fail
    refine (I1.out _).mono ?_
    rintro e w2 ⟨rfl, rfl⟩
    go_wp2_with fail
    refine (I2.out _).mono ?_
    rintro e w3 ⟨rfl, rfl⟩
    go_wp2_with fail
    refine (I3.out _).mono ?_
    rintro e w4 ⟨rfl, rfl⟩
    go_wp2
    go_ret
    exact ⟨rfl, Below.refl _ _⟩
  rw [x3] at I3
  by_cases x4 : inB 1 4 st = true
  case neg =>
    have y4 : inB 1 4 st = false := by simpa using x4
    have hb : bodyB z d st de = false := by
      have : ¬ (1 ≤ st ∧ st ≤ 4) := fun hh => x4 (inB_iff.2 hh)
      unfold bodyB
      rw [if_neg (by omega), if_neg (by omega), if_neg (by omega)]
    have HE := Lib.hid (show ((inB 0 255 c && (inB 0 255 h && (inB 0 255 n && inB 0 255 z))) && (inB 0 7999 at_ && bodyB z d st de)) = false by simp [hb])
    rw [HE.out]
    rw [y4] at I4
    clear x4 y4 hb
    go_enter Tryd.func17, Tryd.ntmps17
    go_wp2_with fail
    refine (I0.out _).mono ?_
    rintro e w1 ⟨rfl, rfl⟩
    go_wp2_with fail
    refine (I1.out _).mono ?_
    rintro e w2 ⟨rfl, rfl⟩
    go_wp2_with fail
    refine (I2.out _).mono ?_
    rintro e w3 ⟨rfl, rfl⟩
    go_wp2_with fail
    refine (I3.out _).mono ?_
    rintro e w4 ⟨rfl, rfl⟩
    go_wp2_with fail
    refine (I4.out _).mono ?_
    rintro e w5 ⟨rfl, rfl⟩
    go_wp2
    go_ret
    exact ⟨rfl, Below.refl _ _⟩
  rw [x4] at I4
  by_cases x5 : inB 0 7999 at_ = true
  case neg =>
    have y5 : inB 0 7999 at_ = false := by simpa using x5
    have HE := Lib.hid (show ((inB 0 255 c && (inB 0 255 h && (inB 0 255 n && inB 0 255 z))) && (inB 0 7999 at_ && bodyB z d st de)) = false by simp [y5])
    rw [HE.out]
    rw [y5] at I5
    clear x5 y5
    go_enter Tryd.func17, Tryd.ntmps17
    go_wp2_with fail
    refine (I0.out _).mono ?_
    rintro e w1 ⟨rfl, rfl⟩
    go_wp2_with fail
    refine (I1.out _).mono ?_
    rintro e w2 ⟨rfl, rfl⟩
    go_wp2_with fail
    refine (I2.out _).mono ?_
    rintro e w3 ⟨rfl, rfl⟩
    go_wp2_with fail
    refine (I3.out _).mono ?_
    rintro e w4 ⟨rfl, rfl⟩
    go_wp2_with fail
    refine (I4.out _).mono ?_
    rintro e w5 ⟨rfl, rfl⟩
    go_wp2_with fail
    refine (I5.out _).mono ?_
    rintro e w6 ⟨rfl, rfl⟩
    go_wp2
    go_ret
    exact ⟨rfl, Below.refl _ _⟩
  rw [x5] at I5
  have HE := Lib.hid (show ((inB 0 255 c && (inB 0 255 h && (inB 0 255 n && inB 0 255 z))) && (inB 0 7999 at_ && bodyB z d st de)) = bodyB z d st de by simp [x0, x1, x2, x3, x5])
  rw [HE.out]
  have z0 := (inB_iff.1 x3).1
  obtain ⟨s0, s1⟩ := inB_iff.1 x4
  clear x0 x1 x2 x3 x4 x5
  have hst : st = 1 ∨ st = 3 ∨ st = 2 ∨ st = 4 := by omega
  clear s0 s1
  rcases hst with rfl | rfl | rfl | rfl
  · have hv : bodyB z d 1 de = secDataB z d := rfl
    rw [hv]
    unfold secDataB
    by_cases hz : z ≤ 2
    · have hz3 : z = 0 ∨ z = 1 ∨ z = 2 := by omega
      clear hz z0 hv
      rcases hz3 with rfl | rfl | rfl
      all_goals
        simp only [secN, show inB 0 2 (0 : Int) = true from rfl, show inB 0 2 (1 : Int) = true from rfl, show inB 0 2 (2 : Int) = true from rfl, Bool.true_and]
        go_enter Tryd.func17, Tryd.ntmps17
        go_wp2_with fail
        refine (I0.out _).mono ?_
        rintro e w1 ⟨rfl, rfl⟩
        go_wp2_with fail
        refine (I1.out _).mono ?_
        rintro e w2 ⟨rfl, rfl⟩
        go_wp2_with fail
        refine (I2.out _).mono ?_
        rintro e w3 ⟨rfl, rfl⟩
        go_wp2_with fail
        refine (I3.out _).mono ?_
        rintro e w4 ⟨rfl, rfl⟩
        go_wp2_with fail
        refine (I4.out _).mono ?_
        rintro e w5 ⟨rfl, rfl⟩
        go_wp2_with fail
        refine (I5.out _).mono ?_
        rintro e w6 ⟨rfl, rfl⟩
        go_wp2
        go_quiet (fail)
        go_wp2
        go_ret
        exact ⟨ret_bool (by first | rfl | simp), below_drewN' (Below.refl _ _) _⟩
    · have hi : inB 0 2 z = false := by unfold inB; simp; omega
      have hdz : decide (z ≤ 2) = false := by simp; omega
      rw [hi]
      clear hi hv
      go_enter Tryd.func17, Tryd.ntmps17
      go_wp2_with fail
      refine (I0.out _).mono ?_
      rintro e w1 ⟨rfl, rfl⟩
      go_wp2_with fail
      refine (I1.out _).mono ?_
      rintro e w2 ⟨rfl, rfl⟩
      go_wp2_with fail
      refine (I2.out _).mono ?_
      rintro e w3 ⟨rfl, rfl⟩
      go_wp2_with fail
      refine (I3.out _).mono ?_
      rintro e w4 ⟨rfl, rfl⟩
      go_wp2_with fail
      refine (I4.out _).mono ?_
      rintro e w5 ⟨rfl, rfl⟩
      go_wp2_with fail
      refine (I5.out _).mono ?_
      rintro e w6 ⟨rfl, rfl⟩
      go_wp2
      go_quiet (fail)
      go_wp2
      go_ret
      exact ⟨rfl, below_drewN' (Below.refl _ _) _⟩
  · have hv : bodyB z d 3 de = secDataB z d := rfl
    rw [hv]
    unfold secDataB
    by_cases hz : z ≤ 2
    · have hz3 : z = 0 ∨ z = 1 ∨ z = 2 := by omega
      clear hz z0 hv
      rcases hz3 with rfl | rfl | rfl
      all_goals
        simp only [secN, show inB 0 2 (0 : Int) = true from rfl, show inB 0 2 (1 : Int) = true from rfl, show inB 0 2 (2 : Int) = true from rfl, Bool.true_and]
        go_enter Tryd.func17, Tryd.ntmps17
        go_wp2_with fail
        refine (I0.out _).mono ?_
        rintro e w1 ⟨rfl, rfl⟩
        go_wp2_with fail
        refine (I1.out _).mono ?_
        rintro e w2 ⟨rfl, rfl⟩
        go_wp2_with fail
        refine (I2.out _).mono ?_
        rintro e w3 ⟨rfl, rfl⟩
        go_wp2_with fail
        refine (I3.out _).mono ?_
        rintro e w4 ⟨rfl, rfl⟩
        go_wp2_with fail
        refine (I4.out _).mono ?_
        rintro e w5 ⟨rfl, rfl⟩
        go_wp2_with fail
        refine (I5.out _).mono ?_
        rintro e w6 ⟨rfl, rfl⟩
        go_wp2
        go_quiet (fail)
        go_wp2
        go_ret
        exact ⟨ret_bool (by first | rfl | simp), below_drewN' (Below.refl _ _) _⟩
    · have hi : inB 0 2 z = false := by unfold inB; simp; omega
      have hdz : decide (z ≤ 2) = false := by simp; omega
      rw [hi]
      clear hi hv
      go_enter Tryd.func17, Tryd.ntmps17
      go_wp2_with fail
      refine (I0.out _).mono ?_
      rintro e w1 ⟨rfl, rfl⟩
      go_wp2_with fail
      refine (I1.out _).mono ?_
      rintro e w2 ⟨rfl, rfl⟩
      go_wp2_with fail
      refine (I2.out _).mono ?_
      rintro e w3 ⟨rfl, rfl⟩
      go_wp2_with fail
      refine (I3.out _).mono ?_
      rintro e w4 ⟨rfl, rfl⟩
      go_wp2_with fail
      refine (I4.out _).mono ?_
      rintro e w5 ⟨rfl, rfl⟩
      go_wp2_with fail
      refine (I5.out _).mono ?_
      rintro e w6 ⟨rfl, rfl⟩
      go_wp2
      go_quiet (fail)
      go_wp2
      go_ret
      exact ⟨rfl, below_drewN' (Below.refl _ _) _⟩
  · by_cases he : d = ⟨#[]⟩
    · subst he
      have hv : bodyB z ⟨#[]⟩ 2 de = !de := by cases de <;> rfl
      rw [hv]
      cases de
      all_goals
        go_enter Tryd.func17, Tryd.ntmps17
        go_wp2_with fail
        refine (I0.out _).mono ?_
        rintro e w1 ⟨rfl, rfl⟩
        go_wp2_with fail
        refine (I1.out _).mono ?_
        rintro e w2 ⟨rfl, rfl⟩
        go_wp2_with fail
        refine (I2.out _).mono ?_
        rintro e w3 ⟨rfl, rfl⟩
        go_wp2_with fail
        refine (I3.out _).mono ?_
        rintro e w4 ⟨rfl, rfl⟩
        go_wp2_with fail
        refine (I4.out _).mono ?_
        rintro e w5 ⟨rfl, rfl⟩
        go_wp2_with fail
        refine (I5.out _).mono ?_
        rintro e w6 ⟨rfl, rfl⟩
        go_wp2
        go_ret
        exact ⟨rfl, Below.refl _ _⟩
    · obtain ⟨e1, e2⟩ := empty_no he
      have hv : bodyB z d 2 de = false := by unfold bodyB; simp [he]
      rw [hv]
      clear he hv
      go_enter Tryd.func17, Tryd.ntmps17
      go_wp2_with fail
      refine (I0.out _).mono ?_
      rintro e w1 ⟨rfl, rfl⟩
      go_wp2_with fail
      refine (I1.out _).mono ?_
      rintro e w2 ⟨rfl, rfl⟩
      go_wp2_with fail
      refine (I2.out _).mono ?_
      rintro e w3 ⟨rfl, rfl⟩
      go_wp2_with fail
      refine (I3.out _).mono ?_
      rintro e w4 ⟨rfl, rfl⟩
      go_wp2_with fail
      refine (I4.out _).mono ?_
      rintro e w5 ⟨rfl, rfl⟩
      go_wp2_with fail
      refine (I5.out _).mono ?_
      rintro e w6 ⟨rfl, rfl⟩
      go_wp2
      go_ret
      exact ⟨rfl, Below.refl _ _⟩
  · by_cases he : d = ⟨#[]⟩
    · subst he
      by_cases hz : z ≤ 2
      · have hv : bodyB z ⟨#[]⟩ 4 de = !de := by
          have hi : inB 0 2 z = true := inB_iff.2 ⟨z0, hz⟩
          unfold bodyB
          rw [if_neg (by omega), if_pos rfl, hi]
          simp
        rw [hv]
        clear hv
        cases de
        all_goals
          go_enter Tryd.func17, Tryd.ntmps17
          go_wp2_with fail
          refine (I0.out _).mono ?_
          rintro e w1 ⟨rfl, rfl⟩
          go_wp2_with fail
          refine (I1.out _).mono ?_
          rintro e w2 ⟨rfl, rfl⟩
          go_wp2_with fail
          refine (I2.out _).mono ?_
          rintro e w3 ⟨rfl, rfl⟩
          go_wp2_with fail
          refine (I3.out _).mono ?_
          rintro e w4 ⟨rfl, rfl⟩
          go_wp2_with fail
          refine (I4.out _).mono ?_
          rintro e w5 ⟨rfl, rfl⟩
          go_wp2_with fail
          refine (I5.out _).mono ?_
          rintro e w6 ⟨rfl, rfl⟩
          go_wp2
          go_ret
          exact ⟨ret_bool (by first | rfl | simp [hz] | (simp; omega)), Below.refl _ _⟩
      · have hv : bodyB z ⟨#[]⟩ 4 de = false := by
          have hi : inB 0 2 z = false := by unfold inB; simp; omega
          unfold bodyB
          rw [if_neg (by omega), if_pos rfl, hi]
          rfl
        rw [hv]
        clear hv
        cases de
        all_goals
          go_enter Tryd.func17, Tryd.ntmps17
          go_wp2_with fail
          refine (I0.out _).mono ?_
          rintro e w1 ⟨rfl, rfl⟩
          go_wp2_with fail
          refine (I1.out _).mono ?_
          rintro e w2 ⟨rfl, rfl⟩
          go_wp2_with fail
          refine (I2.out _).mono ?_
          rintro e w3 ⟨rfl, rfl⟩
          go_wp2_with fail
          refine (I3.out _).mono ?_
          rintro e w4 ⟨rfl, rfl⟩
          go_wp2_with fail
          refine (I4.out _).mono ?_
          rintro e w5 ⟨rfl, rfl⟩
          go_wp2_with fail
          refine (I5.out _).mono ?_
          rintro e w6 ⟨rfl, rfl⟩
          go_wp2
          go_ret
          exact ⟨ret_bool (by first | rfl | simp [hz] | (simp; omega)), Below.refl _ _⟩
    · obtain ⟨e1, e2⟩ := empty_no he
      have hv : bodyB z d 4 de = false := by unfold bodyB; simp [he]
      rw [hv]
      clear he hv
      go_enter Tryd.func17, Tryd.ntmps17
      go_wp2_with fail
      refine (I0.out _).mono ?_
      rintro e w1 ⟨rfl, rfl⟩
      go_wp2_with fail
      refine (I1.out _).mono ?_
      rintro e w2 ⟨rfl, rfl⟩
      go_wp2_with fail
      refine (I2.out _).mono ?_
      rintro e w3 ⟨rfl, rfl⟩
      go_wp2_with fail
      refine (I3.out _).mono ?_
      rintro e w4 ⟨rfl, rfl⟩
      go_wp2_with fail
      refine (I4.out _).mono ?_
      rintro e w5 ⟨rfl, rfl⟩
      go_wp2_with fail
      refine (I5.out _).mono ?_
      rintro e w6 ⟨rfl, rfl⟩
      go_wp2
      go_ret
      exact ⟨rfl, Below.refl _ _⟩
end Go.Proofs.YtccjjlfjbandfaaDoor
