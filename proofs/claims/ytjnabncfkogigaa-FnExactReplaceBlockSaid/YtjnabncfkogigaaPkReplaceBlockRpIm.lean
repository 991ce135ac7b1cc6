/- impl.ReplaceBlock -/
import Derived.Test.YtjnabncfkogigaaPkReplaceBlockRpUn
import Derived.Test.YtjnabncfkogigaaPkReplaceBlockNewDevIm
namespace Go.Proofs.Ytjnabncfkogigaa
open Go.RowKit
set_option linter.unusedVariables false
set_option linter.unusedSimpArgs false
set_option maxRecDepth 20000
theorem unusedM_any (x : DeviceV) (s0 s1 : Option Addr) (c0 c1 : Nat) (hd : devB x = true) (hL : LenDevice 1048576 x) (w : World) (h : SlDevice w s0 s1 x) :
    Calls Try.prog 129 #[.agg #[.int .i64 x.f0.f0, .int .i64 x.f0.f1, .int .i64 x.f0.f2, .int .i64 x.f0.f3, .slice s0 x.f0.f4.length c0, .int .i64 x.f1, .int .i64 x.f2, .slice s1 x.f3.length c1]] w fun e w' => e = .returned (.tuple #[.int .i64 (unV (rpF x)), .int .i64 (unC (rpF x))]) ∧ Below w.heap.size w w' := by
  obtain ⟨f1, f2, f3, f4, f5, f6, f7, f8⟩ := devB_facts hd
  have hsk : inB 0 7 x.f1 = true := by
    unfold devB at hd
    simp only [Bool.and_eq_true] at hd
    exact hd.2.1
  obtain ⟨sk0, sk1⟩ := inB_iff.1 hsk
  obtain ⟨⟨a0, a1, a2, a3, es⟩, sk, sp, zs⟩ := x
  obtain ⟨T, C, hC, hT, hN, hN1, hN8, hg⟩ := disc_nums f1
  dsimp only at *
  subst hC
  obtain ⟨S, rfl⟩ : ∃ S : Nat, sk = (S : Int) := ⟨sk.toNat, by omega⟩
  have hr : rpF ⟨⟨a0, a1, (C : Int), a3, es⟩, (S : Int), sp, zs⟩ = freeK C S zs es.length := by unfold rpF; simp
  rw [hr]
  exact callsIn_wide.1 (unused_in a0 a1 a3 sp T C S es.length s0 s1 c0 c1 es zs hg hT hN (by omega) hN8 hL.2 (fun z hz => wf_of (by have := f7 z hz; omega)) w h.2)
theorem rpF_plain {x : DeviceV} (hd : devB x = true) (hz : x.f2 = 0) : rpF x = none := by
  obtain ⟨f1, f2, f3, f4, f5, f6, f7, f8⟩ := devB_facts hd
  obtain ⟨⟨a0, a1, a2, a3, es⟩, sk, sp, zs⟩ := x
  obtain ⟨T, C, hC, hT, hN, hN1, hN8, hg⟩ := disc_nums f1
  dsimp only at *
  subst hC
  subst hz
  have hc := (geoB_iff.1 hg).2.2.1
  unfold rpF
  simp only [Int.toNat_natCast]
  rw [hN]
  exact freeK_none (a := T) (by omega) (by omega) (fun z hz => by have := f7 z hz; rw [← hN]; omega) f8
theorem rpF_at {x : DeviceV} {z : Int} (hd : devB x = true) (h : rpF x = some z) : ∃ i : Nat, z = (i : Int) ∧ i < x.f0.f4.length := by
  obtain ⟨f1, f2, f3, f4, f5, f6, f7, f8⟩ := devB_facts hd
  obtain ⟨⟨a0, a1, a2, a3, es⟩, sk, sp, zs⟩ := x
  obtain ⟨T, C, hC, hT, hN, hN1, hN8, hg⟩ := disc_nums f1
  dsimp only at *
  subst hC
  have hc := (geoB_iff.1 hg).2.2.1
  unfold rpF at h
  simp only [Int.toNat_natCast] at h
  rw [hN] at h
  obtain ⟨i, e, hi, _⟩ := freeK_some (by omega) h
  exact ⟨i, e, by rw [hN]; exact hi⟩
set_option maxHeartbeats 1000000 in
theorem plainUn_any (x : DeviceV) (s0 s1 : Option Addr) (c0 c1 : Nat) (w : World) :
    Calls Try.prog 128 #[.agg #[.int .i64 x.f0.f0, .int .i64 x.f0.f1, .int .i64 x.f0.f2, .int .i64 x.f0.f3, .slice s0 x.f0.f4.length c0, .int .i64 x.f1, .int .i64 x.f2, .slice s1 x.f3.length c1]] w fun e w' => e = .returned (.tuple #[.int .i64 0, .int .i64 5]) ∧ Below w.heap.size w w' := by
  go_enter Try.func128, Try.ntmps128
  go_wp2
  go_ret2
  exact ⟨rfl, by go_grown⟩
set_option maxHeartbeats 8000000 in
theorem replaceBlock_any (x : DeviceV) (s0 s1 : Option Addr) (c0 c1 : Nat) (k : Int) (hL : LenDevice 1048576 x) (hV : StrDevice 1048576 x) (w : World) (h : SlDevice w s0 s1 x) :
    Calls Try.prog 33 #[.agg #[.int .i64 x.f0.f0, .int .i64 x.f0.f1, .int .i64 x.f0.f2, .int .i64 x.f0.f3, .slice s0 x.f0.f4.length c0, .int .i64 x.f1, .int .i64 x.f2, .slice s1 x.f3.length c1], .int .i64 k] w (DevRes (rpV x k) (rpC x k) w) := by
  have OP := Lib.hid (fun w' (hb : Below w.heap.size w w') => opened_any x s0 s1 c0 c1 hL hV w' (h.below hb (Nat.le_refl _)))
  have HA0 : BoxF ((w.alloc (.cells #[.int .i64 x.f0.f0, .int .i64 x.f0.f1, .int .i64 x.f0.f2, .int .i64 x.f0.f3, .slice s0 x.f0.f4.length c0, .int .i64 x.f1, .int .i64 x.f2, .slice s1 x.f3.length c1] 34)).alloc (.cells #[.int .i64 0, .int .i64 0, .int .i64 0, .int .i64 0, .slice none 0 0, .int .i64 0, .int .i64 0, .slice none 0 0] 34)) w.heap.size #[.int .i64 x.f0.f0, .int .i64 x.f0.f1, .int .i64 x.f0.f2, .int .i64 x.f0.f3, .slice s0 x.f0.f4.length c0, .int .i64 x.f1, .int .i64 x.f2, .slice s1 x.f3.length c1] := (BoxF.new w #[.int .i64 x.f0.f0, .int .i64 x.f0.f1, .int .i64 x.f0.f2, .int .i64 x.f0.f3, .slice s0 x.f0.f4.length c0, .int .i64 x.f1, .int .i64 x.f2, .slice s1 x.f3.length c1] 34 _ rfl).below ((Below.refl _ _).alloc (Nat.le_refl _) _) (by simp)
  have HR0 : BoxF ((w.alloc (.cells #[.int .i64 x.f0.f0, .int .i64 x.f0.f1, .int .i64 x.f0.f2, .int .i64 x.f0.f3, .slice s0 x.f0.f4.length c0, .int .i64 x.f1, .int .i64 x.f2, .slice s1 x.f3.length c1] 34)).alloc (.cells #[.int .i64 0, .int .i64 0, .int .i64 0, .int .i64 0, .slice none 0 0, .int .i64 0, .int .i64 0, .slice none 0 0] 34)) (w.heap.size + 1) #[.int .i64 0, .int .i64 0, .int .i64 0, .int .i64 0, .slice none 0 0, .int .i64 0, .int .i64 0, .slice none 0 0] := BoxF.new _ _ _ _ (by simp)
  have HA0 := Lib.hid HA0; have HR0 := Lib.hid HR0
  by_cases hdv : devB x = true
  case neg =>
    have hs : secC x k = 1 := by unfold secC; rw [if_neg hdv]
    have hc : rpC x k = 1 := by unfold rpC; rw [if_neg (by omega), hs]
    have hv : rpV x k = devZ := by unfold rpV; rw [if_neg (by omega)]
    rw [hc, hv]
    unfold openV at OP
    rw [if_neg hdv, if_neg hdv] at OP
    clear hs hc hv hdv h hL hV
    go_enter Try.func33, Try.ntmps33
    go_wp2_with fail
    refine (OP.out _ (by go_grown)).mono ?_
    rintro e w1 ⟨rfl, hb1⟩
    have R := Lib.hid (HR0.out.below hb1 (by simp))
    have FB := Lib.hid (show Below w.heap.size w w1 from Below.trans (by go_grown) (hb1.mono (by simp <;> omega)))
    clear hb1
    obtain ⟨r0, y0⟩ := R.out 0 _ rfl; obtain ⟨r1, y1⟩ := R.out 1 _ rfl; obtain ⟨r2, y2⟩ := R.out 2 _ rfl; obtain ⟨r3, y3⟩ := R.out 3 _ rfl; obtain ⟨r4, y4⟩ := R.out 4 _ rfl; obtain ⟨r5, y5⟩ := R.out 5 _ rfl; obtain ⟨r6, y6⟩ := R.out 6 _ rfl; obtain ⟨r7, y7⟩ := R.out 7 _ rfl
    go_wp2
    exact bodyPost_ret (v := .tuple #[.agg #[.int .i64 0, .int .i64 0, .int .i64 0, .int .i64 0, .slice none 0 0, .int .i64 0, .int .i64 0, .slice none 0 0], .int .i64 1]) (by simp [results, Try.results33, go_sem, r0, y0, r1, y1, r2, y2, r3, y3, r4, y4, r5, y5, r6, y6, r7, y7]) rfl ⟨none, none, 0, 0, rfl, devZ_own _ _ _, ((((((((FB.out).setCell (by simp <;> omega) _).setCell (by simp <;> omega) _).setCell (by simp <;> omega) _).setCell (by simp <;> omega) _).setCell (by simp <;> omega) _).setCell (by simp <;> omega) _).setCell (by simp <;> omega) _).setCell (by simp <;> omega) _⟩
  unfold openV at OP
  rw [if_pos hdv, if_pos hdv] at OP
  have SM := Lib.hid (fun w' (hb : Below w.heap.size w w') => sectorOfM_any x s0 s1 c0 c1 k hL.2 w' (h.2.below hb (Nat.le_refl _)) hdv)
  by_cases hs : secC x k = 0
  case neg =>
    have hc : rpC x k = secC x k := by unfold rpC; rw [if_neg hs]
    have hv : rpV x k = devZ := by unfold rpV; rw [if_neg hs]
    rw [hc, hv]
    have hsb : (secC x k != 0) = true := by simp [hs]
    clear hc hv hs h hL hV
    by_cases hz : x.f2 = 0
    all_goals
      first | rw [if_pos hz] at OP | rw [if_neg hz] at OP
      clear hz
      go_enter Try.func33, Try.ntmps33
      go_wp2_with fail
      refine (OP.out _ (by go_grown)).mono ?_
      rintro e w1 ⟨rfl, hb1⟩
      have R := Lib.hid (HR0.out.below hb1 (by simp))
      have FB := Lib.hid (show Below w.heap.size w w1 from Below.trans (by go_grown) (hb1.mono (by simp <;> omega)))
      have hz1 : w.heap.size + 1 < w1.heap.size := Nat.lt_of_lt_of_le (by simp) hb1.size
      clear hb1
      go_wp2_with fail
      change Calls Try.prog 127 #[.agg #[.int .i64 x.f0.f0, .int .i64 x.f0.f1, .int .i64 x.f0.f2, .int .i64 x.f0.f3, .slice s0 x.f0.f4.length c0, .int .i64 x.f1, .int .i64 x.f2, .slice s1 x.f3.length c1], .int .i64 k] _ _
      refine (SM.out _ FB.out).mono ?_
      rintro e w2 ⟨rfl, hb2⟩
      replace R := Lib.hid (R.out.below hb2 hz1)
      replace FB := Lib.hid (FB.out.trans (hb2.mono FB.out.size))
      clear hb2
      obtain ⟨r0, y0⟩ := R.out 0 _ rfl; obtain ⟨r1, y1⟩ := R.out 1 _ rfl; obtain ⟨r2, y2⟩ := R.out 2 _ rfl; obtain ⟨r3, y3⟩ := R.out 3 _ rfl; obtain ⟨r4, y4⟩ := R.out 4 _ rfl; obtain ⟨r5, y5⟩ := R.out 5 _ rfl; obtain ⟨r6, y6⟩ := R.out 6 _ rfl; obtain ⟨r7, y7⟩ := R.out 7 _ rfl
      go_wp2
      exact bodyPost_ret (v := .tuple #[.agg #[.int .i64 0, .int .i64 0, .int .i64 0, .int .i64 0, .slice none 0 0, .int .i64 0, .int .i64 0, .slice none 0 0], .int .i64 (secC x k)]) (by simp [results, Try.results33, go_sem, r0, y0, r1, y1, r2, y2, r3, y3, r4, y4, r5, y5, r6, y6, r7, y7]) rfl ⟨none, none, 0, 0, rfl, devZ_own _ _ _, ((((((((FB.out).setCell (by simp <;> omega) _).setCell (by simp <;> omega) _).setCell (by simp <;> omega) _).setCell (by simp <;> omega) _).setCell (by simp <;> omega) _).setCell (by simp <;> omega) _).setCell (by simp <;> omega) _).setCell (by simp <;> omega) _⟩
  cases hf : rpF x with
  | none =>
    have hc : rpC x k = 5 := by unfold rpC; rw [if_pos hs, hf]
    have hv : rpV x k = devZ := by unfold rpV; rw [if_pos hs, hf]
    rw [hc, hv]
    rw [hs] at SM
    have UN := Lib.hid (fun w' (hb : Below w.heap.size w w') => unusedM_any x s0 s1 c0 c1 hdv hL w' (h.below hb (Nat.le_refl _)))
    have UP := Lib.hid (fun w => plainUn_any x s0 s1 c0 c1 w)
    rw [hf, show unV none = 0 from rfl, show unC none = 5 from rfl] at UN
    clear hc hv hs h hL hV hf hdv
    by_cases hz : x.f2 = 0
    · rw [if_pos hz] at OP
      clear hz
      go_enter Try.func33, Try.ntmps33
      go_wp2_with fail
      refine (OP.out _ (by go_grown)).mono ?_
      rintro e w1 ⟨rfl, hb1⟩
      have R := Lib.hid (HR0.out.below hb1 (by simp))
      have FB := Lib.hid (show Below w.heap.size w w1 from Below.trans (by go_grown) (hb1.mono (by simp <;> omega)))
      have hz1 : w.heap.size + 1 < w1.heap.size := Nat.lt_of_lt_of_le (by simp) hb1.size
      clear hb1
      go_wp2_with fail
      change Calls Try.prog 127 #[.agg #[.int .i64 x.f0.f0, .int .i64 x.f0.f1, .int .i64 x.f0.f2, .int .i64 x.f0.f3, .slice s0 x.f0.f4.length c0, .int .i64 x.f1, .int .i64 x.f2, .slice s1 x.f3.length c1], .int .i64 k] _ _
      refine (SM.out _ FB.out).mono ?_
      rintro e w2 ⟨rfl, hb2⟩
      replace R := Lib.hid (R.out.below hb2 hz1)
      replace FB := Lib.hid (FB.out.trans (hb2.mono FB.out.size))
      have hz2 : w.heap.size + 1 < w2.heap.size := Nat.lt_of_lt_of_le hz1 hb2.size
      clear hb2
      go_wp2_with fail
      change Calls Try.prog 128 #[.agg #[.int .i64 x.f0.f0, .int .i64 x.f0.f1, .int .i64 x.f0.f2, .int .i64 x.f0.f3, .slice s0 x.f0.f4.length c0, .int .i64 x.f1, .int .i64 x.f2, .slice s1 x.f3.length c1]] _ _
      refine (UP.out _).mono ?_
      rintro e w3 ⟨rfl, hb3⟩
      replace R := Lib.hid (R.out.below hb3 hz2)
      replace FB := Lib.hid (FB.out.trans (hb3.mono FB.out.size))
      clear hb3
      obtain ⟨r0, y0⟩ := R.out 0 _ rfl; obtain ⟨r1, y1⟩ := R.out 1 _ rfl; obtain ⟨r2, y2⟩ := R.out 2 _ rfl; obtain ⟨r3, y3⟩ := R.out 3 _ rfl; obtain ⟨r4, y4⟩ := R.out 4 _ rfl; obtain ⟨r5, y5⟩ := R.out 5 _ rfl; obtain ⟨r6, y6⟩ := R.out 6 _ rfl; obtain ⟨r7, y7⟩ := R.out 7 _ rfl
      go_wp2
      exact bodyPost_ret (v := .tuple #[.agg #[.int .i64 0, .int .i64 0, .int .i64 0, .int .i64 0, .slice none 0 0, .int .i64 0, .int .i64 0, .slice none 0 0], .int .i64 5]) (by simp [results, Try.results33, go_sem, r0, y0, r1, y1, r2, y2, r3, y3, r4, y4, r5, y5, r6, y6, r7, y7]) rfl ⟨none, none, 0, 0, rfl, devZ_own _ _ _, ((((((((FB.out).setCell (by simp <;> omega) _).setCell (by simp <;> omega) _).setCell (by simp <;> omega) _).setCell (by simp <;> omega) _).setCell (by simp <;> omega) _).setCell (by simp <;> omega) _).setCell (by simp <;> omega) _).setCell (by simp <;> omega) _⟩
    · rw [if_neg hz] at OP
      clear hz
      go_enter Try.func33, Try.ntmps33
      go_wp2_with fail
      refine (OP.out _ (by go_grown)).mono ?_
      rintro e w1 ⟨rfl, hb1⟩
      have R := Lib.hid (HR0.out.below hb1 (by simp))
      have FB := Lib.hid (show Below w.heap.size w w1 from Below.trans (by go_grown) (hb1.mono (by simp <;> omega)))
      have hz1 : w.heap.size + 1 < w1.heap.size := Nat.lt_of_lt_of_le (by simp) hb1.size
      clear hb1
      go_wp2_with fail
      change Calls Try.prog 127 #[.agg #[.int .i64 x.f0.f0, .int .i64 x.f0.f1, .int .i64 x.f0.f2, .int .i64 x.f0.f3, .slice s0 x.f0.f4.length c0, .int .i64 x.f1, .int .i64 x.f2, .slice s1 x.f3.length c1], .int .i64 k] _ _
      refine (SM.out _ FB.out).mono ?_
      rintro e w2 ⟨rfl, hb2⟩
      replace R := Lib.hid (R.out.below hb2 hz1)
      replace FB := Lib.hid (FB.out.trans (hb2.mono FB.out.size))
      have hz2 : w.heap.size + 1 < w2.heap.size := Nat.lt_of_lt_of_le hz1 hb2.size
      clear hb2
      go_wp2_with fail
      change Calls Try.prog 129 #[.agg #[.int .i64 x.f0.f0, .int .i64 x.f0.f1, .int .i64 x.f0.f2, .int .i64 x.f0.f3, .slice s0 x.f0.f4.length c0, .int .i64 x.f1, .int .i64 x.f2, .slice s1 x.f3.length c1]] _ _
      refine (UN.out _ FB.out).mono ?_
      rintro e w3 ⟨rfl, hb3⟩
      replace R := Lib.hid (R.out.below hb3 hz2)
      replace FB := Lib.hid (FB.out.trans (hb3.mono FB.out.size))
      clear hb3
      obtain ⟨r0, y0⟩ := R.out 0 _ rfl; obtain ⟨r1, y1⟩ := R.out 1 _ rfl; obtain ⟨r2, y2⟩ := R.out 2 _ rfl; obtain ⟨r3, y3⟩ := R.out 3 _ rfl; obtain ⟨r4, y4⟩ := R.out 4 _ rfl; obtain ⟨r5, y5⟩ := R.out 5 _ rfl; obtain ⟨r6, y6⟩ := R.out 6 _ rfl; obtain ⟨r7, y7⟩ := R.out 7 _ rfl
      go_wp2
      exact bodyPost_ret (v := .tuple #[.agg #[.int .i64 0, .int .i64 0, .int .i64 0, .int .i64 0, .slice none 0 0, .int .i64 0, .int .i64 0, .slice none 0 0], .int .i64 5]) (by simp [results, Try.results33, go_sem, r0, y0, r1, y1, r2, y2, r3, y3, r4, y4, r5, y5, r6, y6, r7, y7]) rfl ⟨none, none, 0, 0, rfl, devZ_own _ _ _, ((((((((FB.out).setCell (by simp <;> omega) _).setCell (by simp <;> omega) _).setCell (by simp <;> omega) _).setCell (by simp <;> omega) _).setCell (by simp <;> omega) _).setCell (by simp <;> omega) _).setCell (by simp <;> omega) _).setCell (by simp <;> omega) _⟩
  | some z =>
    have hz : ¬ x.f2 = 0 := fun e => by rw [rpF_plain hdv e] at hf; cases hf
    rw [if_neg hz] at OP
    obtain ⟨z2, rfl, hz2l⟩ := rpF_at hdv hf
    obtain ⟨hn0, hn1⟩ := devB_ne hdv
    obtain ⟨j, i, rfl, hx, hv, e, he, hse⟩ := secV_at hs
    obtain ⟨n, hnn1, hnn2, hnn3, hall⟩ := devB_size hdv
    have hc : rpC x (j : Int) = 0 := by unfold rpC; rw [if_pos hs, hf]
    have hw : rpV x (j : Int) = { setS x z2 ⟨contV e, 1⟩ with f3 := x.f3.set j (z2 : Int) } := by unfold rpV; rw [if_pos hs, hf]; simp only [Int.toNat_natCast, hse]
    rw [hc, hw]
    rw [hv, hs] at SM
    have UN := Lib.hid (fun w' (hb : Below w.heap.size w w') => unusedM_any x s0 s1 c0 c1 hdv hL w' (h.below hb (Nat.le_refl _)))
    rw [hf, show unV (some (z2 : Int)) = (z2 : Int) from rfl, show unC (some (z2 : Int)) = 0 from rfl] at UN
    have CL := Lib.hid (fun w' (hb : Below w.heap.size w w') => cloneDev_any x s0 s1 c0 c1 w' hL hn0 hn1 (h.below hb (Nat.le_refl _)))
    have CT := Lib.hid (fun w => contents_any e n w hnn3 (hall e (List.mem_of_getElem? he)).1)
    have WR := Lib.hid (fun w => written_any (contV e) w)
    have HAT := Lib.hid (fun w' (hb : Below w.heap.size w w') => (h.1.below hb (Nat.le_refl _)).at rowSector_len he)
    have hil : i < x.f0.f4.length := (List.getElem?_eq_some_iff.1 he).1
    have ei : (i : Int) < (x.f0.f4.length : Int) := by omega
    have ei2 : (z2 : Int) < (x.f0.f4.length : Int) := by omega
    have hjl : j < x.f3.length := (List.getElem?_eq_some_iff.1 hx).1
    have ej : (j : Int) < (x.f3.length : Int) := by omega
    obtain ⟨e2, he2⟩ : ∃ e2, x.f0.f4[z2]? = some e2 := ⟨x.f0.f4[z2], by simp [hz2l]⟩
    have HE2 := Lib.hid he2
    have HX := Lib.hid hx
    clear hc hw hs hv hx hse he he2 hdv hn0 hn1 h hL hV hf hz hnn1 hnn2 hnn3 hall
    go_enter Try.func33, Try.ntmps33
    go_wp2_with fail
    refine (OP.out _ (by go_grown)).mono ?_
    rintro e_ w1 ⟨rfl, hb1⟩
    have R := Lib.hid (HR0.out.below hb1 (by simp))
    have A := Lib.hid (HA0.out.below hb1 (by simp; omega))
    have FB := Lib.hid (show Below w.heap.size w w1 from Below.trans (by go_grown) (hb1.mono (by simp <;> omega)))
    have hz1 : w.heap.size + 1 < w1.heap.size := Nat.lt_of_lt_of_le (by simp) hb1.size
    clear hb1
    go_wp2_with fail
    change Calls Try.prog 127 #[.agg #[.int .i64 x.f0.f0, .int .i64 x.f0.f1, .int .i64 x.f0.f2, .int .i64 x.f0.f3, .slice s0 x.f0.f4.length c0, .int .i64 x.f1, .int .i64 x.f2, .slice s1 x.f3.length c1], .int .i64 (j : Int)] _ _
    refine (SM.out _ FB.out).mono ?_
    rintro e_ w2 ⟨rfl, hb2⟩
    replace R := Lib.hid (R.out.below hb2 hz1)
    replace A := Lib.hid (A.out.below hb2 (show w.heap.size < _ by omega))
    replace FB := Lib.hid (FB.out.trans (hb2.mono FB.out.size))
    have hz2 : w.heap.size + 1 < w2.heap.size := Nat.lt_of_lt_of_le hz1 hb2.size
    clear hb2
    go_wp2_with fail
    change Calls Try.prog 129 #[.agg #[.int .i64 x.f0.f0, .int .i64 x.f0.f1, .int .i64 x.f0.f2, .int .i64 x.f0.f3, .slice s0 x.f0.f4.length c0, .int .i64 x.f1, .int .i64 x.f2, .slice s1 x.f3.length c1]] _ _
    refine (UN.out _ FB.out).mono ?_
    rintro e_ w3 ⟨rfl, hb3⟩
    replace R := Lib.hid (R.out.below hb3 hz2)
    replace A := Lib.hid (A.out.below hb3 (show w.heap.size < _ by omega))
    replace FB := Lib.hid (FB.out.trans (hb3.mono FB.out.size))
    have hz3 : w.heap.size + 1 < w3.heap.size := Nat.lt_of_lt_of_le hz2 hb3.size
    clear hb3
    obtain ⟨a0, z0⟩ := A.out 0 _ rfl; obtain ⟨a1, z1⟩ := A.out 1 _ rfl; obtain ⟨a2, z2⟩ := A.out 2 _ rfl; obtain ⟨a3, z3⟩ := A.out 3 _ rfl; obtain ⟨a4, z4⟩ := A.out 4 _ rfl; obtain ⟨a5, z5⟩ := A.out 5 _ rfl; obtain ⟨a6, z6⟩ := A.out 6 _ rfl; obtain ⟨a7, z7⟩ := A.out 7 _ rfl
    go_wp2_with fail
    refine (CL.out _ FB.out).mono ?_
    rintro e_ w4 ⟨g0, g1, d0, d1, rfl, ho0, ho1, hb4⟩
    clear a0 z0 a1 z1 a2 z2 a3 z3 a4 z4 a5 z5 a6 z6 a7 z7
    replace R := Lib.hid (R.out.below hb4 hz3)
    replace A := Lib.hid (A.out.below hb4 (show w.heap.size < _ by omega))
    have hz4 : w.heap.size + 1 < w4.heap.size := Nat.lt_of_lt_of_le hz3 hb4.size
    have hg0 : w3.heap.size ≤ g0 := ho0.choose_spec.1
    have hg1 : w3.heap.size ≤ g1 := ho1.choose_spec.1
    have hl0 := ho0.lt
    have hl1 := ho1.lt
    replace FB := Lib.hid (FB.out.trans (hb4.mono FB.out.size))
    have hne : g0 ≠ g1 := by
      intro e
      subst e
      obtain ⟨_, _, h1⟩ := ho0
      obtain ⟨_, _, h2⟩ := ho1
      rw [h1] at h2
      simp at h2
    have HO0 := Lib.hid ho0
    have HO1 := Lib.hid ho1
    clear ho0 ho1 hb4
    go_upto_region 11 with (fail)
    have B := Lib.hid (BoxF.new w4 #[.int .i64 x.f0.f0, .int .i64 x.f0.f1, .int .i64 x.f0.f2, .int .i64 x.f0.f3, .slice (some ⟨g0, 0, none⟩) x.f0.f4.length d0, .int .i64 x.f1, .int .i64 x.f2, .slice (some ⟨g1, 0, none⟩) x.f3.length d1] 34 _ rfl)
    replace R := Lib.hid (R.out.below ((Below.refl w4.heap.size w4).alloc (Nat.le_refl _) (.cells #[.int .i64 x.f0.f0, .int .i64 x.f0.f1, .int .i64 x.f0.f2, .int .i64 x.f0.f3, .slice (some ⟨g0, 0, none⟩) x.f0.f4.length d0, .int .i64 x.f1, .int .i64 x.f2, .slice (some ⟨g1, 0, none⟩) x.f3.length d1] 34)) hz4)
    replace A := Lib.hid (A.out.below ((Below.refl w4.heap.size w4).alloc (Nat.le_refl _) (.cells #[.int .i64 x.f0.f0, .int .i64 x.f0.f1, .int .i64 x.f0.f2, .int .i64 x.f0.f3, .slice (some ⟨g0, 0, none⟩) x.f0.f4.length d0, .int .i64 x.f1, .int .i64 x.f2, .slice (some ⟨g1, 0, none⟩) x.f3.length d1] 34)) (show w.heap.size < _ by omega))
    replace HO0 := Lib.hid (HO0.out.below ((Below.refl w4.heap.size w4).alloc (Nat.le_refl _) (.cells #[.int .i64 x.f0.f0, .int .i64 x.f0.f1, .int .i64 x.f0.f2, .int .i64 x.f0.f3, .slice (some ⟨g0, 0, none⟩) x.f0.f4.length d0, .int .i64 x.f1, .int .i64 x.f2, .slice (some ⟨g1, 0, none⟩) x.f3.length d1] 34)) hl0)
    replace HO1 := Lib.hid (HO1.out.below ((Below.refl w4.heap.size w4).alloc (Nat.le_refl _) (.cells #[.int .i64 x.f0.f0, .int .i64 x.f0.f1, .int .i64 x.f0.f2, .int .i64 x.f0.f3, .slice (some ⟨g0, 0, none⟩) x.f0.f4.length d0, .int .i64 x.f1, .int .i64 x.f2, .slice (some ⟨g1, 0, none⟩) x.f3.length d1] 34)) hl1)
    replace FB := Lib.hid (FB.out.alloc FB.out.size (.cells #[.int .i64 x.f0.f0, .int .i64 x.f0.f1, .int .i64 x.f0.f2, .int .i64 x.f0.f3, .slice (some ⟨g0, 0, none⟩) x.f0.f4.length d0, .int .i64 x.f1, .int .i64 x.f2, .slice (some ⟨g1, 0, none⟩) x.f3.length d1] 34))
    have HS := Lib.hid (show (w4.alloc (.cells #[.int .i64 x.f0.f0, .int .i64 x.f0.f1, .int .i64 x.f0.f2, .int .i64 x.f0.f3, .slice (some ⟨g0, 0, none⟩) x.f0.f4.length d0, .int .i64 x.f1, .int .i64 x.f2, .slice (some ⟨g1, 0, none⟩) x.f3.length d1] 34)).heap.size = w4.heap.size + 1 by simp)
    generalize w4.alloc (.cells #[.int .i64 x.f0.f0, .int .i64 x.f0.f1, .int .i64 x.f0.f2, .int .i64 x.f0.f3, .slice (some ⟨g0, 0, none⟩) x.f0.f4.length d0, .int .i64 x.f1, .int .i64 x.f2, .slice (some ⟨g1, 0, none⟩) x.f3.length d1] 34) = W at *
    have hWs : W.heap.size = w4.heap.size + 1 := HS.out
    have hWH := Lib.hid hWs; clear hWs HS
    have hW1 : w4.heap.size < W.heap.size := by have := hWH.out; omega
    obtain ⟨a4, z4⟩ := A.out 4 _ rfl
    obtain ⟨b, off, hbb, hbl, hcs⟩ := HAT.out _ FB.out
    have u0 : W.cell? ⟨b, off + i * 2, none⟩ = some (.string e.f0) := hcs 0 _ rfl
    have u1 : W.cell? ⟨b, off + i * 2 + 1, none⟩ = some (.int .i64 e.f1) := hcs 1 _ rfl
    have a4' : W.cell? ⟨w.heap.size, 4, none⟩ = some (.slice (some ⟨b, off, none⟩) x.f0.f4.length c0) := by rw [← hbb]; exact a4
    clear a4 z4 hbb hcs
    go_wp2_with fail
    refine (CT.out _).mono ?_
    rintro e_ w5 ⟨rfl, hb5⟩
    clear u0 u1 a4'
    replace R := Lib.hid (R.out.below hb5 (by omega))
    replace B := Lib.hid (B.out.below hb5 hW1)
    replace HO0 := Lib.hid (HO0.out.below hb5 (by omega))
    replace HO1 := Lib.hid (HO1.out.below hb5 (by omega))
    replace FB := Lib.hid (FB.out.trans (hb5.mono FB.out.size))
    have hz5 : W.heap.size ≤ w5.heap.size := hb5.size
    clear hb5 A
    go_upto_region 12 with (fail)
    have hlt : w4.heap.size < w5.heap.size := by omega
    have hltR : w.heap.size + 1 < w5.heap.size := by omega
    have hltG : g0 < w5.heap.size := by omega
    have hltH : g1 < w5.heap.size := by omega
    have BX := B.out.box
    obtain ⟨u0, u1⟩ := HO0.out.cell HE2.out
    have KS := Lib.hid (fun w' (hb : Below w5.heap.size w5 w') => (show w'.cell? ⟨w4.heap.size, 4, none⟩ = some (.slice (some ⟨g0, 0, none⟩) x.f0.f4.length d0) from (BX.below hb hlt) 4 _ rfl))
    have HC := Lib.hid (show Below w5.heap.size w5 w5.drew from (Below.refl _ _).drew)
    refine wp_region_held_drew (S := (fun w' => w'.cell? ⟨w4.heap.size, 4, none⟩ = some (.slice (some ⟨g0, 0, none⟩) x.f0.f4.length d0))) (by kernel_rfl) (KS.out _ HC.out) (fun hHeld => ?_)
    refine wpAnyH_take (i := 0) (oi := { dst := some 53, op := Op.fieldAddr 34 (Operand.tmp 10) 0, type := 0, pos := "l15_blocks.go:225", after := #[], guard := none }) (v := ?_) rfl (by kernel_rfl) (by kernel_rfl) (by kernel_rfl) (fun _ _ _ h => h) (Or.inl ⟨by rfl, ?hy⟩) hHeld ?_
    case hy => (intro w' hSw; (try dsimp only at hSw); go_simp; try with_reducible rfl)
    simp only [Act.put, List.setIfInBounds_toArray, List.set_cons_zero, List.set_cons_succ]
    refine wpAnyH_take (i := 1) (oi := { dst := some 54, op := Op.fieldAddr 32 (Operand.tmp 53) 4, type := 0, pos := "l15_blocks.go:225", after := #[{ on := 0, ground := Ground.data }], guard := none }) (v := ?_) rfl (by kernel_rfl) (by kernel_rfl) (by kernel_rfl) (fun _ _ _ h => h) (Or.inl ⟨by rfl, ?hy⟩) hHeld ?_
    case hy => (intro w' hSw; (try dsimp only at hSw); go_simp; try with_reducible rfl)
    simp only [Act.put, List.setIfInBounds_toArray, List.set_cons_zero, List.set_cons_succ]
    refine wpAnyH_take (i := 2) (oi := { dst := some 55, op := Op.load 30 (Operand.tmp 54), type := 30, pos := "l15_blocks.go:225", after := #[{ on := 1, ground := Ground.data }], guard := none }) (v := ?_) rfl (by kernel_rfl) (by kernel_rfl) (by kernel_rfl) (fun _ _ _ h => h) (Or.inl ⟨by rfl, ?hy⟩) hHeld ?_
    case hy => (intro w' hSw; (try dsimp only at hSw); go_simp; try with_reducible rfl)
    simp only [Act.put, List.setIfInBounds_toArray, List.set_cons_zero, List.set_cons_succ]
    refine wpAnyH_take (i := 3) (oi := { dst := some 56, op := Op.move (Operand.tmp 9), type := 2, pos := "l15_blocks.go:225", after := #[], guard := none }) (v := ?_) rfl (by kernel_rfl) (by kernel_rfl) (by kernel_rfl) (fun _ _ _ h => h) (Or.inl ⟨by rfl, ?hy⟩) hHeld ?_
    case hy => (intro w' hSw; (try dsimp only at hSw); go_simp; try with_reducible rfl)
    simp only [Act.put, List.setIfInBounds_toArray, List.set_cons_zero, List.set_cons_succ]
    refine wpAnyH_take (i := 4) (oi := { dst := some 57, op := Op.move (Operand.tmp 11), type := 9, pos := "l15_blocks.go:225", after := #[], guard := none }) (v := ?_) rfl (by kernel_rfl) (by kernel_rfl) (by kernel_rfl) (fun _ _ _ h => h) (Or.inl ⟨by rfl, ?hy⟩) hHeld ?_
    case hy => (intro w' hSw; (try dsimp only at hSw); go_simp; try with_reducible rfl)
    simp only [Act.put, List.setIfInBounds_toArray, List.set_cons_zero, List.set_cons_succ]
    refine wpAnyH_ready (rs := [5]) (by kernel_rfl) (by simp) ?_
    refine AllReadyH.cons (o := { dst := some 58, op := Op.call { callee := Callee.value (Operand.func 61), args := #[Operand.tmp 57], argTypes := #[9] }, type := 84, pos := "l15_blocks.go:225", after := #[{ on := 4, ground := Ground.data }], guard := none }) rfl (fun K hK => ?_) AllReadyH.nil
    go_simp
    go_at_call 61; refine (WR.out _).mono ?_; rintro e wk1 ⟨rfl, hb1⟩; replace HC := Lib.hid (HC.out.trans (hb1.mono HC.out.size))
    go_wp2_with fail
    refine hK.out _ _ (KS.out _ HC.out) (fun hHeld => ?_)
    clear hK K
    try simp only [Act.put, List.setIfInBounds_toArray, List.set_cons_zero, List.set_cons_succ]
    refine wpAnyH_take (i := 6) (oi := { dst := some 59, op := Op.indexAddr 30 (Operand.tmp 55) (Operand.tmp 56), type := 0, pos := "l15_blocks.go:225", after := #[{ on := 2, ground := Ground.data }, { on := 3, ground := Ground.data }, { on := 0, ground := Ground.phase }, { on := 1, ground := Ground.phase }, { on := 2, ground := Ground.phase }, { on := 3, ground := Ground.phase }, { on := 4, ground := Ground.phase }, { on := 5, ground := Ground.phase }], guard := none }) (v := ?_) rfl (by kernel_rfl) (by kernel_rfl) (by kernel_rfl) (fun _ _ _ h => h) (Or.inl ⟨by rfl, ?hy⟩) hHeld ?_
    case hy => (intro w' hSw; (try dsimp only at hSw); go_simp; try with_reducible rfl)
    simp only [Act.put, List.setIfInBounds_toArray, List.set_cons_zero, List.set_cons_succ]
    refine wpAnyH_ready (rs := [7]) (by kernel_rfl) (by simp) ?_
    refine AllReadyH.cons (o := { dst := none, op := Op.store 84 (Operand.tmp 59) (Operand.tmp 58), type := 0, pos := "l15_blocks.go:225", after := #[{ on := 6, ground := Ground.data }, { on := 5, ground := Ground.data }, { on := 5, ground := Ground.chain }, { on := 0, ground := Ground.phase }, { on := 1, ground := Ground.phase }, { on := 2, ground := Ground.phase }, { on := 3, ground := Ground.phase }, { on := 4, ground := Ground.phase }, { on := 5, ground := Ground.phase }], guard := none }) rfl (fun K hK => ?_) AllReadyH.nil
    have KO := Lib.hid (show OwnBlk _ w3.heap.size g0 x.f0.f4 from HO0.out.below HC.out hltG)
    obtain ⟨v0, v1⟩ := KO.out.cell HE2.out
    have v2 := KO.out.free (z2 * 2)
    have v3 := KO.out.free (z2 * 2 + 1)
    go_simp
    refine hK.out _ _ (by have hn : g0 ≠ w4.heap.size := (by omega); rw [World.cell?_setCell_other (h := addr_ne hn), World.cell?_setCell_other (h := addr_ne hn)]; exact KS.out _ HC.out) (fun hHeld => ?_)
    clear hK K
    try simp only [Act.put, List.setIfInBounds_toArray, List.set_cons_zero, List.set_cons_succ]
    refine wpAnyH_done (by kernel_rfl) ?_ _
    replace FB := Lib.hid (FB.out.trans (HC.out.mono FB.out.size))
    have HP := Lib.hid (HO1.out.below HC.out hltH)
    replace R := Lib.hid (R.out.below HC.out hltR)
    replace B := Lib.hid (B.out.below HC.out hlt)
    have hzk := HC.out.size
    have PUT := KO.out.put z2 ⟨contV e, 1⟩ hz2l
    dsimp only at PUT
    replace R := Lib.hid (R.out.keep (put_other wk1 g0 (z2 * 2) (z2 * 2 + 1) (.string (contV e)) (.int .i64 1) _ (by omega)))
    replace B := Lib.hid (B.out.keep (put_other wk1 g0 (z2 * 2) (z2 * 2 + 1) (.string (contV e)) (.int .i64 1) _ (by omega)))
    replace HP := Lib.hid (HP.out.keep (put_other wk1 g0 (z2 * 2) (z2 * 2 + 1) (.string (contV e)) (.int .i64 1) _ (fun e => hne e.symm)))
    replace FB := Lib.hid ((FB.out.setCell (p := ⟨g0, z2 * 2, none⟩) (show w.heap.size ≤ g0 by omega) (.string (contV e))).setCell (p := ⟨g0, z2 * 2 + 1, none⟩) (show w.heap.size ≤ g0 by omega) (.int .i64 1))
    have hz5' : wk1.heap.size = ((wk1.setCell ⟨g0, z2 * 2, none⟩ (.string (contV e))).setCell ⟨g0, z2 * 2 + 1, none⟩ (.int .i64 1)).heap.size := by simp [World.setCell]
    clear v0 v1 v2 v3 KO HO0 HO1 HE2 hHeld HC KS u0 u1 BX
    generalize (wk1.setCell ⟨g0, z2 * 2, none⟩ (.string (contV e))).setCell ⟨g0, z2 * 2 + 1, none⟩ (.int .i64 1) = W2 at *
    have PUT := Lib.hid PUT
    obtain ⟨b7, q7⟩ := B.out 7 _ rfl
    have m0 := HP.out.cell HX.out
    have m1 := HP.out.free j
    go_upto_region 14 with (fail)
    have hB3 : BoxF (W2.setCell ⟨g1, j, none⟩ (.int .i64 (z2 : Int))) w4.heap.size #[.int .i64 x.f0.f0, .int .i64 x.f0.f1, .int .i64 x.f0.f2, .int .i64 x.f0.f3, .slice (some ⟨g0, 0, none⟩) x.f0.f4.length d0, .int .i64 x.f1, .int .i64 x.f2, .slice (some ⟨g1, 0, none⟩) x.f3.length d1] := B.out.keep (Below.heap_setCell _ _ _ _ (by simp; omega))
    have hR3 : BoxF (W2.setCell ⟨g1, j, none⟩ (.int .i64 (z2 : Int))) (w.heap.size + 1) #[.int .i64 0, .int .i64 0, .int .i64 0, .int .i64 0, .slice none 0 0, .int .i64 0, .int .i64 0, .slice none 0 0] := R.out.keep (Below.heap_setCell _ _ _ _ (by simp; omega))
    have hP3 := PUT.out.keep (w' := W2.setCell ⟨g1, j, none⟩ (.int .i64 (z2 : Int))) (Below.heap_setCell _ _ _ _ (by simp; omega))
    have hQ3 := HP.out.put j (z2 : Int) hjl
    replace FB := Lib.hid (FB.out.setCell (p := ⟨g1, j, none⟩) (show w.heap.size ≤ g1 by omega) (.int .i64 (z2 : Int)))
    have hz6 : (W2.setCell ⟨g1, j, none⟩ (.int .i64 (z2 : Int))).heap.size = W2.heap.size := by simp [World.setCell]
    clear b7 q7 m0 m1
    replace B := Lib.hid hB3; replace R := Lib.hid hR3; replace PUT := Lib.hid hP3; replace HP := Lib.hid hQ3
    have HZ6 := Lib.hid hz6
    clear hB3 hR3 hP3 hQ3 hz6
    generalize W2.setCell ⟨g1, j, none⟩ (.int .i64 (z2 : Int)) = W3 at *
    obtain ⟨b0, q0⟩ := B.out 0 _ rfl; obtain ⟨b1, q1⟩ := B.out 1 _ rfl; obtain ⟨b2, q2⟩ := B.out 2 _ rfl; obtain ⟨b3, q3⟩ := B.out 3 _ rfl; obtain ⟨b4, q4⟩ := B.out 4 _ rfl; obtain ⟨b5, q5⟩ := B.out 5 _ rfl; obtain ⟨b6, q6⟩ := B.out 6 _ rfl; obtain ⟨b7, q7⟩ := B.out 7 _ rfl
    obtain ⟨r0, y0⟩ := R.out 0 _ rfl; obtain ⟨r1, y1⟩ := R.out 1 _ rfl; obtain ⟨r2, y2⟩ := R.out 2 _ rfl; obtain ⟨r3, y3⟩ := R.out 3 _ rfl; obtain ⟨r4, y4⟩ := R.out 4 _ rfl; obtain ⟨r5, y5⟩ := R.out 5 _ rfl; obtain ⟨r6, y6⟩ := R.out 6 _ rfl; obtain ⟨r7, y7⟩ := R.out 7 _ rfl
    go_wp2
    refine bodyPost_ret (v := .tuple #[.agg #[.int .i64 x.f0.f0, .int .i64 x.f0.f1, .int .i64 x.f0.f2, .int .i64 x.f0.f3, .slice (some ⟨g0, 0, none⟩) x.f0.f4.length d0, .int .i64 x.f1, .int .i64 x.f2, .slice (some ⟨g1, 0, none⟩) x.f3.length d1], .int .i64 0]) (by simp [results, Try.results33, go_sem, r0, y0, r1, y1, r2, y2, r3, y3, r4, y4, r5, y5, r6, y6, r7, y7]) rfl ⟨some ⟨g0, 0, none⟩, some ⟨g1, 0, none⟩, d0, d1, by simp [setS], ⟨?_, ?_⟩, ((((((((FB.out).setCell (by simp <;> omega) _).setCell (by simp <;> omega) _).setCell (by simp <;> omega) _).setCell (by simp <;> omega) _).setCell (by simp <;> omega) _).setCell (by simp <;> omega) _).setCell (by simp <;> omega) _).setCell (by simp <;> omega) _⟩
    · refine SlSI.mono (OwnBlk.sli (g := g0) (B := w3.heap.size) (PUT.out.keep ?_)) (by have := FB.out.size; omega) (Nat.le_refl _)
      simp only [World.setCell, Array.getElem?_modify]
      rw [if_neg (by omega), if_neg (by omega), if_neg (by omega), if_neg (by omega), if_neg (by omega), if_neg (by omega), if_neg (by omega), if_neg (by omega)]
    · refine SlI.mono (OwnBlkI.sli (g := g1) (B := w3.heap.size) (HP.out.keep ?_)) (by have := FB.out.size; omega) (Nat.le_refl _)
      simp only [World.setCell, Array.getElem?_modify]
      rw [if_neg (by omega), if_neg (by omega), if_neg (by omega), if_neg (by omega), if_neg (by omega), if_neg (by omega), if_neg (by omega), if_neg (by omega)]
end Go.Proofs.Ytjnabncfkogigaa
