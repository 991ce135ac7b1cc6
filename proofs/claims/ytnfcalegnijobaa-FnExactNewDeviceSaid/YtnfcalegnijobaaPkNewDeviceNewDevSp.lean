/- spec.NewDevice -/
import Derived.Test.YtnfcalegnijobaaPkNewDeviceNewDevIm
import Derived.Test.YtnfcalegnijobaaPkNewDeviceOrdSp
import Derived.Test.YtnfcalegnijobaaPkNewDeviceDiscSpecOk
namespace Go.Proofs.Ytnfcalegnijobaa
open Go.RowKit
set_option linter.unusedVariables false
set_option linter.unusedSimpArgs false
set_option maxRecDepth 20000
set_option maxHeartbeats 8000000 in
theorem specNewDevice_any (x : DiscV) (a : Option Addr) (c : Nat) (sk sp : Int) (hm : x.f4.length ≤ 1048576) (hs : ∀ e ∈ x.f4, e.f0.size ≤ 1048576) (w : World) (h : SlS rowSector w a x.f4) :
    Calls Try.prog 66 #[.agg #[.int .i64 x.f0, .int .i64 x.f1, .int .i64 x.f2, .int .i64 x.f3, .slice a x.f4.length c], .int .i64 sk, .int .i64 sp] w (DevRes (ndV x sk sp) (ndC x sk sp) w) := by
  have hsx : ∀ e ∈ x.f4, e.f0.size ≤ maxLen := fun e he => by have := hs e he; unfold maxLen; omega
  have HA0 : BoxF ((w.alloc (.cells #[.int .i64 x.f0, .int .i64 x.f1, .int .i64 x.f2, .int .i64 x.f3, .slice a x.f4.length c] 30)).alloc (.cells #[.int .i64 0, .int .i64 0, .int .i64 0, .int .i64 0, .slice none 0 0, .int .i64 0, .int .i64 0, .slice none 0 0] 106)) w.heap.size #[.int .i64 x.f0, .int .i64 x.f1, .int .i64 x.f2, .int .i64 x.f3, .slice a x.f4.length c] := (BoxF.new w #[.int .i64 x.f0, .int .i64 x.f1, .int .i64 x.f2, .int .i64 x.f3, .slice a x.f4.length c] 30 _ rfl).below ((Below.refl _ _).alloc (Nat.le_refl _) _) (by simp)
  have HR0 : BoxF ((w.alloc (.cells #[.int .i64 x.f0, .int .i64 x.f1, .int .i64 x.f2, .int .i64 x.f3, .slice a x.f4.length c] 30)).alloc (.cells #[.int .i64 0, .int .i64 0, .int .i64 0, .int .i64 0, .slice none 0 0, .int .i64 0, .int .i64 0, .slice none 0 0] 106)) (w.heap.size + 1) #[.int .i64 0, .int .i64 0, .int .i64 0, .int .i64 0, .slice none 0 0, .int .i64 0, .int .i64 0, .slice none 0 0] := BoxF.new _ _ _ _ (by simp)
  have OK := Lib.hid (fun w' p (hb : Below w.heap.size w w') hp => l12Ok_any x a c p w' hm hsx hp (h.below hb (Nat.le_refl _)))
  replace HA0 := Lib.hid HA0; replace HR0 := Lib.hid HR0
  by_cases hdv : discB x = true
  case neg =>
    have hc : ndC x sk sp = 1 := by unfold ndC; rw [if_neg hdv]
    have hv : ndV x sk sp = devZ := by unfold ndV; rw [hc]; rfl
    rw [hc, hv]
    have hd0 : discB x = false := by simpa using hdv
    rw [hd0] at OK
    clear hc hv hd0 hdv h hs hsx
    go_enter Try.func66, Try.ntmps66
    go_wp2_with fail
    refine (OK.out _ _ (by go_grown) HA0.out.box).mono ?_
    rintro e w1 ⟨rfl, hb1⟩
    have R := Lib.hid (HR0.out.below hb1 (by simp))
    have FB := Lib.hid (show Below w.heap.size w w1 from Below.trans (by go_grown) (hb1.mono (by simp <;> omega)))
    clear hb1 HR0
    obtain ⟨r0, y0⟩ := R.out 0 _ rfl; obtain ⟨r1, y1⟩ := R.out 1 _ rfl; obtain ⟨r2, y2⟩ := R.out 2 _ rfl; obtain ⟨r3, y3⟩ := R.out 3 _ rfl; obtain ⟨r4, y4⟩ := R.out 4 _ rfl; obtain ⟨r5, y5⟩ := R.out 5 _ rfl; obtain ⟨r6, y6⟩ := R.out 6 _ rfl; obtain ⟨r7, y7⟩ := R.out 7 _ rfl
    go_wp2
    exact bodyPost_ret (v := .tuple #[.agg #[.int .i64 0, .int .i64 0, .int .i64 0, .int .i64 0, .slice none 0 0, .int .i64 0, .int .i64 0, .slice none 0 0], .int .i64 1]) (by simp [results, Try.results66, go_sem, r0, y0, r1, y1, r2, y2, r3, y3, r4, y4, r5, y5, r6, y6, r7, y7]) rfl ⟨none, none, 0, 0, rfl, devZ_own _ _ _, ((((((((FB.out).setCell (by simp <;> omega) _).setCell (by simp <;> omega) _).setCell (by simp <;> omega) _).setCell (by simp <;> omega) _).setCell (by simp <;> omega) _).setCell (by simp <;> omega) _).setCell (by simp <;> omega) _).setCell (by simp <;> omega) _⟩
  rw [hdv] at OK
  obtain ⟨f0, f1, f2, f3, es⟩ := x
  obtain ⟨T, C, rfl, hT, hN, hN1, hN8, hg⟩ := disc_nums hdv
  dsimp only at hm hs hsx h OK HA0 HR0 ⊢
  have I1 := Lib.hid (fun w => l00In_any sk 0 7 w)
  have I2 := Lib.hid (fun w => l00In_any sp 0 ((es.length : Int) - 1) w)
  have hwr : IntKind.i64.wrap ((es.length : Int) - 1) = (es.length : Int) - 1 := wrap_small _ (by omega) (by omega)
  have hw64 : wrap64 ((es.length : Int) - 1) = (es.length : Int) - 1 := wrap64_le (by omega) (by omega)
  obtain ⟨q1, hq1⟩ : ∃ q, inB 0 7 sk = q := ⟨_, rfl⟩
  obtain ⟨q2, hq2⟩ : ∃ q, inB 0 ((es.length : Int) - 1) sp = q := ⟨_, rfl⟩
  rw [hq1] at I1
  rw [hq2] at I2
  by_cases hqq : (q1 && q2) = true
  case neg =>
    have hc : ndC ⟨f0, f1, (C : Int), f3, es⟩ sk sp = 2 := by unfold ndC; rw [if_pos hdv, hq1, hq2, if_neg hqq]
    have hv : ndV ⟨f0, f1, (C : Int), f3, es⟩ sk sp = devZ := by unfold ndV; rw [hc]; rfl
    rw [hc, hv]
    have hqn : q1 = false ∨ (q1 = true ∧ q2 = false) := by cases q1 <;> cases q2 <;> simp_all
    clear hc hv hdv h hs hsx hT hN hg hq1 hq2 hqq
    rcases hqn with rfl | ⟨rfl, rfl⟩
    all_goals
      go_enter Try.func66, Try.ntmps66
      go_wp2_with fail
      refine (OK.out _ _ (by go_grown) HA0.out.box).mono ?_
      rintro e w1 ⟨rfl, hb1⟩
      have R := Lib.hid (HR0.out.below hb1 (by simp))
      have A := Lib.hid (HA0.out.below hb1 (by simp; omega))
      have FB := Lib.hid (show Below w.heap.size w w1 from Below.trans (by go_grown) (hb1.mono (by simp <;> omega)))
      clear hb1 HR0 HA0
      obtain ⟨a4, z4⟩ := A.out 4 _ rfl
      obtain ⟨r0, y0⟩ := R.out 0 _ rfl; obtain ⟨r1, y1⟩ := R.out 1 _ rfl; obtain ⟨r2, y2⟩ := R.out 2 _ rfl; obtain ⟨r3, y3⟩ := R.out 3 _ rfl; obtain ⟨r4, y4⟩ := R.out 4 _ rfl; obtain ⟨r5, y5⟩ := R.out 5 _ rfl; obtain ⟨r6, y6⟩ := R.out 6 _ rfl; obtain ⟨r7, y7⟩ := R.out 7 _ rfl
      go_wp2_with (go_at_call 87; first | ((with_reducible refine (I1.out _).mono ?_); rintro e w2 ⟨rfl, rfl⟩) | ((with_reducible refine (I2.out _).mono ?_); rintro e w2 ⟨rfl, rfl⟩))
      exact bodyPost_ret (v := .tuple #[.agg #[.int .i64 0, .int .i64 0, .int .i64 0, .int .i64 0, .slice none 0 0, .int .i64 0, .int .i64 0, .slice none 0 0], .int .i64 2]) (by simp [results, Try.results66, go_sem, r0, y0, r1, y1, r2, y2, r3, y3, r4, y4, r5, y5, r6, y6, r7, y7]) rfl ⟨none, none, 0, 0, rfl, devZ_own _ _ _, ((((((((FB.out).setCell (by simp <;> omega) _).setCell (by simp <;> omega) _).setCell (by simp <;> omega) _).setCell (by simp <;> omega) _).setCell (by simp <;> omega) _).setCell (by simp <;> omega) _).setCell (by simp <;> omega) _).setCell (by simp <;> omega) _⟩
  case pos =>
    have hq3 := hqq
    rw [Bool.and_eq_true] at hq3
    obtain ⟨rfl, rfl⟩ := hq3
    obtain ⟨s0, s1⟩ := inB_iff.1 hq1
    obtain ⟨t0, t1⟩ := inB_iff.1 hq2
    obtain ⟨S, rfl⟩ : ∃ S : Nat, sk = (S : Int) := ⟨sk.toNat, by omega⟩
    obtain ⟨P, rfl⟩ : ∃ P : Nat, sp = (P : Int) := ⟨sp.toNat, by omega⟩
    obtain ⟨m, hmm⟩ : ∃ m, es.length - P = m := ⟨_, rfl⟩
    have hm1 : 1 ≤ m := by omega
    have hmN : m ≤ es.length := by omega
    have hc : ndC ⟨f0, f1, (C : Int), f3, es⟩ (S : Int) (P : Int) = 0 := by unfold ndC; rw [if_pos hdv, hq1, hq2]; rfl
    have hv : ndV ⟨f0, f1, (C : Int), f3, es⟩ (S : Int) (P : Int) = ⟨⟨f0, f1, (C : Int), f3, es⟩, S, P, ordL C S m⟩ := by unfold ndV; rw [if_pos hc]; simp only [Int.toNat_natCast, hmm]
    rw [hc, hv]
    have hne : es ≠ [] := fun e => by rw [e] at hN1; simp at hN1
    have OW := Lib.hid (fun w' p (hb : Below w.heap.size w w') hp => l12Own_any ⟨f0, f1, (C : Int), f3, es⟩ a c p w' hm hne hp (h.below hb (Nat.le_refl _)))
    have OR := Lib.hid (fun w' p v hp => l15Order_any f0 f1 f3 T C S es.length p v hg hT hN (by omega) hN1 w' hp)
    have hsub : IntKind.i64.wrap ((es.length : Int) - (P : Int)) = (m : Int) := by rw [show (es.length : Int) - (P : Int) = (m : Int) by omega]; exact wrap_small _ (by omega) (by omega)
    have hsub2 : wrap64 ((es.length : Int) - (P : Int)) = (m : Int) := by rw [show (es.length : Int) - (P : Int) = (m : Int) by omega]; exact wrap64_le (by omega) (by omega)
    obtain ⟨l2, hl2⟩ := ordL_split C S es.length m hmN
    have HL2 := Lib.hid hl2
    have HOL := Lib.hid (ordL_len C S es.length)
    clear hc hv hdv h hs hsx hT hN hg hq1 hq2 hqq hne hl2 s0 s1 t0 t1
    go_enter Try.func66, Try.ntmps66
    go_wp2_with fail
    refine (OK.out _ _ (by go_grown) HA0.out.box).mono ?_
    rintro e w1 ⟨rfl, hb1⟩
    have R := Lib.hid (HR0.out.below hb1 (by simp))
    have A := Lib.hid (HA0.out.below hb1 (by simp; omega))
    have FB := Lib.hid (show Below w.heap.size w w1 from Below.trans (by go_grown) (hb1.mono (by simp <;> omega)))
    have hz1 : w.heap.size + 1 < w1.heap.size := Nat.lt_of_lt_of_le (by simp) hb1.size
    clear hb1 HR0 HA0
    obtain ⟨a4, z4⟩ := A.out 4 _ rfl
    go_wp2_with (first | (go_at_call 87; first | ((with_reducible refine (I1.out _).mono ?_); rintro e w2 ⟨rfl, rfl⟩) | ((with_reducible refine (I2.out _).mono ?_); rintro e w2 ⟨rfl, rfl⟩)) | (go_at_call 88; refine (OW.out _ _ FB.out A.out.box).mono ?_; rintro e w3 ⟨g0, d0, rfl, ho0, hb3⟩))
    have hg0 : w1.heap.size ≤ g0 := ho0.choose_spec.1
    have hl0 := ho0.lt
    have HO0 := Lib.hid ho0; clear ho0
    have A3 := Lib.hid (A.out.below hb3 (by omega))
    replace R := Lib.hid (R.out.below hb3 hz1)
    replace FB := Lib.hid (FB.out.trans (hb3.mono FB.out.size))
    have hz3 : w.heap.size + 1 < w3.heap.size := Nat.lt_of_lt_of_le hz1 hb3.size
    clear hb3 a4 z4 A
    go_wp2_with fail
    refine (OR.out _ _ _ A3.out.box).mono ?_
    rintro e w4 ⟨g, cap, rfl, hcp, hcx, hog, hb4⟩
    have hgg : w3.heap.size ≤ g := hog.choose_spec.1
    rw [HOL.out] at hcp
    rw [HOL.out]
    have hmc : m ≤ cap := Nat.le_trans hmN hcp
    replace R := Lib.hid (R.out.below hb4 hz3)
    replace HO0 := Lib.hid (HO0.out.below hb4 hl0)
    replace FB := Lib.hid (FB.out.trans (hb4.mono FB.out.size))
    rw [HL2.out] at hog
    have HOG := Lib.hid (OwnBlkI.prefix hog)
    clear hb4 hog A3
    obtain ⟨r0, y0⟩ := R.out 0 _ rfl; obtain ⟨r1, y1⟩ := R.out 1 _ rfl; obtain ⟨r2, y2⟩ := R.out 2 _ rfl; obtain ⟨r3, y3⟩ := R.out 3 _ rfl; obtain ⟨r4, y4⟩ := R.out 4 _ rfl; obtain ⟨r5, y5⟩ := R.out 5 _ rfl; obtain ⟨r6, y6⟩ := R.out 6 _ rfl; obtain ⟨r7, y7⟩ := R.out 7 _ rfl
    go_wp2
    refine bodyPost_ret (v := .tuple #[.agg #[.int .i64 f0, .int .i64 f1, .int .i64 (C : Int), .int .i64 f3, .slice (some ⟨g0, 0, none⟩) es.length d0, .int .i64 (S : Int), .int .i64 (P : Int), .slice (some ⟨g, 0, none⟩) m cap], .int .i64 0]) (by simp [results, Try.results66, go_sem, r0, y0, r1, y1, r2, y2, r3, y3, r4, y4, r5, y5, r6, y6, r7, y7]) rfl ⟨some ⟨g0, 0, none⟩, some ⟨g, 0, none⟩, d0, cap, by simp [ordL_len], ⟨?_, ?_⟩, ((((((((FB.out).setCell (by simp <;> omega) _).setCell (by simp <;> omega) _).setCell (by simp <;> omega) _).setCell (by simp <;> omega) _).setCell (by simp <;> omega) _).setCell (by simp <;> omega) _).setCell (by simp <;> omega) _).setCell (by simp <;> omega) _⟩
    · refine SlSI.mono (OwnBlk.sli (g := g0) (B := w1.heap.size) (HO0.out.keep ?_)) (by have := FB.out.size; omega) (Nat.le_refl _)
      simp only [World.setCell, Array.getElem?_modify]
      rw [if_neg (by omega), if_neg (by omega), if_neg (by omega), if_neg (by omega), if_neg (by omega), if_neg (by omega), if_neg (by omega), if_neg (by omega)]
    · refine SlI.mono (OwnBlkI.sli (g := g) (B := w3.heap.size) (HOG.out.keep ?_)) (by have := FB.out.size; omega) (Nat.le_refl _)
      simp only [World.setCell, Array.getElem?_modify]
      rw [if_neg (by omega), if_neg (by omega), if_neg (by omega), if_neg (by omega), if_neg (by omega), if_neg (by omega), if_neg (by omega), if_neg (by omega)]
end Go.Proofs.Ytnfcalegnijobaa
