/- spec.FillTrack -/
import Derived.Test.YtnfcalegnijobaaFillSp
namespace Go.Proofs.Ytnfcalegnijobaa
open Go.RowKit
set_option linter.unusedVariables false
set_option linter.unusedSimpArgs false
set_option maxRecDepth 20000
set_option maxHeartbeats 8000000 in
theorem specFillTrack_any (x : DiscV) (a : Option Addr) (c : Nat) (t : Int) (s2 : Option Addr) (c2 : Nat) (l : List FoundV) (hm : x.f4.length ≤ 1048576) (hs : ∀ e ∈ x.f4, e.f0.size ≤ 1048576) (hm2 : l.length ≤ 1048576) (hs2 : ∀ e ∈ l, e.f4.size ≤ 1048576) (w : World) (h : SlS rowSector w a x.f4) (h2 : SlS rowFound w s2 l) :
    Calls Try.prog 17 #[.agg #[.int .i64 x.f0, .int .i64 x.f1, .int .i64 x.f2, .int .i64 x.f3, .slice a x.f4.length c], .int .i64 t, .slice s2 l.length c2] w (DiscRes (filV x t l) (filC x t l) w) := by
  have hsx : ∀ e ∈ x.f4, e.f0.size ≤ maxLen := fun e he => by have := hs e he; unfold maxLen; omega
  have hsl : ∀ e ∈ l, e.f4.size ≤ maxLen := fun e he => by have := hs2 e he; unfold maxLen; omega
  have OK := Lib.hid (fun w' p (hb : Below w.heap.size w w') hp => l12Ok_any x a c p w' hm hsx hp (h.below hb (Nat.le_refl _)))
  have HA0 : BoxF ((w.alloc (.cells #[.int .i64 x.f0, .int .i64 x.f1, .int .i64 x.f2, .int .i64 x.f3, .slice a x.f4.length c] 30)).alloc (.cells #[.int .i64 0, .int .i64 0, .int .i64 0, .int .i64 0, .slice none 0 0] 30)) w.heap.size #[.int .i64 x.f0, .int .i64 x.f1, .int .i64 x.f2, .int .i64 x.f3, .slice a x.f4.length c] := (BoxF.new w #[.int .i64 x.f0, .int .i64 x.f1, .int .i64 x.f2, .int .i64 x.f3, .slice a x.f4.length c] 30 _ rfl).below ((Below.refl _ _).alloc (Nat.le_refl _) _) (by simp)
  have HR0 : BoxF ((w.alloc (.cells #[.int .i64 x.f0, .int .i64 x.f1, .int .i64 x.f2, .int .i64 x.f3, .slice a x.f4.length c] 30)).alloc (.cells #[.int .i64 0, .int .i64 0, .int .i64 0, .int .i64 0, .slice none 0 0] 30)) (w.heap.size + 1) #[.int .i64 0, .int .i64 0, .int .i64 0, .int .i64 0, .slice none 0 0] := BoxF.new _ _ _ _ (by simp)
  replace HA0 := Lib.hid HA0
  replace HR0 := Lib.hid HR0
  by_cases hdv : discB x = true
  case neg =>
    have hc : filC x t l = 1 := by unfold filC trkC; rw [if_neg hdv]; simp
    have hv : filV x t l = noDisc := by unfold filV; rw [hc]; rfl
    rw [hc, hv]
    have hd0 : discB x = false := by simpa using hdv
    rw [hd0] at OK
    clear hc hv hd0 hdv h h2 hs hs2 hsx hsl
    go_enter Try.func17, Try.ntmps17
    go_wp2_with fail
    refine (OK.out _ _ (by go_grown) HA0.out.box).mono ?_
    rintro e w1 ⟨rfl, hb1⟩
    have R := Lib.hid (HR0.out.below hb1 (by simp))
    have FB := Lib.hid (show Below w.heap.size w w1 from Below.trans (by go_grown) (hb1.mono (by simp <;> omega)))
    clear hb1
    obtain ⟨r0, y0⟩ := R.out 0 _ rfl; obtain ⟨r1, y1⟩ := R.out 1 _ rfl; obtain ⟨r2, y2⟩ := R.out 2 _ rfl; obtain ⟨r3, y3⟩ := R.out 3 _ rfl; obtain ⟨r4, y4⟩ := R.out 4 _ rfl
    go_wp2
    exact bodyPost_ret (v := .tuple #[.agg #[.int .i64 0, .int .i64 0, .int .i64 0, .int .i64 0, .slice none 0 0], .int .i64 1]) (by simp [results, Try.results17, go_sem, r0, y0, r1, y1, r2, y2, r3, y3, r4, y4]) rfl ⟨none, 0, rfl, .inl rfl, (((((FB.out).setCell (by simp <;> omega) _).setCell (by simp <;> omega) _).setCell (by simp <;> omega) _).setCell (by simp <;> omega) _).setCell (by simp <;> omega) _⟩
  rw [hdv] at OK
  have hg := hdv
  unfold discB at hg
  simp only [Bool.and_eq_true, decide_eq_true_eq] at hg
  obtain ⟨hg, hln, _⟩ := hg
  obtain ⟨g0, g1, g2, g3⟩ := geoB_iff.1 hg
  obtain ⟨m0, m1, m2, m3⟩ := mul_bound g0 g1 g2
  have hne : x.f4 ≠ [] := by
    intro e0
    rw [e0] at hln
    simp at hln
    omega
  have OW := Lib.hid (fun w' p (hb : Below w.heap.size w w') hp => l12Own_any x a c p w' hm hne hp (h.below hb (Nat.le_refl _)))
  have hk1 : IntKind.i64.wrap (x.f0 * x.f1) = x.f0 * x.f1 := IntWalk.i64_in _ (by omega)
  have hk2 : IntKind.i64.wrap (x.f0 * x.f1 - 1) = x.f0 * x.f1 - 1 := IntWalk.i64_in _ (by omega)
  have HCO := Lib.hid (show l.all foundB = true → inB 0 (x.f0 * x.f1 - 1) t = true → trkC x t = 0 ∧ filC x t l = 0 ∧ filV x t l = ⟨x.f0, x.f1, x.f2, x.f3, filK x t l l.length⟩ from fun h1 h2 => by
    have ht : trkC x t = 0 := by unfold trkC; rw [if_pos hdv, if_pos h2]
    have hc : filC x t l = 0 := by unfold filC; rw [if_pos h1, ht]
    exact ⟨ht, hc, by unfold filV; rw [if_pos hc]⟩)
  have HC2 := Lib.hid (show l.all foundB = true → inB 0 (x.f0 * x.f1 - 1) t = false → filC x t l = 2 ∧ filV x t l = noDisc from fun h1 h2 => by
    have hc : filC x t l = 2 := by unfold filC trkC; rw [if_pos h1, if_pos hdv, h2]; rfl
    exact ⟨hc, by unfold filV; rw [hc]; rfl⟩)
  have HC1 := Lib.hid (show ∀ e ∈ l, foundB e = false → filC x t l = 1 ∧ filV x t l = noDisc from fun e he hq => by
    have hc : filC x t l = 1 := by
      unfold filC
      rw [List.all_eq_false.2 ⟨e, he, by rw [hq]; simp⟩]
      rfl
    exact ⟨hc, by unfold filV; rw [hc]; rfl⟩)
  have HSL := Lib.hid hsl
  have H2 := Lib.hid h2
  clear hdv hg hln g0 g1 g2 g3 m0 m1 m2 m3 hne h h2 hs hs2 hsx hsl
  go_enter Try.func17, Try.ntmps17
  go_wp2_with fail
  refine (OK.out _ _ (by go_grown) HA0.out.box).mono ?_
  rintro e w1 ⟨rfl, hb1⟩
  have R := Lib.hid (HR0.out.below hb1 (by simp))
  have A := Lib.hid (HA0.out.below hb1 (by simp; omega))
  have FB := Lib.hid (show Below w.heap.size w w1 from Below.trans (by go_grown) (hb1.mono (by simp <;> omega)))
  have hz1 : w.heap.size + 1 < w1.heap.size := Nat.lt_of_lt_of_le (by simp) hb1.size
  clear hb1 HA0 HR0 OK
  obtain ⟨a0, z0⟩ := A.out 0 _ rfl; obtain ⟨a1, z1⟩ := A.out 1 _ rfl; obtain ⟨a2, z2⟩ := A.out 2 _ rfl; obtain ⟨a3, z3⟩ := A.out 3 _ rfl; obtain ⟨a4, z4⟩ := A.out 4 _ rfl
  go_wp2
  clear a0 z0 a1 z1 a2 z2 a3 z3 a4 z4
  go_loopw [8] (fun i wr => ∃ k : Nat, k ≤ l.length ∧ i = .int .i64 (k : Int) ∧ Hid ((l.take k).all foundB = true) ∧ Below w1.heap.size w1 wr) (fun i _ => l.length - (intOf i).toNat)
  case atStart => exact ⟨0, Nat.zero_le _, rfl, Lib.hid (by simp), Below.refl _ _⟩
  case round =>
    obtain ⟨k, hk, rfl, hall, hb⟩ := hrel
    have R2 := Lib.hid (R.out.below hb hz1)
    have A2 := Lib.hid (A.out.below hb (show w.heap.size < _ by omega))
    have FB2 := Lib.hid (FB.out.trans (hb.mono FB.out.size))
    have hzr : w.heap.size + 1 < wr.heap.size := Nat.lt_of_lt_of_le hz1 hb.size
    have HB := Lib.hid hb; clear hb
    by_cases hlt : k < l.length
    · obtain ⟨e, hx⟩ : ∃ e, l[k]? = some e := ⟨l[k], by simp [hlt]⟩
      obtain ⟨b, off, rfl, hbl, hce⟩ := (H2.out.below FB2.out (Nat.le_refl _)).at rowFound_len hx
      have c0 : wr.cell? ⟨b, off + k * 8, none⟩ = some (.int .i64 e.f0) := hce 0 _ rfl
      have c1 : wr.cell? ⟨b, off + k * 8 + 1, none⟩ = some (.int .i64 e.f1) := hce 1 _ rfl
      have c2' : wr.cell? ⟨b, off + k * 8 + 2, none⟩ = some (.int .i64 e.f2) := hce 2 _ rfl
      have c3 : wr.cell? ⟨b, off + k * 8 + 3, none⟩ = some (.int .i64 e.f3) := hce 3 _ rfl
      have c4 : wr.cell? ⟨b, off + k * 8 + 4, none⟩ = some (.string e.f4) := hce 4 _ rfl
      have c5 : wr.cell? ⟨b, off + k * 8 + 5, none⟩ = some (.int .i64 e.f5) := hce 5 _ rfl
      have c6 : wr.cell? ⟨b, off + k * 8 + 6, none⟩ = some (.bool e.f6) := hce 6 _ rfl
      have c7 : wr.cell? ⟨b, off + k * 8 + 7, none⟩ = some (.int .i64 e.f7) := hce 7 _ rfl
      have VF := Lib.hid (fun w => specValidFound_any e w (HSL.out e (List.mem_of_getElem? hx)))
      obtain ⟨q, hq⟩ : ∃ q, foundB e = q := ⟨_, rfl⟩
      rw [hq] at VF
      have HQ := Lib.hid hq
      have HX := Lib.hid (And.intro hx hce)
      clear hq hx hce
      go_wp2_with fail
      refine (VF.out _).mono ?_
      rintro e_ w2 ⟨rfl, hb2⟩
      clear c0 c1 c2' c3 c4 c5 c6 c7
      cases q with
      | true =>
        go_wp2
        go_roundw
        case rel => exact ⟨k + 1, by omega, by go_num, Lib.hid (by rw [List.take_add_one, HX.out.1, List.all_append, hall.out]; simp [HQ.out]), HB.out.trans (hb2.mono HB.out.size)⟩
        case measure => simp [intOf]; omega
      | false =>
        obtain ⟨hc, hv⟩ := HC1.out e (List.mem_of_getElem? HX.out.1) HQ.out
        have HCV := Lib.hid (And.intro hc hv)
        replace R := Lib.hid (R2.out.below hb2 hzr)
        replace FB := Lib.hid (FB2.out.trans (hb2.mono FB2.out.size))
        clear hc hv hb2
        obtain ⟨r0, y0⟩ := R.out 0 _ rfl; obtain ⟨r1, y1⟩ := R.out 1 _ rfl; obtain ⟨r2, y2⟩ := R.out 2 _ rfl; obtain ⟨r3, y3⟩ := R.out 3 _ rfl; obtain ⟨r4, y4⟩ := R.out 4 _ rfl
        go_wp2
        rw [HCV.out.1, HCV.out.2]
        exact bodyPost_ret (v := .tuple #[.agg #[.int .i64 0, .int .i64 0, .int .i64 0, .int .i64 0, .slice none 0 0], .int .i64 1]) (by simp [results, Try.results17, go_sem, r0, y0, r1, y1, r2, y2, r3, y3, r4, y4]) rfl ⟨none, 0, rfl, .inl rfl, (((((FB.out).setCell (by simp <;> omega) _).setCell (by simp <;> omega) _).setCell (by simp <;> omega) _).setCell (by simp <;> omega) _).setCell (by simp <;> omega) _⟩
    · obtain rfl : k = l.length := by omega
      have hall2 := hall.out
      rw [List.take_length] at hall2
      have HALL := Lib.hid hall2
      clear hall hall2
      replace R := R2; replace A := A2; replace FB := FB2
      clear R2 A2 FB2 HB
      have LI := Lib.hid (fun w => l00In_any t 0 (x.f0 * x.f1 - 1) w)
      obtain ⟨q, hq⟩ : ∃ q, inB 0 (x.f0 * x.f1 - 1) t = q := ⟨_, rfl⟩
      rw [hq] at LI
      have HQ := Lib.hid hq
      clear hq
      obtain ⟨a0, z0⟩ := A.out 0 _ rfl; obtain ⟨a1, z1⟩ := A.out 1 _ rfl; obtain ⟨a2, z2⟩ := A.out 2 _ rfl; obtain ⟨a3, z3⟩ := A.out 3 _ rfl; obtain ⟨a4, z4⟩ := A.out 4 _ rfl
      go_wp2_with fail
      refine (LI.out _).mono ?_
      rintro e_ _ ⟨rfl, rfl⟩
      clear a0 z0 a1 z1 a2 z2 a3 z3 a4 z4
      cases q with
      | false =>
        have HCV := Lib.hid (HC2.out HALL.out HQ.out)
        obtain ⟨r0, y0⟩ := R.out 0 _ rfl; obtain ⟨r1, y1⟩ := R.out 1 _ rfl; obtain ⟨r2, y2⟩ := R.out 2 _ rfl; obtain ⟨r3, y3⟩ := R.out 3 _ rfl; obtain ⟨r4, y4⟩ := R.out 4 _ rfl
        go_wp2
        rw [HCV.out.1, HCV.out.2]
        exact bodyPost_ret (v := .tuple #[.agg #[.int .i64 0, .int .i64 0, .int .i64 0, .int .i64 0, .slice none 0 0], .int .i64 2]) (by simp [results, Try.results17, go_sem, r0, y0, r1, y1, r2, y2, r3, y3, r4, y4]) rfl ⟨none, 0, rfl, .inl rfl, (((((FB.out).setCell (by simp <;> omega) _).setCell (by simp <;> omega) _).setCell (by simp <;> omega) _).setCell (by simp <;> omega) _).setCell (by simp <;> omega) _⟩
      | true =>
        have HCV := Lib.hid (HCO.out HALL.out HQ.out)
        go_wp2_with fail
        refine (OW.out _ _ FB.out A.out.box).mono ?_
        rintro e_ w3 ⟨g, cap, rfl, ho, hb3⟩
        have hg0 : wr.heap.size ≤ g := ho.choose_spec.1
        have hl0 := ho.lt
        have HO := Lib.hid ho
        replace R := Lib.hid (R.out.below hb3 hzr)
        replace FB := Lib.hid (FB.out.trans (hb3.mono FB.out.size))
        have hz3 : w.heap.size + 1 < w3.heap.size := Nat.lt_of_lt_of_le hzr hb3.size
        clear ho hb3 A
        have hA3 : Below w3.heap.size w3 (w3.alloc (.cells #[.int .i64 x.f0, .int .i64 x.f1, .int .i64 x.f2, .int .i64 x.f3, .slice (some ⟨g, 0, none⟩) x.f4.length cap] 30)) := (Below.refl w3.heap.size w3).alloc (Nat.le_refl _) _
        have BXG := Lib.hid (BoxF.new w3 #[.int .i64 x.f0, .int .i64 x.f1, .int .i64 x.f2, .int .i64 x.f3, .slice (some ⟨g, 0, none⟩) x.f4.length cap] 30 _ rfl)
        replace HO := Lib.hid ((HO.out.below hA3 hl0).mono (show w.heap.size ≤ wr.heap.size by omega))
        replace R := Lib.hid (R.out.below hA3 hz3)
        replace FB := Lib.hid (FB.out.trans (hA3.mono FB.out.size))
        have EN := Lib.hid (l12Enter_any x t s2 c2 l w3.heap.size g cap w _ HCV.out.1 HALL.out hm2 H2.out FB.out (by omega) (by omega) (by omega) BXG.out HO.out)
        have hWs : (w3.alloc (.cells #[.int .i64 x.f0, .int .i64 x.f1, .int .i64 x.f2, .int .i64 x.f3, .slice (some ⟨g, 0, none⟩) x.f4.length cap] 30)).heap.size = w3.heap.size + 1 := by simp
        go_wp2_with fail
        refine EN.out.mono ?_
        rintro e_ w4 ⟨rfl, ho4, hb4, hz4, hfr⟩
        replace BXG := Lib.hid (BXG.out.keepW (hfr w3.heap.size (by omega) (by omega)))
        replace R := Lib.hid (R.out.keepW (hfr (w.heap.size + 1) (by omega) (by omega)))
        replace HO := Lib.hid ho4
        replace FB := Lib.hid hb4
        rw [hWs] at hz4
        clear ho4 hb4 hfr EN hA3 hWs
        obtain ⟨b0, q0⟩ := BXG.out 0 _ rfl; obtain ⟨b1, q1⟩ := BXG.out 1 _ rfl; obtain ⟨b2, q2⟩ := BXG.out 2 _ rfl; obtain ⟨b3, q3⟩ := BXG.out 3 _ rfl; obtain ⟨b4, q4⟩ := BXG.out 4 _ rfl
        obtain ⟨r0, y0⟩ := R.out 0 _ rfl; obtain ⟨r1, y1⟩ := R.out 1 _ rfl; obtain ⟨r2, y2⟩ := R.out 2 _ rfl; obtain ⟨r3, y3⟩ := R.out 3 _ rfl; obtain ⟨r4, y4⟩ := R.out 4 _ rfl
        go_wp2
        rw [HCV.out.2.1, HCV.out.2.2]
        refine bodyPost_ret (v := .tuple #[.agg #[.int .i64 x.f0, .int .i64 x.f1, .int .i64 x.f2, .int .i64 x.f3, .slice (some ⟨g, 0, none⟩) x.f4.length cap], .int .i64 0]) (by simp [results, Try.results17, go_sem, r0, y0, r1, y1, r2, y2, r3, y3, r4, y4]) rfl ⟨some ⟨g, 0, none⟩, cap, by simp [filK_len], ?_, (((((FB.out).setCell (by simp <;> omega) _).setCell (by simp <;> omega) _).setCell (by simp <;> omega) _).setCell (by simp <;> omega) _).setCell (by simp <;> omega) _⟩
        refine OwnBlk.so (HO.out.keep ?_)
        simp only [World.setCell, Array.getElem?_modify]
        rw [if_neg (by omega), if_neg (by omega), if_neg (by omega), if_neg (by omega), if_neg (by omega)]
end Go.Proofs.Ytnfcalegnijobaa
