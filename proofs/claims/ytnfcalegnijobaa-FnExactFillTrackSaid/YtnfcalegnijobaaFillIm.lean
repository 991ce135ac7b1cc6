/- impl.FillTrack -/
import Derived.Test.YtnfcalegnijobaaFillVal
import Derived.Test.YtnfcalegnijobaaFoundList
namespace Go.Proofs.Ytnfcalegnijobaa
open Go.RowKit
set_option linter.unusedVariables false
set_option linter.unusedSimpArgs false
set_option maxRecDepth 20000
set_option maxHeartbeats 8000000 in
theorem fillTrack_any (x : DiscV) (a : Option Addr) (c : Nat) (t : Int) (s2 : Option Addr) (c2 : Nat) (l : List FoundV) (hm : x.f4.length ≤ 1048576) (hs : ∀ e ∈ x.f4, e.f0.size ≤ 1048576) (hm2 : l.length ≤ 1048576) (hs2 : ∀ e ∈ l, e.f4.size ≤ 1048576) (w : World) (h : SlS rowSector w a x.f4) (h2 : SlS rowFound w s2 l) :
    Calls Try.prog 20 #[.agg #[.int .i64 x.f0, .int .i64 x.f1, .int .i64 x.f2, .int .i64 x.f3, .slice a x.f4.length c], .int .i64 t, .slice s2 l.length c2] w (DiscRes (filV x t l) (filC x t l) w) := by
  have hsx : ∀ e ∈ x.f4, e.f0.size ≤ maxLen := fun e he => by have := hs e he; unfold maxLen; omega
  have EV := Lib.hid (fun w' (hb : Below w.heap.size w w') => everyFound_any s2 l c2 w' hm2 (fun e he => by have := hs2 e he; unfold maxLen; omega) (h2.below hb (Nat.le_refl _)))
  have SH := Lib.hid (fun w => shaped_any x a c w)
  have TC := Lib.hid (fun w' (hb : Below w.heap.size w w') => trackCode_any x a c t w' hm hsx (h.below hb (Nat.le_refl _)))
  have HA0 : BoxF ((w.alloc (.cells #[.int .i64 x.f0, .int .i64 x.f1, .int .i64 x.f2, .int .i64 x.f3, .slice a x.f4.length c] 30)).alloc (.cells #[.int .i64 0, .int .i64 0, .int .i64 0, .int .i64 0, .slice none 0 0] 30)) w.heap.size #[.int .i64 x.f0, .int .i64 x.f1, .int .i64 x.f2, .int .i64 x.f3, .slice a x.f4.length c] := (BoxF.new w #[.int .i64 x.f0, .int .i64 x.f1, .int .i64 x.f2, .int .i64 x.f3, .slice a x.f4.length c] 30 _ rfl).below ((Below.refl _ _).alloc (Nat.le_refl _) _) (by simp)
  have HR0 : BoxF ((w.alloc (.cells #[.int .i64 x.f0, .int .i64 x.f1, .int .i64 x.f2, .int .i64 x.f3, .slice a x.f4.length c] 30)).alloc (.cells #[.int .i64 0, .int .i64 0, .int .i64 0, .int .i64 0, .slice none 0 0] 30)) (w.heap.size + 1) #[.int .i64 0, .int .i64 0, .int .i64 0, .int .i64 0, .slice none 0 0] := BoxF.new _ _ _ _ (by simp)
  have HA0 := Lib.hid HA0; have HR0 := Lib.hid HR0
  by_cases hq : l.all foundB = true
  case neg =>
    have hc : filC x t l = 1 := by unfold filC; rw [if_neg hq]
    have hv : filV x t l = noDisc := by unfold filV; rw [hc]; rfl
    rw [hc, hv]
    have hd0 : l.all foundB = false := by simpa using hq
    rw [hd0] at EV
    clear hc hv hd0 hq h h2 hs hs2 hsx
    go_enter Try.func20, Try.ntmps20
    go_wp2_with fail
    refine (EV.out _ (by go_grown)).mono ?_
    rintro e w1 ⟨rfl, hb1⟩
    have R := Lib.hid (HR0.out.below hb1 (by simp))
    have FB := Lib.hid (show Below w.heap.size w w1 from Below.trans (by go_grown) (hb1.mono (by simp <;> omega)))
    clear hb1
    obtain ⟨r0, y0⟩ := R.out 0 _ rfl; obtain ⟨r1, y1⟩ := R.out 1 _ rfl; obtain ⟨r2, y2⟩ := R.out 2 _ rfl; obtain ⟨r3, y3⟩ := R.out 3 _ rfl; obtain ⟨r4, y4⟩ := R.out 4 _ rfl
    go_wp2
    exact bodyPost_ret (v := .tuple #[.agg #[.int .i64 0, .int .i64 0, .int .i64 0, .int .i64 0, .slice none 0 0], .int .i64 1]) (by simp [results, Try.results20, go_sem, r0, y0, r1, y1, r2, y2, r3, y3, r4, y4]) rfl ⟨none, 0, rfl, .inl rfl, (((((FB.out).setCell (by simp <;> omega) _).setCell (by simp <;> omega) _).setCell (by simp <;> omega) _).setCell (by simp <;> omega) _).setCell (by simp <;> omega) _⟩
  rw [hq] at EV
  obtain ⟨z, hz⟩ : ∃ z, trkC x t = z := ⟨_, rfl⟩
  have hc : filC x t l = z := by unfold filC; rw [if_pos hq, hz]
  by_cases h0 : z = 0
  case neg =>
    have hv : filV x t l = noDisc := by unfold filV; rw [hc, if_neg h0]
    rw [hc, hv]
    rw [hz] at TC
    have hzb : (z != 0) = true := by simpa using h0
    clear hc hv hz h0 hq h h2 hs hs2 hsx
    go_enter Try.func20, Try.ntmps20
    go_wp2_with fail
    refine (EV.out _ (by go_grown)).mono ?_
    rintro e w1 ⟨rfl, hb1⟩
    have R := Lib.hid (HR0.out.below hb1 (by simp))
    have A := Lib.hid (HA0.out.below hb1 (by simp; omega))
    have FB := Lib.hid (show Below w.heap.size w w1 from Below.trans (by go_grown) (hb1.mono (by simp <;> omega)))
    have hz1 : w.heap.size + 1 < w1.heap.size := Nat.lt_of_lt_of_le (by simp) hb1.size
    clear hb1 HA0 HR0
    obtain ⟨a0, z0⟩ := A.out 0 _ rfl; obtain ⟨a1, z1⟩ := A.out 1 _ rfl; obtain ⟨a2, z2⟩ := A.out 2 _ rfl; obtain ⟨a3, z3⟩ := A.out 3 _ rfl; obtain ⟨a4, z4⟩ := A.out 4 _ rfl
    go_wp2_with fail
    refine (SH.out _).mono ?_
    rintro e w2 ⟨rfl, hb2⟩
    clear a0 z0 a1 z1 a2 z2 a3 z3 a4 z4
    replace R := Lib.hid (R.out.below hb2 hz1)
    replace FB := Lib.hid (FB.out.trans (hb2.mono FB.out.size))
    have hz2 : w.heap.size + 1 < w2.heap.size := Nat.lt_of_lt_of_le hz1 hb2.size
    clear hb2
    go_wp2_with fail
    refine (TC.out _ (FB.out.alloc FB.out.size _)).mono ?_
    rintro e w3 ⟨rfl, hb3⟩
    replace R := Lib.hid ((R.out.below ((Below.refl w2.heap.size w2).alloc (Nat.le_refl _) (.cells #[.int .i64 x.f0, .int .i64 x.f1, .int .i64 x.f2, .int .i64 x.f3, .slice a x.f4.length c] 143)) hz2).below hb3 (by simp; omega))
    replace FB := Lib.hid ((FB.out.alloc FB.out.size (.cells #[.int .i64 x.f0, .int .i64 x.f1, .int .i64 x.f2, .int .i64 x.f3, .slice a x.f4.length c] 143)).trans (hb3.mono (by have := FB.out.size; simp; omega)))
    clear hb3
    obtain ⟨r0, y0⟩ := R.out 0 _ rfl; obtain ⟨r1, y1⟩ := R.out 1 _ rfl; obtain ⟨r2, y2⟩ := R.out 2 _ rfl; obtain ⟨r3, y3⟩ := R.out 3 _ rfl; obtain ⟨r4, y4⟩ := R.out 4 _ rfl
    go_wp2
    exact bodyPost_ret (v := .tuple #[.agg #[.int .i64 0, .int .i64 0, .int .i64 0, .int .i64 0, .slice none 0 0], .int .i64 z]) (by simp [results, Try.results20, go_sem, r0, y0, r1, y1, r2, y2, r3, y3, r4, y4]) rfl ⟨none, 0, rfl, .inl rfl, (((((FB.out).setCell (by simp <;> omega) _).setCell (by simp <;> omega) _).setCell (by simp <;> omega) _).setCell (by simp <;> omega) _).setCell (by simp <;> omega) _⟩
  subst h0
  have hv : filV x t l = ⟨x.f0, x.f1, x.f2, x.f3, filK x t l l.length⟩ := by unfold filV; rw [if_pos hc]
  rw [hc, hv]
  rw [hz] at TC
  obtain ⟨hdv, htp⟩ := trkC_ok hz
  have hne : x.f4 ≠ [] := by
    intro e0
    have hg := hdv
    unfold discB at hg
    simp only [Bool.and_eq_true, decide_eq_true_eq] at hg
    obtain ⟨hg, hln, _⟩ := hg
    obtain ⟨g0, g1, g2, g3⟩ := geoB_iff.1 hg
    obtain ⟨m0, m1, m2, m3⟩ := mul_bound g0 g1 g2
    rw [e0] at hln
    simp at hln
    omega
  have hgeo : 1 ≤ x.f1 ∧ x.f1 ≤ 2 := by
    unfold discB at hdv
    simp only [Bool.and_eq_true, decide_eq_true_eq] at hdv
    exact (geoB_iff.1 hdv.1).2.1
  have hgeo2 : 1 ≤ x.f2 ∧ x.f2 ≤ 8 := by
    unfold discB at hdv
    simp only [Bool.and_eq_true, decide_eq_true_eq] at hdv
    exact (geoB_iff.1 hdv.1).2.2.1
  have HIX := Lib.hid (fun e hp => ixF_in (x := x) (t := t) (e := e) hz hp)
  have HFB := Lib.hid (fun e he => List.all_eq_true.1 hq e he)
  have CL := Lib.hid (fun w' (hb : Below w.heap.size w w') => clone_any a x.f4 c w' hm hne (h.below hb (Nat.le_refl _)))
  have DC := Lib.hid (fun s cap w => disc_any x.f0 x.f1 x.f2 x.f3 s x.f4.length cap w)
  have HG := Lib.hid (And.intro hgeo hgeo2)
  clear hc hv hz hq h hs hs2 hsx hdv htp hne hgeo hgeo2
  go_enter Try.func20, Try.ntmps20
  go_wp2_with fail
  refine (EV.out _ (by go_grown)).mono ?_
  rintro e w1 ⟨rfl, hb1⟩
  have R := Lib.hid (HR0.out.below hb1 (by simp))
  have A := Lib.hid (HA0.out.below hb1 (by simp; omega))
  have FB := Lib.hid (show Below w.heap.size w w1 from Below.trans (by go_grown) (hb1.mono (by simp <;> omega)))
  have hz1 : w.heap.size + 1 < w1.heap.size := Nat.lt_of_lt_of_le (by simp) hb1.size
  clear hb1
  clear HA0 HR0
  clear HA0 HR0
  obtain ⟨a0, z0⟩ := A.out 0 _ rfl; obtain ⟨a1, z1⟩ := A.out 1 _ rfl; obtain ⟨a2, z2⟩ := A.out 2 _ rfl; obtain ⟨a3, z3⟩ := A.out 3 _ rfl; obtain ⟨a4, z4⟩ := A.out 4 _ rfl
  go_wp2_with fail
  refine (SH.out _).mono ?_
  rintro e w2 ⟨rfl, hb2⟩
  clear a0 z0 a1 z1 a2 z2 a3 z3 a4 z4
  replace R := Lib.hid (R.out.below hb2 hz1)
  replace FB := Lib.hid (FB.out.trans (hb2.mono FB.out.size))
  have hz2 : w.heap.size + 1 < w2.heap.size := Nat.lt_of_lt_of_le hz1 hb2.size
  clear hb2 A
  go_wp2_with fail
  refine (TC.out _ (FB.out.alloc FB.out.size _)).mono ?_
  rintro e w3 ⟨rfl, hb3⟩
  have A := Lib.hid ((BoxF.new w2 #[.int .i64 x.f0, .int .i64 x.f1, .int .i64 x.f2, .int .i64 x.f3, .slice a x.f4.length c] 143 _ rfl).below hb3 (by simp))
  replace R := Lib.hid ((R.out.below ((Below.refl w2.heap.size w2).alloc (Nat.le_refl _) (.cells #[.int .i64 x.f0, .int .i64 x.f1, .int .i64 x.f2, .int .i64 x.f3, .slice a x.f4.length c] 143)) hz2).below hb3 (by simp; omega))
  replace FB := Lib.hid ((FB.out.alloc FB.out.size (.cells #[.int .i64 x.f0, .int .i64 x.f1, .int .i64 x.f2, .int .i64 x.f3, .slice a x.f4.length c] 143)).trans (hb3.mono (by have := FB.out.size; simp; omega)))
  have hz3 : w2.heap.size < w3.heap.size := Nat.lt_of_lt_of_le (by simp) hb3.size
  clear hb3
  obtain ⟨a0, z0⟩ := A.out 0 _ rfl; obtain ⟨a1, z1⟩ := A.out 1 _ rfl; obtain ⟨a2, z2⟩ := A.out 2 _ rfl; obtain ⟨a3, z3⟩ := A.out 3 _ rfl; obtain ⟨a4, z4⟩ := A.out 4 _ rfl
  go_wp2_with fail
  refine (CL.out _ FB.out).mono ?_
  rintro e_ w4 ⟨g, cap, rfl, ho, hb4⟩
  clear a0 z0 a1 z1 a2 z2 a3 z3 a4 z4
  replace R := Lib.hid (R.out.below hb4 (by omega))
  replace A := Lib.hid (A.out.below hb4 hz3)
  have hg0 : w3.heap.size ≤ g := ho.choose_spec.1
  replace FB := Lib.hid (FB.out.trans (hb4.mono FB.out.size))
  have hz4 : w2.heap.size < w4.heap.size := Nat.lt_of_lt_of_le hz3 hb4.size
  have HO := Lib.hid ho
  clear ho hb4
  obtain ⟨a0, z0⟩ := A.out 0 _ rfl; obtain ⟨a1, z1⟩ := A.out 1 _ rfl; obtain ⟨a2, z2⟩ := A.out 2 _ rfl; obtain ⟨a3, z3⟩ := A.out 3 _ rfl; obtain ⟨a4, z4⟩ := A.out 4 _ rfl
  go_wp2
  clear a0 z0 a1 z1 a2 z2 a3 z3 a4 z4
  go_loopw [35] (fun i wr => ∃ k : Nat, k ≤ l.length ∧ i = .int .i64 (k : Int) ∧ Hid (OwnBlk wr w3.heap.size g (filK x t l k)) ∧ Hid (BoxF wr w2.heap.size #[.int .i64 x.f0, .int .i64 x.f1, .int .i64 x.f2, .int .i64 x.f3, .slice a x.f4.length c]) ∧ Hid (BoxF wr (w.heap.size + 1) #[.int .i64 0, .int .i64 0, .int .i64 0, .int .i64 0, .slice none 0 0]) ∧ Below w.heap.size w wr ∧ w2.heap.size < wr.heap.size) (fun i _ => l.length - (intOf i).toNat)
  case atStart => exact ⟨0, Nat.zero_le _, rfl, HO, A, R, FB.out, hz4⟩
  case round =>
    clear HO R FB A
    obtain ⟨k, hk, rfl, HO, A, R, hb, hzr⟩ := hrel
    have FB := Lib.hid hb; clear hb
    by_cases hlt : k < l.length
    · obtain ⟨e, hx⟩ : ∃ e, l[k]? = some e := ⟨l[k], by simp [hlt]⟩
      obtain ⟨b, off, rfl, hbl, hce⟩ := (h2.below FB.out (Nat.le_refl _)).at rowFound_len hx
      have c0 : wr.cell? ⟨b, off + k * 8, none⟩ = some (.int .i64 e.f0) := hce 0 _ rfl
      have c1 : wr.cell? ⟨b, off + k * 8 + 1, none⟩ = some (.int .i64 e.f1) := hce 1 _ rfl
      have c2 : wr.cell? ⟨b, off + k * 8 + 2, none⟩ = some (.int .i64 e.f2) := hce 2 _ rfl
      have c3 : wr.cell? ⟨b, off + k * 8 + 3, none⟩ = some (.int .i64 e.f3) := hce 3 _ rfl
      have c4 : wr.cell? ⟨b, off + k * 8 + 4, none⟩ = some (.string e.f4) := hce 4 _ rfl
      have c5 : wr.cell? ⟨b, off + k * 8 + 5, none⟩ = some (.int .i64 e.f5) := hce 5 _ rfl
      have c6 : wr.cell? ⟨b, off + k * 8 + 6, none⟩ = some (.bool e.f6) := hce 6 _ rfl
      have c7 : wr.cell? ⟨b, off + k * 8 + 7, none⟩ = some (.int .i64 e.f7) := hce 7 _ rfl
      have hfb := HFB.out e (List.mem_of_getElem? hx)
      have hf2 : 0 ≤ e.f2 ∧ e.f2 ≤ 255 := by
        unfold foundB at hfb
        simp only [List.all_cons, List.all_nil, Bool.and_true, Bool.and_eq_true, inB_iff] at hfb
        omega
      have hw1 : wrap64 (e.f2 - 1) = e.f2 - 1 := by unfold wrap64; omega
      have hw2 : IntKind.i64.wrap (e.f2 - 1) = e.f2 - 1 := IntWalk.i64_in _ (by omega)
      have HSC := Lib.hid (filK_succ (x := x) (t := t) hx)
      have EN := Lib.hid (fun w => entered_any e w)
      have FA := Lib.hid (fun w => foundAddr_any e w)
      have PL := Lib.hid (fun w => isPlace_any (e.f2 - 1) x.f2 w (by have := HG.out; omega) (by have := HG.out; omega))
      have HX := Lib.hid (And.intro hx hce)
      clear hx hce hfb
      have hltg : g < wr.heap.size := HO.out.lt
      go_wp2_with fail
      refine (EN.out _).mono ?_
      rintro e_ w5 ⟨rfl, hb5⟩
      clear c0 c1 c2 c3 c4 c5 c6 c7
      have hA1 : Below wr.heap.size wr (wr.alloc (.cells #[.int .i64 e.f0, .int .i64 e.f1, .int .i64 e.f2, .int .i64 e.f3, .string e.f4, .int .i64 e.f5, .bool e.f6, .int .i64 e.f7] 133)) := (Below.refl _ _).alloc (Nat.le_refl _) _
      have BF0 := (BoxF.new wr #[.int .i64 e.f0, .int .i64 e.f1, .int .i64 e.f2, .int .i64 e.f3, .string e.f4, .int .i64 e.f5, .bool e.f6, .int .i64 e.f7] 133 _ rfl).below hb5 (by simp)
      replace hA1 := hA1.trans (hb5.mono hA1.size)
      have hzF0 : wr.heap.size < w5.heap.size := Nat.lt_of_lt_of_le (by simp) hb5.size
      clear hb5
      go_upto_region 13 with (fail)
      have BS := BoxF.new w5 #[.string (entV e).f0, .int .i64 (entV e).f1] 148 _ rfl
      have hA2 : Below w5.heap.size w5 (w5.alloc (.cells #[.string (entV e).f0, .int .i64 (entV e).f1] 148)) := (Below.refl _ _).alloc (Nat.le_refl _) _
      have BF := BF0.below hA2 hzF0
      have hWs : (w5.alloc (.cells #[.string (entV e).f0, .int .i64 (entV e).f1] 148)).heap.size = w5.heap.size + 1 := by simp
      replace hA2 := hA1.trans (hA2.mono hA1.size)
      generalize w5.alloc (.cells #[.string (entV e).f0, .int .i64 (entV e).f1] 148) = W at *
      replace FB := Lib.hid (FB.out.trans (hA2.mono FB.out.size))
      replace A := Lib.hid (A.out.below hA2 hzr)
      replace R := Lib.hid (R.out.below hA2 (by omega))
      replace HO := Lib.hid (HO.out.below hA2 hltg)
      have hzP : w2.heap.size < W.heap.size := by omega
      have hzF : wr.heap.size < W.heap.size := by omega
      have hzS : w5.heap.size < W.heap.size := by omega
      clear hA1 hA2 BF0
      have BA := A.out.box
      have BX := BF.box
      have hzR : w.heap.size + 1 < W.heap.size := by omega
      have hzG : g < W.heap.size := by omega
      obtain ⟨q, hq⟩ : ∃ q, entK e = q := ⟨_, rfl⟩
      rw [hq]
      cases q with
      | false =>
        have HNO := Lib.hid (fil1_no (x := x) (t := t) (es := filK x t l k) (e := e) (by unfold hitB; rw [hq]; rfl))
        clear hq
        have KS := Lib.hid (fun w' (hb : Below W.heap.size W w') => (show w'.cell? ⟨w2.heap.size, 0, none⟩ = some (.int .i64 x.f0) ∧ w'.cell? ⟨w2.heap.size, 1, none⟩ = some (.int .i64 x.f1) ∧ w'.cell? ⟨w2.heap.size, 2, none⟩ = some (.int .i64 x.f2) ∧ w'.cell? ⟨w2.heap.size, 3, none⟩ = some (.int .i64 x.f3) ∧ w'.cell? ⟨w2.heap.size, 4, none⟩ = some (.slice a x.f4.length c) ∧ w'.cell? ⟨wr.heap.size, 0, none⟩ = some (.int .i64 e.f0) ∧ w'.cell? ⟨wr.heap.size, 1, none⟩ = some (.int .i64 e.f1) ∧ w'.cell? ⟨wr.heap.size, 2, none⟩ = some (.int .i64 e.f2) ∧ w'.cell? ⟨wr.heap.size, 3, none⟩ = some (.int .i64 e.f3) ∧ w'.cell? ⟨wr.heap.size, 4, none⟩ = some (.string e.f4) ∧ w'.cell? ⟨wr.heap.size, 5, none⟩ = some (.int .i64 e.f5) ∧ w'.cell? ⟨wr.heap.size, 6, none⟩ = some (.bool e.f6) ∧ w'.cell? ⟨wr.heap.size, 7, none⟩ = some (.int .i64 e.f7) from ⟨(BA.below hb hzP) 0 _ rfl, (BA.below hb hzP) 1 _ rfl, (BA.below hb hzP) 2 _ rfl, (BA.below hb hzP) 3 _ rfl, (BA.below hb hzP) 4 _ rfl, (BX.below hb hzF) 0 _ rfl, (BX.below hb hzF) 1 _ rfl, (BX.below hb hzF) 2 _ rfl, (BX.below hb hzF) 3 _ rfl, (BX.below hb hzF) 4 _ rfl, (BX.below hb hzF) 5 _ rfl, (BX.below hb hzF) 6 _ rfl, (BX.below hb hzF) 7 _ rfl⟩))
        have HC := Lib.hid (show Below W.heap.size W W.drew from (Below.refl _ _).drew)
        refine wp_region_held_drew (S := (fun w' => w'.cell? ⟨w2.heap.size, 0, none⟩ = some (.int .i64 x.f0) ∧ w'.cell? ⟨w2.heap.size, 1, none⟩ = some (.int .i64 x.f1) ∧ w'.cell? ⟨w2.heap.size, 2, none⟩ = some (.int .i64 x.f2) ∧ w'.cell? ⟨w2.heap.size, 3, none⟩ = some (.int .i64 x.f3) ∧ w'.cell? ⟨w2.heap.size, 4, none⟩ = some (.slice a x.f4.length c) ∧ w'.cell? ⟨wr.heap.size, 0, none⟩ = some (.int .i64 e.f0) ∧ w'.cell? ⟨wr.heap.size, 1, none⟩ = some (.int .i64 e.f1) ∧ w'.cell? ⟨wr.heap.size, 2, none⟩ = some (.int .i64 e.f2) ∧ w'.cell? ⟨wr.heap.size, 3, none⟩ = some (.int .i64 e.f3) ∧ w'.cell? ⟨wr.heap.size, 4, none⟩ = some (.string e.f4) ∧ w'.cell? ⟨wr.heap.size, 5, none⟩ = some (.int .i64 e.f5) ∧ w'.cell? ⟨wr.heap.size, 6, none⟩ = some (.bool e.f6) ∧ w'.cell? ⟨wr.heap.size, 7, none⟩ = some (.int .i64 e.f7))) (by kernel_rfl) (KS.out _ HC.out) (fun hHeld => ?_)
        refine wpAnyH_take (i := 0) (oi := { dst := some 47, op := Op.move (Operand.tmp 15), type := 4, pos := "l12_discs.go:222", after := #[], guard := none }) (v := ?_) rfl (by kernel_rfl) (by kernel_rfl) (by kernel_rfl) (fun _ _ _ h => h) (Or.inl ⟨by rfl, ?hy⟩) hHeld ?_
        case hy => (intro w' hSw; (try dsimp only at hSw); go_simp; try with_reducible rfl)
        simp only [Act.put, List.setIfInBounds_toArray, List.set_cons_zero, List.set_cons_succ]
        refine wpAnyH_take (i := 1) (oi := { dst := some 48, op := Op.unOp UnOp.not 4 (Operand.tmp 47), type := 4, pos := "l12_discs.go:222", after := #[{ on := 0, ground := Ground.data }], guard := none }) (v := ?_) rfl (by kernel_rfl) (by kernel_rfl) (by kernel_rfl) (fun _ _ _ h => h) (Or.inl ⟨by rfl, ?hy⟩) hHeld ?_
        case hy => (intro w' hSw; (try dsimp only at hSw); go_simp; try with_reducible rfl)
        simp only [Act.put, List.setIfInBounds_toArray, List.set_cons_zero, List.set_cons_succ]
        refine wpAnyH_take (i := 2) (oi := { dst := some 49, op := Op.move (Operand.tmp 48), type := 4, pos := "l12_discs.go:222", after := #[{ on := 1, ground := Ground.data }], guard := none }) (v := ?_) rfl (by kernel_rfl) (by kernel_rfl) (by kernel_rfl) (fun _ _ _ h => h) (Or.inl ⟨by rfl, ?hy⟩) hHeld ?_
        case hy => (intro w' hSw; (try dsimp only at hSw); go_simp; try with_reducible rfl)
        simp only [Act.put, List.setIfInBounds_toArray, List.set_cons_zero, List.set_cons_succ]
        refine wpAnyH_take (i := 3) (oi := { dst := some 50, op := Op.move (Operand.tmp 13), type := 2, pos := "l12_discs.go:222", after := #[{ on := 2, ground := Ground.guard }], guard := some (2, false) }) (v := undef) rfl (by kernel_rfl) (by kernel_rfl) (by kernel_rfl) (fun _ _ _ h => h) (Or.inr ⟨by rfl, rfl⟩) hHeld ?_
        simp only [Act.put, List.setIfInBounds_toArray, List.set_cons_zero, List.set_cons_succ]
        refine wpAnyH_take (i := 4) (oi := { dst := some 51, op := Op.fieldAddr 143 (Operand.tmp 8) 0, type := 0, pos := "l12_discs.go:222", after := #[{ on := 2, ground := Ground.guard }], guard := some (2, false) }) (v := undef) rfl (by kernel_rfl) (by kernel_rfl) (by kernel_rfl) (fun _ _ _ h => h) (Or.inr ⟨by rfl, rfl⟩) hHeld ?_
        simp only [Act.put, List.setIfInBounds_toArray, List.set_cons_zero, List.set_cons_succ]
        refine wpAnyH_take (i := 5) (oi := { dst := some 52, op := Op.fieldAddr 141 (Operand.tmp 51) 2, type := 0, pos := "l12_discs.go:222", after := #[{ on := 4, ground := Ground.data }, { on := 2, ground := Ground.guard }], guard := some (2, false) }) (v := undef) rfl (by kernel_rfl) (by kernel_rfl) (by kernel_rfl) (fun _ _ _ h => h) (Or.inr ⟨by rfl, rfl⟩) hHeld ?_
        simp only [Act.put, List.setIfInBounds_toArray, List.set_cons_zero, List.set_cons_succ]
        refine wpAnyH_take (i := 6) (oi := { dst := some 53, op := Op.load 2 (Operand.tmp 52), type := 2, pos := "l12_discs.go:222", after := #[{ on := 5, ground := Ground.data }, { on := 2, ground := Ground.guard }], guard := some (2, false) }) (v := undef) rfl (by kernel_rfl) (by kernel_rfl) (by kernel_rfl) (fun _ _ _ h => h) (Or.inr ⟨by rfl, rfl⟩) hHeld ?_
        simp only [Act.put, List.setIfInBounds_toArray, List.set_cons_zero, List.set_cons_succ]
        refine wpAnyH_take (i := 7) (oi := { dst := some 54, op := Op.call { callee := Callee.value (Operand.func 98), args := #[Operand.tmp 50, Operand.tmp 53], argTypes := #[2, 2] }, type := 4, pos := "l12_discs.go:222", after := #[{ on := 3, ground := Ground.data }, { on := 6, ground := Ground.data }, { on := 2, ground := Ground.chain }, { on := 2, ground := Ground.guard }], guard := some (2, false) }) (v := undef) rfl (by kernel_rfl) (by kernel_rfl) (by kernel_rfl) (fun _ _ _ h => h) (Or.inr ⟨by rfl, rfl⟩) hHeld ?_
        simp only [Act.put, List.setIfInBounds_toArray, List.set_cons_zero, List.set_cons_succ]
        refine wpAnyH_take (i := 8) (oi := { dst := some 55, op := Op.unOp UnOp.not 4 (Operand.tmp 54), type := 4, pos := "l12_discs.go:222", after := #[{ on := 7, ground := Ground.data }, { on := 2, ground := Ground.guard }], guard := some (2, false) }) (v := undef) rfl (by kernel_rfl) (by kernel_rfl) (by kernel_rfl) (fun _ _ _ h => h) (Or.inr ⟨by rfl, rfl⟩) hHeld ?_
        simp only [Act.put, List.setIfInBounds_toArray, List.set_cons_zero, List.set_cons_succ]
        refine wpAnyH_take (i := 9) (oi := { dst := some 56, op := Op.pick (Operand.tmp 49) (Operand.const (Value.bool true)) (Operand.tmp 55), type := 4, pos := "l12_discs.go:222", after := #[{ on := 2, ground := Ground.data }, { on := 8, ground := Ground.data }], guard := none }) (v := ?_) rfl (by kernel_rfl) (by kernel_rfl) (by kernel_rfl) (fun _ _ _ h => h) (Or.inl ⟨by rfl, ?hy⟩) hHeld ?_
        case hy => (intro w' hSw; (try dsimp only at hSw); go_simp; try with_reducible rfl)
        simp only [Act.put, List.setIfInBounds_toArray, List.set_cons_zero, List.set_cons_succ]
        refine wpAnyH_take (i := 10) (oi := { dst := some 57, op := Op.move (Operand.tmp 56), type := 4, pos := "l12_discs.go:222", after := #[{ on := 9, ground := Ground.data }, { on := 7, ground := Ground.chain }], guard := none }) (v := ?_) rfl (by kernel_rfl) (by kernel_rfl) (by kernel_rfl) (fun _ _ _ h => h) (Or.inl ⟨by rfl, ?hy⟩) hHeld ?_
        case hy => (intro w' hSw; (try dsimp only at hSw); go_simp; try with_reducible rfl)
        simp only [Act.put, List.setIfInBounds_toArray, List.set_cons_zero, List.set_cons_succ]
        refine wpAnyH_take (i := 11) (oi := { dst := some 58, op := Op.load 133 (Operand.tmp 12), type := 133, pos := "l12_discs.go:222", after := #[{ on := 10, ground := Ground.guard }], guard := some (10, false) }) (v := undef) rfl (by kernel_rfl) (by kernel_rfl) (by kernel_rfl) (fun _ _ _ h => h) (Or.inr ⟨by rfl, rfl⟩) hHeld ?_
        simp only [Act.put, List.setIfInBounds_toArray, List.set_cons_zero, List.set_cons_succ]
        refine wpAnyH_take (i := 12) (oi := { dst := some 59, op := Op.call { callee := Callee.value (Operand.func 99), args := #[Operand.tmp 58], argTypes := #[133] }, type := 153, pos := "l12_discs.go:222", after := #[{ on := 11, ground := Ground.data }, { on := 10, ground := Ground.chain }, { on := 10, ground := Ground.guard }], guard := some (10, false) }) (v := undef) rfl (by kernel_rfl) (by kernel_rfl) (by kernel_rfl) (fun _ _ _ h => h) (Or.inr ⟨by rfl, rfl⟩) hHeld ?_
        simp only [Act.put, List.setIfInBounds_toArray, List.set_cons_zero, List.set_cons_succ]
        refine wpAnyH_take (i := 13) (oi := { dst := some 60, op := Op.fieldAddr 143 (Operand.tmp 8) 0, type := 0, pos := "l12_discs.go:222", after := #[{ on := 10, ground := Ground.guard }], guard := some (10, false) }) (v := undef) rfl (by kernel_rfl) (by kernel_rfl) (by kernel_rfl) (fun _ _ _ h => h) (Or.inr ⟨by rfl, rfl⟩) hHeld ?_
        simp only [Act.put, List.setIfInBounds_toArray, List.set_cons_zero, List.set_cons_succ]
        refine wpAnyH_take (i := 14) (oi := { dst := some 61, op := Op.load 141 (Operand.tmp 60), type := 141, pos := "l12_discs.go:222", after := #[{ on := 13, ground := Ground.data }, { on := 10, ground := Ground.guard }], guard := some (10, false) }) (v := undef) rfl (by kernel_rfl) (by kernel_rfl) (by kernel_rfl) (fun _ _ _ h => h) (Or.inr ⟨by rfl, rfl⟩) hHeld ?_
        simp only [Act.put, List.setIfInBounds_toArray, List.set_cons_zero, List.set_cons_succ]
        refine wpAnyH_take (i := 15) (oi := { dst := some 62, op := Op.move (Operand.tmp 1), type := 2, pos := "l12_discs.go:222", after := #[{ on := 10, ground := Ground.guard }], guard := some (10, false) }) (v := undef) rfl (by kernel_rfl) (by kernel_rfl) (by kernel_rfl) (fun _ _ _ h => h) (Or.inr ⟨by rfl, rfl⟩) hHeld ?_
        simp only [Act.put, List.setIfInBounds_toArray, List.set_cons_zero, List.set_cons_succ]
        refine wpAnyH_take (i := 16) (oi := { dst := some 63, op := Op.move (Operand.tmp 13), type := 2, pos := "l12_discs.go:222", after := #[{ on := 10, ground := Ground.guard }], guard := some (10, false) }) (v := undef) rfl (by kernel_rfl) (by kernel_rfl) (by kernel_rfl) (fun _ _ _ h => h) (Or.inr ⟨by rfl, rfl⟩) hHeld ?_
        simp only [Act.put, List.setIfInBounds_toArray, List.set_cons_zero, List.set_cons_succ]
        refine wpAnyH_take (i := 17) (oi := { dst := some 64, op := Op.call { callee := Callee.value (Operand.func 100), args := #[Operand.tmp 61, Operand.tmp 62, Operand.tmp 63], argTypes := #[141, 2, 2] }, type := 153, pos := "l12_discs.go:222", after := #[{ on := 14, ground := Ground.data }, { on := 15, ground := Ground.data }, { on := 16, ground := Ground.data }, { on := 12, ground := Ground.chain }, { on := 10, ground := Ground.guard }], guard := some (10, false) }) (v := undef) rfl (by kernel_rfl) (by kernel_rfl) (by kernel_rfl) (fun _ _ _ h => h) (Or.inr ⟨by rfl, rfl⟩) hHeld ?_
        simp only [Act.put, List.setIfInBounds_toArray, List.set_cons_zero, List.set_cons_succ]
        refine wpAnyH_take (i := 18) (oi := { dst := some 65, op := Op.binOp BinOp.neq 153 (Operand.tmp 59) (Operand.tmp 64) 153, type := 4, pos := "l12_discs.go:222", after := #[{ on := 12, ground := Ground.data }, { on := 17, ground := Ground.data }, { on := 10, ground := Ground.guard }], guard := some (10, false) }) (v := undef) rfl (by kernel_rfl) (by kernel_rfl) (by kernel_rfl) (fun _ _ _ h => h) (Or.inr ⟨by rfl, rfl⟩) hHeld ?_
        simp only [Act.put, List.setIfInBounds_toArray, List.set_cons_zero, List.set_cons_succ]
        refine wpAnyH_take (i := 19) (oi := { dst := some 66, op := Op.pick (Operand.tmp 57) (Operand.const (Value.bool true)) (Operand.tmp 65), type := 4, pos := "l12_discs.go:222", after := #[{ on := 10, ground := Ground.data }, { on := 18, ground := Ground.data }], guard := none }) (v := ?_) rfl (by kernel_rfl) (by kernel_rfl) (by kernel_rfl) (fun _ _ _ h => h) (Or.inl ⟨by rfl, ?hy⟩) hHeld ?_
        case hy => (intro w' hSw; (try dsimp only at hSw); go_simp; try with_reducible rfl)
        simp only [Act.put, List.setIfInBounds_toArray, List.set_cons_zero, List.set_cons_succ]
        refine wpAnyH_done (by kernel_rfl) ?_ _
        replace FB := Lib.hid (FB.out.trans (HC.out.mono FB.out.size))
        replace A := Lib.hid (A.out.below HC.out hzP)
        replace R := Lib.hid (R.out.below HC.out hzR)
        replace HO := Lib.hid (HO.out.below HC.out hzG)
        have hzZ := Nat.lt_of_lt_of_le hzP HC.out.size
        clear HC KS hHeld
        go_wp2
        go_roundw
        case rel => exact ⟨k + 1, by omega, by go_num, Lib.hid (by rw [HSC.out, HNO.out]; exact HO.out), A, R, FB.out, hzZ⟩
        case measure => simp [intOf]; omega
      | true =>
        obtain ⟨p, hp⟩ : ∃ p, inB 0 (x.f2 - 1) (e.f2 - 1) = p := ⟨_, rfl⟩
        rw [hp] at PL
        cases p with
        | false =>
          have HNO := Lib.hid (fil1_no (x := x) (t := t) (es := filK x t l k) (e := e) (by unfold hitB; rw [hq, hp]; rfl))
          clear hq hp
          have KS := Lib.hid (fun w' (hb : Below W.heap.size W w') => (show w'.cell? ⟨w2.heap.size, 0, none⟩ = some (.int .i64 x.f0) ∧ w'.cell? ⟨w2.heap.size, 1, none⟩ = some (.int .i64 x.f1) ∧ w'.cell? ⟨w2.heap.size, 2, none⟩ = some (.int .i64 x.f2) ∧ w'.cell? ⟨w2.heap.size, 3, none⟩ = some (.int .i64 x.f3) ∧ w'.cell? ⟨w2.heap.size, 4, none⟩ = some (.slice a x.f4.length c) ∧ w'.cell? ⟨wr.heap.size, 0, none⟩ = some (.int .i64 e.f0) ∧ w'.cell? ⟨wr.heap.size, 1, none⟩ = some (.int .i64 e.f1) ∧ w'.cell? ⟨wr.heap.size, 2, none⟩ = some (.int .i64 e.f2) ∧ w'.cell? ⟨wr.heap.size, 3, none⟩ = some (.int .i64 e.f3) ∧ w'.cell? ⟨wr.heap.size, 4, none⟩ = some (.string e.f4) ∧ w'.cell? ⟨wr.heap.size, 5, none⟩ = some (.int .i64 e.f5) ∧ w'.cell? ⟨wr.heap.size, 6, none⟩ = some (.bool e.f6) ∧ w'.cell? ⟨wr.heap.size, 7, none⟩ = some (.int .i64 e.f7) from ⟨(BA.below hb hzP) 0 _ rfl, (BA.below hb hzP) 1 _ rfl, (BA.below hb hzP) 2 _ rfl, (BA.below hb hzP) 3 _ rfl, (BA.below hb hzP) 4 _ rfl, (BX.below hb hzF) 0 _ rfl, (BX.below hb hzF) 1 _ rfl, (BX.below hb hzF) 2 _ rfl, (BX.below hb hzF) 3 _ rfl, (BX.below hb hzF) 4 _ rfl, (BX.below hb hzF) 5 _ rfl, (BX.below hb hzF) 6 _ rfl, (BX.below hb hzF) 7 _ rfl⟩))
          have HC := Lib.hid (show Below W.heap.size W W.drew from (Below.refl _ _).drew)
          refine wp_region_held_drew (S := (fun w' => w'.cell? ⟨w2.heap.size, 0, none⟩ = some (.int .i64 x.f0) ∧ w'.cell? ⟨w2.heap.size, 1, none⟩ = some (.int .i64 x.f1) ∧ w'.cell? ⟨w2.heap.size, 2, none⟩ = some (.int .i64 x.f2) ∧ w'.cell? ⟨w2.heap.size, 3, none⟩ = some (.int .i64 x.f3) ∧ w'.cell? ⟨w2.heap.size, 4, none⟩ = some (.slice a x.f4.length c) ∧ w'.cell? ⟨wr.heap.size, 0, none⟩ = some (.int .i64 e.f0) ∧ w'.cell? ⟨wr.heap.size, 1, none⟩ = some (.int .i64 e.f1) ∧ w'.cell? ⟨wr.heap.size, 2, none⟩ = some (.int .i64 e.f2) ∧ w'.cell? ⟨wr.heap.size, 3, none⟩ = some (.int .i64 e.f3) ∧ w'.cell? ⟨wr.heap.size, 4, none⟩ = some (.string e.f4) ∧ w'.cell? ⟨wr.heap.size, 5, none⟩ = some (.int .i64 e.f5) ∧ w'.cell? ⟨wr.heap.size, 6, none⟩ = some (.bool e.f6) ∧ w'.cell? ⟨wr.heap.size, 7, none⟩ = some (.int .i64 e.f7))) (by kernel_rfl) (KS.out _ HC.out) (fun hHeld => ?_)
          refine wpAnyH_take (i := 0) (oi := { dst := some 47, op := Op.move (Operand.tmp 15), type := 4, pos := "l12_discs.go:222", after := #[], guard := none }) (v := ?_) rfl (by kernel_rfl) (by kernel_rfl) (by kernel_rfl) (fun _ _ _ h => h) (Or.inl ⟨by rfl, ?hy⟩) hHeld ?_
          case hy => (intro w' hSw; (try dsimp only at hSw); go_simp; try with_reducible rfl)
          simp only [Act.put, List.setIfInBounds_toArray, List.set_cons_zero, List.set_cons_succ]
          refine wpAnyH_take (i := 1) (oi := { dst := some 48, op := Op.unOp UnOp.not 4 (Operand.tmp 47), type := 4, pos := "l12_discs.go:222", after := #[{ on := 0, ground := Ground.data }], guard := none }) (v := ?_) rfl (by kernel_rfl) (by kernel_rfl) (by kernel_rfl) (fun _ _ _ h => h) (Or.inl ⟨by rfl, ?hy⟩) hHeld ?_
          case hy => (intro w' hSw; (try dsimp only at hSw); go_simp; try with_reducible rfl)
          simp only [Act.put, List.setIfInBounds_toArray, List.set_cons_zero, List.set_cons_succ]
          refine wpAnyH_take (i := 2) (oi := { dst := some 49, op := Op.move (Operand.tmp 48), type := 4, pos := "l12_discs.go:222", after := #[{ on := 1, ground := Ground.data }], guard := none }) (v := ?_) rfl (by kernel_rfl) (by kernel_rfl) (by kernel_rfl) (fun _ _ _ h => h) (Or.inl ⟨by rfl, ?hy⟩) hHeld ?_
          case hy => (intro w' hSw; (try dsimp only at hSw); go_simp; try with_reducible rfl)
          simp only [Act.put, List.setIfInBounds_toArray, List.set_cons_zero, List.set_cons_succ]
          refine wpAnyH_take (i := 3) (oi := { dst := some 50, op := Op.move (Operand.tmp 13), type := 2, pos := "l12_discs.go:222", after := #[{ on := 2, ground := Ground.guard }], guard := some (2, false) }) (v := ?_) rfl (by kernel_rfl) (by kernel_rfl) (by kernel_rfl) (fun _ _ _ h => h) (Or.inl ⟨by rfl, ?hy⟩) hHeld ?_
          case hy => (intro w' hSw; (try dsimp only at hSw); go_simp; try with_reducible rfl)
          simp only [Act.put, List.setIfInBounds_toArray, List.set_cons_zero, List.set_cons_succ]
          refine wpAnyH_take (i := 4) (oi := { dst := some 51, op := Op.fieldAddr 143 (Operand.tmp 8) 0, type := 0, pos := "l12_discs.go:222", after := #[{ on := 2, ground := Ground.guard }], guard := some (2, false) }) (v := ?_) rfl (by kernel_rfl) (by kernel_rfl) (by kernel_rfl) (fun _ _ _ h => h) (Or.inl ⟨by rfl, ?hy⟩) hHeld ?_
          case hy => (intro w' hSw; (try dsimp only at hSw); go_simp; try with_reducible rfl)
          simp only [Act.put, List.setIfInBounds_toArray, List.set_cons_zero, List.set_cons_succ]
          refine wpAnyH_take (i := 5) (oi := { dst := some 52, op := Op.fieldAddr 141 (Operand.tmp 51) 2, type := 0, pos := "l12_discs.go:222", after := #[{ on := 4, ground := Ground.data }, { on := 2, ground := Ground.guard }], guard := some (2, false) }) (v := ?_) rfl (by kernel_rfl) (by kernel_rfl) (by kernel_rfl) (fun _ _ _ h => h) (Or.inl ⟨by rfl, ?hy⟩) hHeld ?_
          case hy => (intro w' hSw; (try dsimp only at hSw); go_simp; try with_reducible rfl)
          simp only [Act.put, List.setIfInBounds_toArray, List.set_cons_zero, List.set_cons_succ]
          refine wpAnyH_take (i := 6) (oi := { dst := some 53, op := Op.load 2 (Operand.tmp 52), type := 2, pos := "l12_discs.go:222", after := #[{ on := 5, ground := Ground.data }, { on := 2, ground := Ground.guard }], guard := some (2, false) }) (v := ?_) rfl (by kernel_rfl) (by kernel_rfl) (by kernel_rfl) (fun _ _ _ h => h) (Or.inl ⟨by rfl, ?hy⟩) hHeld ?_
          case hy => (intro w' hSw; (try dsimp only at hSw); go_simp; try with_reducible rfl)
          simp only [Act.put, List.setIfInBounds_toArray, List.set_cons_zero, List.set_cons_succ]
          refine wpAnyH_ready (rs := [7]) (by kernel_rfl) (by simp) ?_
          refine AllReadyH.cons (o := { dst := some 54, op := Op.call { callee := Callee.value (Operand.func 98), args := #[Operand.tmp 50, Operand.tmp 53], argTypes := #[2, 2] }, type := 4, pos := "l12_discs.go:222", after := #[{ on := 3, ground := Ground.data }, { on := 6, ground := Ground.data }, { on := 2, ground := Ground.chain }, { on := 2, ground := Ground.guard }], guard := some (2, false) }) rfl (fun K hK => ?_) AllReadyH.nil
          go_simp
          go_at_call 98; refine (PL.out _).mono ?_; rintro e wk1 ⟨rfl, hb1⟩; replace HC := Lib.hid (HC.out.trans (hb1.mono HC.out.size))
          go_wp2_with fail
          refine hK.out _ _ (KS.out _ HC.out) (fun hHeld => ?_)
          clear hK K
          try simp only [Act.put, List.setIfInBounds_toArray, List.set_cons_zero, List.set_cons_succ]
          refine wpAnyH_take (i := 8) (oi := { dst := some 55, op := Op.unOp UnOp.not 4 (Operand.tmp 54), type := 4, pos := "l12_discs.go:222", after := #[{ on := 7, ground := Ground.data }, { on := 2, ground := Ground.guard }], guard := some (2, false) }) (v := ?_) rfl (by kernel_rfl) (by kernel_rfl) (by kernel_rfl) (fun _ _ _ h => h) (Or.inl ⟨by rfl, ?hy⟩) hHeld ?_
          case hy => (intro w' hSw; (try dsimp only at hSw); go_simp; try with_reducible rfl)
          simp only [Act.put, List.setIfInBounds_toArray, List.set_cons_zero, List.set_cons_succ]
          refine wpAnyH_take (i := 9) (oi := { dst := some 56, op := Op.pick (Operand.tmp 49) (Operand.const (Value.bool true)) (Operand.tmp 55), type := 4, pos := "l12_discs.go:222", after := #[{ on := 2, ground := Ground.data }, { on := 8, ground := Ground.data }], guard := none }) (v := ?_) rfl (by kernel_rfl) (by kernel_rfl) (by kernel_rfl) (fun _ _ _ h => h) (Or.inl ⟨by rfl, ?hy⟩) hHeld ?_
          case hy => (intro w' hSw; (try dsimp only at hSw); go_simp; try with_reducible rfl)
          simp only [Act.put, List.setIfInBounds_toArray, List.set_cons_zero, List.set_cons_succ]
          refine wpAnyH_take (i := 10) (oi := { dst := some 57, op := Op.move (Operand.tmp 56), type := 4, pos := "l12_discs.go:222", after := #[{ on := 9, ground := Ground.data }, { on := 7, ground := Ground.chain }], guard := none }) (v := ?_) rfl (by kernel_rfl) (by kernel_rfl) (by kernel_rfl) (fun _ _ _ h => h) (Or.inl ⟨by rfl, ?hy⟩) hHeld ?_
          case hy => (intro w' hSw; (try dsimp only at hSw); go_simp; try with_reducible rfl)
          simp only [Act.put, List.setIfInBounds_toArray, List.set_cons_zero, List.set_cons_succ]
          refine wpAnyH_take (i := 11) (oi := { dst := some 58, op := Op.load 133 (Operand.tmp 12), type := 133, pos := "l12_discs.go:222", after := #[{ on := 10, ground := Ground.guard }], guard := some (10, false) }) (v := undef) rfl (by kernel_rfl) (by kernel_rfl) (by kernel_rfl) (fun _ _ _ h => h) (Or.inr ⟨by rfl, rfl⟩) hHeld ?_
          simp only [Act.put, List.setIfInBounds_toArray, List.set_cons_zero, List.set_cons_succ]
          refine wpAnyH_take (i := 12) (oi := { dst := some 59, op := Op.call { callee := Callee.value (Operand.func 99), args := #[Operand.tmp 58], argTypes := #[133] }, type := 153, pos := "l12_discs.go:222", after := #[{ on := 11, ground := Ground.data }, { on := 10, ground := Ground.chain }, { on := 10, ground := Ground.guard }], guard := some (10, false) }) (v := undef) rfl (by kernel_rfl) (by kernel_rfl) (by kernel_rfl) (fun _ _ _ h => h) (Or.inr ⟨by rfl, rfl⟩) hHeld ?_
          simp only [Act.put, List.setIfInBounds_toArray, List.set_cons_zero, List.set_cons_succ]
          refine wpAnyH_take (i := 13) (oi := { dst := some 60, op := Op.fieldAddr 143 (Operand.tmp 8) 0, type := 0, pos := "l12_discs.go:222", after := #[{ on := 10, ground := Ground.guard }], guard := some (10, false) }) (v := undef) rfl (by kernel_rfl) (by kernel_rfl) (by kernel_rfl) (fun _ _ _ h => h) (Or.inr ⟨by rfl, rfl⟩) hHeld ?_
          simp only [Act.put, List.setIfInBounds_toArray, List.set_cons_zero, List.set_cons_succ]
          refine wpAnyH_take (i := 14) (oi := { dst := some 61, op := Op.load 141 (Operand.tmp 60), type := 141, pos := "l12_discs.go:222", after := #[{ on := 13, ground := Ground.data }, { on := 10, ground := Ground.guard }], guard := some (10, false) }) (v := undef) rfl (by kernel_rfl) (by kernel_rfl) (by kernel_rfl) (fun _ _ _ h => h) (Or.inr ⟨by rfl, rfl⟩) hHeld ?_
          simp only [Act.put, List.setIfInBounds_toArray, List.set_cons_zero, List.set_cons_succ]
          refine wpAnyH_take (i := 15) (oi := { dst := some 62, op := Op.move (Operand.tmp 1), type := 2, pos := "l12_discs.go:222", after := #[{ on := 10, ground := Ground.guard }], guard := some (10, false) }) (v := undef) rfl (by kernel_rfl) (by kernel_rfl) (by kernel_rfl) (fun _ _ _ h => h) (Or.inr ⟨by rfl, rfl⟩) hHeld ?_
          simp only [Act.put, List.setIfInBounds_toArray, List.set_cons_zero, List.set_cons_succ]
          refine wpAnyH_take (i := 16) (oi := { dst := some 63, op := Op.move (Operand.tmp 13), type := 2, pos := "l12_discs.go:222", after := #[{ on := 10, ground := Ground.guard }], guard := some (10, false) }) (v := undef) rfl (by kernel_rfl) (by kernel_rfl) (by kernel_rfl) (fun _ _ _ h => h) (Or.inr ⟨by rfl, rfl⟩) hHeld ?_
          simp only [Act.put, List.setIfInBounds_toArray, List.set_cons_zero, List.set_cons_succ]
          refine wpAnyH_take (i := 17) (oi := { dst := some 64, op := Op.call { callee := Callee.value (Operand.func 100), args := #[Operand.tmp 61, Operand.tmp 62, Operand.tmp 63], argTypes := #[141, 2, 2] }, type := 153, pos := "l12_discs.go:222", after := #[{ on := 14, ground := Ground.data }, { on := 15, ground := Ground.data }, { on := 16, ground := Ground.data }, { on := 12, ground := Ground.chain }, { on := 10, ground := Ground.guard }], guard := some (10, false) }) (v := undef) rfl (by kernel_rfl) (by kernel_rfl) (by kernel_rfl) (fun _ _ _ h => h) (Or.inr ⟨by rfl, rfl⟩) hHeld ?_
          simp only [Act.put, List.setIfInBounds_toArray, List.set_cons_zero, List.set_cons_succ]
          refine wpAnyH_take (i := 18) (oi := { dst := some 65, op := Op.binOp BinOp.neq 153 (Operand.tmp 59) (Operand.tmp 64) 153, type := 4, pos := "l12_discs.go:222", after := #[{ on := 12, ground := Ground.data }, { on := 17, ground := Ground.data }, { on := 10, ground := Ground.guard }], guard := some (10, false) }) (v := undef) rfl (by kernel_rfl) (by kernel_rfl) (by kernel_rfl) (fun _ _ _ h => h) (Or.inr ⟨by rfl, rfl⟩) hHeld ?_
          simp only [Act.put, List.setIfInBounds_toArray, List.set_cons_zero, List.set_cons_succ]
          refine wpAnyH_take (i := 19) (oi := { dst := some 66, op := Op.pick (Operand.tmp 57) (Operand.const (Value.bool true)) (Operand.tmp 65), type := 4, pos := "l12_discs.go:222", after := #[{ on := 10, ground := Ground.data }, { on := 18, ground := Ground.data }], guard := none }) (v := ?_) rfl (by kernel_rfl) (by kernel_rfl) (by kernel_rfl) (fun _ _ _ h => h) (Or.inl ⟨by rfl, ?hy⟩) hHeld ?_
          case hy => (intro w' hSw; (try dsimp only at hSw); go_simp; try with_reducible rfl)
          simp only [Act.put, List.setIfInBounds_toArray, List.set_cons_zero, List.set_cons_succ]
          refine wpAnyH_done (by kernel_rfl) ?_ _
          replace FB := Lib.hid (FB.out.trans (HC.out.mono FB.out.size))
          replace A := Lib.hid (A.out.below HC.out hzP)
          replace R := Lib.hid (R.out.below HC.out hzR)
          replace HO := Lib.hid (HO.out.below HC.out hzG)
          have hzZ := Nat.lt_of_lt_of_le hzP HC.out.size
          clear HC KS hHeld
          go_wp2
          go_roundw
          case rel => exact ⟨k + 1, by omega, by go_num, Lib.hid (by rw [HSC.out, HNO.out]; exact HO.out), A, R, FB.out, hzZ⟩
          case measure => simp [intOf]; omega
        | true =>
          obtain ⟨t0, t1, i0, i1, i2, i3, i4⟩ := HIX.out e hp
          have GA := Lib.hid (fun w => geoAddr_any x.f0 x.f1 x.f2 x.f3 t (e.f2 - 1) w HG.out.1 ⟨t0, t1⟩ (by have := inB_iff.1 hp; omega))
          obtain ⟨r, hr⟩ : ∃ r, adrB x t e = r := ⟨_, rfl⟩
          have HAD := Lib.hid hr
          cases r with
          | false =>
            have HNO := Lib.hid (fil1_no (x := x) (t := t) (es := filK x t l k) (e := e) (by unfold hitB; rw [hq, hp, hr]; rfl))
            clear hq hp hr t0 t1 i0 i1 i2 i3 i4
            have KS := Lib.hid (fun w' (hb : Below W.heap.size W w') => (show w'.cell? ⟨w2.heap.size, 0, none⟩ = some (.int .i64 x.f0) ∧ w'.cell? ⟨w2.heap.size, 1, none⟩ = some (.int .i64 x.f1) ∧ w'.cell? ⟨w2.heap.size, 2, none⟩ = some (.int .i64 x.f2) ∧ w'.cell? ⟨w2.heap.size, 3, none⟩ = some (.int .i64 x.f3) ∧ w'.cell? ⟨w2.heap.size, 4, none⟩ = some (.slice a x.f4.length c) ∧ w'.cell? ⟨wr.heap.size, 0, none⟩ = some (.int .i64 e.f0) ∧ w'.cell? ⟨wr.heap.size, 1, none⟩ = some (.int .i64 e.f1) ∧ w'.cell? ⟨wr.heap.size, 2, none⟩ = some (.int .i64 e.f2) ∧ w'.cell? ⟨wr.heap.size, 3, none⟩ = some (.int .i64 e.f3) ∧ w'.cell? ⟨wr.heap.size, 4, none⟩ = some (.string e.f4) ∧ w'.cell? ⟨wr.heap.size, 5, none⟩ = some (.int .i64 e.f5) ∧ w'.cell? ⟨wr.heap.size, 6, none⟩ = some (.bool e.f6) ∧ w'.cell? ⟨wr.heap.size, 7, none⟩ = some (.int .i64 e.f7) from ⟨(BA.below hb hzP) 0 _ rfl, (BA.below hb hzP) 1 _ rfl, (BA.below hb hzP) 2 _ rfl, (BA.below hb hzP) 3 _ rfl, (BA.below hb hzP) 4 _ rfl, (BX.below hb hzF) 0 _ rfl, (BX.below hb hzF) 1 _ rfl, (BX.below hb hzF) 2 _ rfl, (BX.below hb hzF) 3 _ rfl, (BX.below hb hzF) 4 _ rfl, (BX.below hb hzF) 5 _ rfl, (BX.below hb hzF) 6 _ rfl, (BX.below hb hzF) 7 _ rfl⟩))
            have HC := Lib.hid (show Below W.heap.size W W.drew from (Below.refl _ _).drew)
            refine wp_region_held_drew (S := (fun w' => w'.cell? ⟨w2.heap.size, 0, none⟩ = some (.int .i64 x.f0) ∧ w'.cell? ⟨w2.heap.size, 1, none⟩ = some (.int .i64 x.f1) ∧ w'.cell? ⟨w2.heap.size, 2, none⟩ = some (.int .i64 x.f2) ∧ w'.cell? ⟨w2.heap.size, 3, none⟩ = some (.int .i64 x.f3) ∧ w'.cell? ⟨w2.heap.size, 4, none⟩ = some (.slice a x.f4.length c) ∧ w'.cell? ⟨wr.heap.size, 0, none⟩ = some (.int .i64 e.f0) ∧ w'.cell? ⟨wr.heap.size, 1, none⟩ = some (.int .i64 e.f1) ∧ w'.cell? ⟨wr.heap.size, 2, none⟩ = some (.int .i64 e.f2) ∧ w'.cell? ⟨wr.heap.size, 3, none⟩ = some (.int .i64 e.f3) ∧ w'.cell? ⟨wr.heap.size, 4, none⟩ = some (.string e.f4) ∧ w'.cell? ⟨wr.heap.size, 5, none⟩ = some (.int .i64 e.f5) ∧ w'.cell? ⟨wr.heap.size, 6, none⟩ = some (.bool e.f6) ∧ w'.cell? ⟨wr.heap.size, 7, none⟩ = some (.int .i64 e.f7))) (by kernel_rfl) (KS.out _ HC.out) (fun hHeld => ?_)
            refine wpAnyH_take (i := 0) (oi := { dst := some 47, op := Op.move (Operand.tmp 15), type := 4, pos := "l12_discs.go:222", after := #[], guard := none }) (v := ?_) rfl (by kernel_rfl) (by kernel_rfl) (by kernel_rfl) (fun _ _ _ h => h) (Or.inl ⟨by rfl, ?hy⟩) hHeld ?_
            case hy => (intro w' hSw; (try dsimp only at hSw); go_simp; try with_reducible rfl)
            simp only [Act.put, List.setIfInBounds_toArray, List.set_cons_zero, List.set_cons_succ]
            refine wpAnyH_take (i := 1) (oi := { dst := some 48, op := Op.unOp UnOp.not 4 (Operand.tmp 47), type := 4, pos := "l12_discs.go:222", after := #[{ on := 0, ground := Ground.data }], guard := none }) (v := ?_) rfl (by kernel_rfl) (by kernel_rfl) (by kernel_rfl) (fun _ _ _ h => h) (Or.inl ⟨by rfl, ?hy⟩) hHeld ?_
            case hy => (intro w' hSw; (try dsimp only at hSw); go_simp; try with_reducible rfl)
            simp only [Act.put, List.setIfInBounds_toArray, List.set_cons_zero, List.set_cons_succ]
            refine wpAnyH_take (i := 2) (oi := { dst := some 49, op := Op.move (Operand.tmp 48), type := 4, pos := "l12_discs.go:222", after := #[{ on := 1, ground := Ground.data }], guard := none }) (v := ?_) rfl (by kernel_rfl) (by kernel_rfl) (by kernel_rfl) (fun _ _ _ h => h) (Or.inl ⟨by rfl, ?hy⟩) hHeld ?_
            case hy => (intro w' hSw; (try dsimp only at hSw); go_simp; try with_reducible rfl)
            simp only [Act.put, List.setIfInBounds_toArray, List.set_cons_zero, List.set_cons_succ]
            refine wpAnyH_take (i := 3) (oi := { dst := some 50, op := Op.move (Operand.tmp 13), type := 2, pos := "l12_discs.go:222", after := #[{ on := 2, ground := Ground.guard }], guard := some (2, false) }) (v := ?_) rfl (by kernel_rfl) (by kernel_rfl) (by kernel_rfl) (fun _ _ _ h => h) (Or.inl ⟨by rfl, ?hy⟩) hHeld ?_
            case hy => (intro w' hSw; (try dsimp only at hSw); go_simp; try with_reducible rfl)
            simp only [Act.put, List.setIfInBounds_toArray, List.set_cons_zero, List.set_cons_succ]
            refine wpAnyH_take (i := 4) (oi := { dst := some 51, op := Op.fieldAddr 143 (Operand.tmp 8) 0, type := 0, pos := "l12_discs.go:222", after := #[{ on := 2, ground := Ground.guard }], guard := some (2, false) }) (v := ?_) rfl (by kernel_rfl) (by kernel_rfl) (by kernel_rfl) (fun _ _ _ h => h) (Or.inl ⟨by rfl, ?hy⟩) hHeld ?_
            case hy => (intro w' hSw; (try dsimp only at hSw); go_simp; try with_reducible rfl)
            simp only [Act.put, List.setIfInBounds_toArray, List.set_cons_zero, List.set_cons_succ]
            refine wpAnyH_take (i := 5) (oi := { dst := some 52, op := Op.fieldAddr 141 (Operand.tmp 51) 2, type := 0, pos := "l12_discs.go:222", after := #[{ on := 4, ground := Ground.data }, { on := 2, ground := Ground.guard }], guard := some (2, false) }) (v := ?_) rfl (by kernel_rfl) (by kernel_rfl) (by kernel_rfl) (fun _ _ _ h => h) (Or.inl ⟨by rfl, ?hy⟩) hHeld ?_
            case hy => (intro w' hSw; (try dsimp only at hSw); go_simp; try with_reducible rfl)
            simp only [Act.put, List.setIfInBounds_toArray, List.set_cons_zero, List.set_cons_succ]
            refine wpAnyH_take (i := 6) (oi := { dst := some 53, op := Op.load 2 (Operand.tmp 52), type := 2, pos := "l12_discs.go:222", after := #[{ on := 5, ground := Ground.data }, { on := 2, ground := Ground.guard }], guard := some (2, false) }) (v := ?_) rfl (by kernel_rfl) (by kernel_rfl) (by kernel_rfl) (fun _ _ _ h => h) (Or.inl ⟨by rfl, ?hy⟩) hHeld ?_
            case hy => (intro w' hSw; (try dsimp only at hSw); go_simp; try with_reducible rfl)
            simp only [Act.put, List.setIfInBounds_toArray, List.set_cons_zero, List.set_cons_succ]
            refine wpAnyH_ready (rs := [7]) (by kernel_rfl) (by simp) ?_
            refine AllReadyH.cons (o := { dst := some 54, op := Op.call { callee := Callee.value (Operand.func 98), args := #[Operand.tmp 50, Operand.tmp 53], argTypes := #[2, 2] }, type := 4, pos := "l12_discs.go:222", after := #[{ on := 3, ground := Ground.data }, { on := 6, ground := Ground.data }, { on := 2, ground := Ground.chain }, { on := 2, ground := Ground.guard }], guard := some (2, false) }) rfl (fun K hK => ?_) AllReadyH.nil
            go_simp
            go_at_call 98; refine (PL.out _).mono ?_; rintro e wk1 ⟨rfl, hb1⟩; replace HC := Lib.hid (HC.out.trans (hb1.mono HC.out.size))
            go_wp2_with fail
            refine hK.out _ _ (KS.out _ HC.out) (fun hHeld => ?_)
            clear hK K
            try simp only [Act.put, List.setIfInBounds_toArray, List.set_cons_zero, List.set_cons_succ]
            refine wpAnyH_take (i := 8) (oi := { dst := some 55, op := Op.unOp UnOp.not 4 (Operand.tmp 54), type := 4, pos := "l12_discs.go:222", after := #[{ on := 7, ground := Ground.data }, { on := 2, ground := Ground.guard }], guard := some (2, false) }) (v := ?_) rfl (by kernel_rfl) (by kernel_rfl) (by kernel_rfl) (fun _ _ _ h => h) (Or.inl ⟨by rfl, ?hy⟩) hHeld ?_
            case hy => (intro w' hSw; (try dsimp only at hSw); go_simp; try with_reducible rfl)
            simp only [Act.put, List.setIfInBounds_toArray, List.set_cons_zero, List.set_cons_succ]
            refine wpAnyH_take (i := 9) (oi := { dst := some 56, op := Op.pick (Operand.tmp 49) (Operand.const (Value.bool true)) (Operand.tmp 55), type := 4, pos := "l12_discs.go:222", after := #[{ on := 2, ground := Ground.data }, { on := 8, ground := Ground.data }], guard := none }) (v := ?_) rfl (by kernel_rfl) (by kernel_rfl) (by kernel_rfl) (fun _ _ _ h => h) (Or.inl ⟨by rfl, ?hy⟩) hHeld ?_
            case hy => (intro w' hSw; (try dsimp only at hSw); go_simp; try with_reducible rfl)
            simp only [Act.put, List.setIfInBounds_toArray, List.set_cons_zero, List.set_cons_succ]
            refine wpAnyH_take (i := 10) (oi := { dst := some 57, op := Op.move (Operand.tmp 56), type := 4, pos := "l12_discs.go:222", after := #[{ on := 9, ground := Ground.data }, { on := 7, ground := Ground.chain }], guard := none }) (v := ?_) rfl (by kernel_rfl) (by kernel_rfl) (by kernel_rfl) (fun _ _ _ h => h) (Or.inl ⟨by rfl, ?hy⟩) hHeld ?_
            case hy => (intro w' hSw; (try dsimp only at hSw); go_simp; try with_reducible rfl)
            simp only [Act.put, List.setIfInBounds_toArray, List.set_cons_zero, List.set_cons_succ]
            refine wpAnyH_take (i := 11) (oi := { dst := some 58, op := Op.load 133 (Operand.tmp 12), type := 133, pos := "l12_discs.go:222", after := #[{ on := 10, ground := Ground.guard }], guard := some (10, false) }) (v := ?_) rfl (by kernel_rfl) (by kernel_rfl) (by kernel_rfl) (fun _ _ _ h => h) (Or.inl ⟨by rfl, ?hy⟩) hHeld ?_
            case hy => (intro w' hSw; (try dsimp only at hSw); go_simp; try with_reducible rfl)
            simp only [Act.put, List.setIfInBounds_toArray, List.set_cons_zero, List.set_cons_succ]
            refine wpAnyH_take (i := 13) (oi := { dst := some 60, op := Op.fieldAddr 143 (Operand.tmp 8) 0, type := 0, pos := "l12_discs.go:222", after := #[{ on := 10, ground := Ground.guard }], guard := some (10, false) }) (v := ?_) rfl (by kernel_rfl) (by kernel_rfl) (by kernel_rfl) (fun _ _ _ h => h) (Or.inl ⟨by rfl, ?hy⟩) hHeld ?_
            case hy => (intro w' hSw; (try dsimp only at hSw); go_simp; try with_reducible rfl)
            simp only [Act.put, List.setIfInBounds_toArray, List.set_cons_zero, List.set_cons_succ]
            refine wpAnyH_take (i := 14) (oi := { dst := some 61, op := Op.load 141 (Operand.tmp 60), type := 141, pos := "l12_discs.go:222", after := #[{ on := 13, ground := Ground.data }, { on := 10, ground := Ground.guard }], guard := some (10, false) }) (v := ?_) rfl (by kernel_rfl) (by kernel_rfl) (by kernel_rfl) (fun _ _ _ h => h) (Or.inl ⟨by rfl, ?hy⟩) hHeld ?_
            case hy => (intro w' hSw; (try dsimp only at hSw); go_simp; try with_reducible rfl)
            simp only [Act.put, List.setIfInBounds_toArray, List.set_cons_zero, List.set_cons_succ]
            refine wpAnyH_take (i := 15) (oi := { dst := some 62, op := Op.move (Operand.tmp 1), type := 2, pos := "l12_discs.go:222", after := #[{ on := 10, ground := Ground.guard }], guard := some (10, false) }) (v := ?_) rfl (by kernel_rfl) (by kernel_rfl) (by kernel_rfl) (fun _ _ _ h => h) (Or.inl ⟨by rfl, ?hy⟩) hHeld ?_
            case hy => (intro w' hSw; (try dsimp only at hSw); go_simp; try with_reducible rfl)
            simp only [Act.put, List.setIfInBounds_toArray, List.set_cons_zero, List.set_cons_succ]
            refine wpAnyH_take (i := 16) (oi := { dst := some 63, op := Op.move (Operand.tmp 13), type := 2, pos := "l12_discs.go:222", after := #[{ on := 10, ground := Ground.guard }], guard := some (10, false) }) (v := ?_) rfl (by kernel_rfl) (by kernel_rfl) (by kernel_rfl) (fun _ _ _ h => h) (Or.inl ⟨by rfl, ?hy⟩) hHeld ?_
            case hy => (intro w' hSw; (try dsimp only at hSw); go_simp; try with_reducible rfl)
            simp only [Act.put, List.setIfInBounds_toArray, List.set_cons_zero, List.set_cons_succ]
            refine wpAnyH_ready (rs := [12]) (by kernel_rfl) (by simp) ?_
            refine AllReadyH.cons (o := { dst := some 59, op := Op.call { callee := Callee.value (Operand.func 99), args := #[Operand.tmp 58], argTypes := #[133] }, type := 153, pos := "l12_discs.go:222", after := #[{ on := 11, ground := Ground.data }, { on := 10, ground := Ground.chain }, { on := 10, ground := Ground.guard }], guard := some (10, false) }) rfl (fun K hK => ?_) AllReadyH.nil
            go_simp
            go_at_call 99; refine (FA.out _).mono ?_; rintro e wk2 ⟨rfl, hb2⟩; replace HC := Lib.hid (HC.out.trans (hb2.mono HC.out.size))
            go_wp2_with fail
            refine hK.out _ _ (KS.out _ HC.out) (fun hHeld => ?_)
            clear hK K
            try simp only [Act.put, List.setIfInBounds_toArray, List.set_cons_zero, List.set_cons_succ]
            refine wpAnyH_ready (rs := [17]) (by kernel_rfl) (by simp) ?_
            refine AllReadyH.cons (o := { dst := some 64, op := Op.call { callee := Callee.value (Operand.func 100), args := #[Operand.tmp 61, Operand.tmp 62, Operand.tmp 63], argTypes := #[141, 2, 2] }, type := 153, pos := "l12_discs.go:222", after := #[{ on := 14, ground := Ground.data }, { on := 15, ground := Ground.data }, { on := 16, ground := Ground.data }, { on := 12, ground := Ground.chain }, { on := 10, ground := Ground.guard }], guard := some (10, false) }) rfl (fun K hK => ?_) AllReadyH.nil
            go_simp
            go_at_call 100; refine (GA.out _).mono ?_; rintro e wk3 ⟨rfl, hb3⟩; replace HC := Lib.hid (HC.out.trans (hb3.mono HC.out.size))
            go_wp2_with fail
            refine hK.out _ _ (KS.out _ HC.out) (fun hHeld => ?_)
            clear hK K
            try simp only [Act.put, List.setIfInBounds_toArray, List.set_cons_zero, List.set_cons_succ]
            refine wpAnyH_take (i := 18) (oi := { dst := some 65, op := Op.binOp BinOp.neq 153 (Operand.tmp 59) (Operand.tmp 64) 153, type := 4, pos := "l12_discs.go:222", after := #[{ on := 12, ground := Ground.data }, { on := 17, ground := Ground.data }, { on := 10, ground := Ground.guard }], guard := some (10, false) }) (v := .bool true) rfl (by kernel_rfl) (by kernel_rfl) (by kernel_rfl) (fun _ _ _ h => h) (Or.inl ⟨by rfl, ?hy⟩) hHeld ?_
            case hy => (intro w' hSw; (try dsimp only at hSw); go_simp; have hh := HAD.out; unfold adrB at hh; by_cases k0 : e.f0 = quoI t x.f1 <;> by_cases k1 : e.f1 = remI t x.f1 <;> by_cases k3 : e.f3 = x.f3 <;> simp [k0, k1, k3] at hh ⊢)
            simp only [Act.put, List.setIfInBounds_toArray, List.set_cons_zero, List.set_cons_succ]
            refine wpAnyH_take (i := 19) (oi := { dst := some 66, op := Op.pick (Operand.tmp 57) (Operand.const (Value.bool true)) (Operand.tmp 65), type := 4, pos := "l12_discs.go:222", after := #[{ on := 10, ground := Ground.data }, { on := 18, ground := Ground.data }], guard := none }) (v := ?_) rfl (by kernel_rfl) (by kernel_rfl) (by kernel_rfl) (fun _ _ _ h => h) (Or.inl ⟨by rfl, ?hy⟩) hHeld ?_
            case hy => (intro w' hSw; (try dsimp only at hSw); go_simp; try with_reducible rfl)
            simp only [Act.put, List.setIfInBounds_toArray, List.set_cons_zero, List.set_cons_succ]
            refine wpAnyH_done (by kernel_rfl) ?_ _
            replace FB := Lib.hid (FB.out.trans (HC.out.mono FB.out.size))
            replace A := Lib.hid (A.out.below HC.out hzP)
            replace R := Lib.hid (R.out.below HC.out hzR)
            replace HO := Lib.hid (HO.out.below HC.out hzG)
            have hzZ := Nat.lt_of_lt_of_le hzP HC.out.size
            clear HC KS hHeld
            go_wp2
            go_roundw
            case rel => exact ⟨k + 1, by omega, by go_num, Lib.hid (by rw [HSC.out, HNO.out]; exact HO.out), A, R, FB.out, hzZ⟩
            case measure => simp [intOf]; omega
          | true =>
            have hhit : hitB x t e = true := by unfold hitB; rw [hq, hp, hr]; rfl
            obtain ⟨m, hm9⟩ : ∃ m : Nat, ixF x t e = (m : Int) := ⟨(ixF x t e).toNat, by omega⟩
            have IX := Lib.hid (fun w => index_any x.f0 x.f1 x.f2 x.f3 t (e.f2 - 1) w (by unfold wrap64; omega) (by have h := i4; have h' := i2; unfold ixF at h h'; unfold wrap64; omega))
            rw [show t * x.f2 + (e.f2 - 1) = (m : Int) from hm9] at IX
            have hml : m < (filK x t l k).length := by rw [filK_len]; omega
            obtain ⟨o, ho⟩ : ∃ o, (filK x t l k)[m]? = some o := ⟨_, List.getElem?_eq_getElem hml⟩
            have hat := fil1_at hhit hm9 ho
            have hix : (m : Int) < (x.f4.length : Int) := by rw [← hm9]; exact i3
            have IB := Lib.hid (fun w => isBetter_any (entV e) o w)
            have HML := Lib.hid hml
            have HOO := Lib.hid ho
            obtain ⟨u, hu⟩ : ∃ u, betB (entV e) o = u := ⟨_, rfl⟩
            rw [hu] at IB hat
            have HAT := Lib.hid hat
            clear hq hp hr t0 t1 i0 i1 i2 i3 i4 hhit hm9 hml ho hu hat
            have KS := Lib.hid (fun w' (hb : Below W.heap.size W w') => (show w'.cell? ⟨w2.heap.size, 0, none⟩ = some (.int .i64 x.f0) ∧ w'.cell? ⟨w2.heap.size, 1, none⟩ = some (.int .i64 x.f1) ∧ w'.cell? ⟨w2.heap.size, 2, none⟩ = some (.int .i64 x.f2) ∧ w'.cell? ⟨w2.heap.size, 3, none⟩ = some (.int .i64 x.f3) ∧ w'.cell? ⟨w2.heap.size, 4, none⟩ = some (.slice a x.f4.length c) ∧ w'.cell? ⟨wr.heap.size, 0, none⟩ = some (.int .i64 e.f0) ∧ w'.cell? ⟨wr.heap.size, 1, none⟩ = some (.int .i64 e.f1) ∧ w'.cell? ⟨wr.heap.size, 2, none⟩ = some (.int .i64 e.f2) ∧ w'.cell? ⟨wr.heap.size, 3, none⟩ = some (.int .i64 e.f3) ∧ w'.cell? ⟨wr.heap.size, 4, none⟩ = some (.string e.f4) ∧ w'.cell? ⟨wr.heap.size, 5, none⟩ = some (.int .i64 e.f5) ∧ w'.cell? ⟨wr.heap.size, 6, none⟩ = some (.bool e.f6) ∧ w'.cell? ⟨wr.heap.size, 7, none⟩ = some (.int .i64 e.f7) from ⟨(BA.below hb hzP) 0 _ rfl, (BA.below hb hzP) 1 _ rfl, (BA.below hb hzP) 2 _ rfl, (BA.below hb hzP) 3 _ rfl, (BA.below hb hzP) 4 _ rfl, (BX.below hb hzF) 0 _ rfl, (BX.below hb hzF) 1 _ rfl, (BX.below hb hzF) 2 _ rfl, (BX.below hb hzF) 3 _ rfl, (BX.below hb hzF) 4 _ rfl, (BX.below hb hzF) 5 _ rfl, (BX.below hb hzF) 6 _ rfl, (BX.below hb hzF) 7 _ rfl⟩))
            have HC := Lib.hid (show Below W.heap.size W W.drew from (Below.refl _ _).drew)
            refine wp_region_held_drew (S := (fun w' => w'.cell? ⟨w2.heap.size, 0, none⟩ = some (.int .i64 x.f0) ∧ w'.cell? ⟨w2.heap.size, 1, none⟩ = some (.int .i64 x.f1) ∧ w'.cell? ⟨w2.heap.size, 2, none⟩ = some (.int .i64 x.f2) ∧ w'.cell? ⟨w2.heap.size, 3, none⟩ = some (.int .i64 x.f3) ∧ w'.cell? ⟨w2.heap.size, 4, none⟩ = some (.slice a x.f4.length c) ∧ w'.cell? ⟨wr.heap.size, 0, none⟩ = some (.int .i64 e.f0) ∧ w'.cell? ⟨wr.heap.size, 1, none⟩ = some (.int .i64 e.f1) ∧ w'.cell? ⟨wr.heap.size, 2, none⟩ = some (.int .i64 e.f2) ∧ w'.cell? ⟨wr.heap.size, 3, none⟩ = some (.int .i64 e.f3) ∧ w'.cell? ⟨wr.heap.size, 4, none⟩ = some (.string e.f4) ∧ w'.cell? ⟨wr.heap.size, 5, none⟩ = some (.int .i64 e.f5) ∧ w'.cell? ⟨wr.heap.size, 6, none⟩ = some (.bool e.f6) ∧ w'.cell? ⟨wr.heap.size, 7, none⟩ = some (.int .i64 e.f7))) (by kernel_rfl) (KS.out _ HC.out) (fun hHeld => ?_)
            refine wpAnyH_take (i := 0) (oi := { dst := some 47, op := Op.move (Operand.tmp 15), type := 4, pos := "l12_discs.go:222", after := #[], guard := none }) (v := ?_) rfl (by kernel_rfl) (by kernel_rfl) (by kernel_rfl) (fun _ _ _ h => h) (Or.inl ⟨by rfl, ?hy⟩) hHeld ?_
            case hy => (intro w' hSw; (try dsimp only at hSw); go_simp; try with_reducible rfl)
            simp only [Act.put, List.setIfInBounds_toArray, List.set_cons_zero, List.set_cons_succ]
            refine wpAnyH_take (i := 1) (oi := { dst := some 48, op := Op.unOp UnOp.not 4 (Operand.tmp 47), type := 4, pos := "l12_discs.go:222", after := #[{ on := 0, ground := Ground.data }], guard := none }) (v := ?_) rfl (by kernel_rfl) (by kernel_rfl) (by kernel_rfl) (fun _ _ _ h => h) (Or.inl ⟨by rfl, ?hy⟩) hHeld ?_
            case hy => (intro w' hSw; (try dsimp only at hSw); go_simp; try with_reducible rfl)
            simp only [Act.put, List.setIfInBounds_toArray, List.set_cons_zero, List.set_cons_succ]
            refine wpAnyH_take (i := 2) (oi := { dst := some 49, op := Op.move (Operand.tmp 48), type := 4, pos := "l12_discs.go:222", after := #[{ on := 1, ground := Ground.data }], guard := none }) (v := ?_) rfl (by kernel_rfl) (by kernel_rfl) (by kernel_rfl) (fun _ _ _ h => h) (Or.inl ⟨by rfl, ?hy⟩) hHeld ?_
            case hy => (intro w' hSw; (try dsimp only at hSw); go_simp; try with_reducible rfl)
            simp only [Act.put, List.setIfInBounds_toArray, List.set_cons_zero, List.set_cons_succ]
            refine wpAnyH_take (i := 3) (oi := { dst := some 50, op := Op.move (Operand.tmp 13), type := 2, pos := "l12_discs.go:222", after := #[{ on := 2, ground := Ground.guard }], guard := some (2, false) }) (v := ?_) rfl (by kernel_rfl) (by kernel_rfl) (by kernel_rfl) (fun _ _ _ h => h) (Or.inl ⟨by rfl, ?hy⟩) hHeld ?_
            case hy => (intro w' hSw; (try dsimp only at hSw); go_simp; try with_reducible rfl)
            simp only [Act.put, List.setIfInBounds_toArray, List.set_cons_zero, List.set_cons_succ]
            refine wpAnyH_take (i := 4) (oi := { dst := some 51, op := Op.fieldAddr 143 (Operand.tmp 8) 0, type := 0, pos := "l12_discs.go:222", after := #[{ on := 2, ground := Ground.guard }], guard := some (2, false) }) (v := ?_) rfl (by kernel_rfl) (by kernel_rfl) (by kernel_rfl) (fun _ _ _ h => h) (Or.inl ⟨by rfl, ?hy⟩) hHeld ?_
            case hy => (intro w' hSw; (try dsimp only at hSw); go_simp; try with_reducible rfl)
            simp only [Act.put, List.setIfInBounds_toArray, List.set_cons_zero, List.set_cons_succ]
            refine wpAnyH_take (i := 5) (oi := { dst := some 52, op := Op.fieldAddr 141 (Operand.tmp 51) 2, type := 0, pos := "l12_discs.go:222", after := #[{ on := 4, ground := Ground.data }, { on := 2, ground := Ground.guard }], guard := some (2, false) }) (v := ?_) rfl (by kernel_rfl) (by kernel_rfl) (by kernel_rfl) (fun _ _ _ h => h) (Or.inl ⟨by rfl, ?hy⟩) hHeld ?_
            case hy => (intro w' hSw; (try dsimp only at hSw); go_simp; try with_reducible rfl)
            simp only [Act.put, List.setIfInBounds_toArray, List.set_cons_zero, List.set_cons_succ]
            refine wpAnyH_take (i := 6) (oi := { dst := some 53, op := Op.load 2 (Operand.tmp 52), type := 2, pos := "l12_discs.go:222", after := #[{ on := 5, ground := Ground.data }, { on := 2, ground := Ground.guard }], guard := some (2, false) }) (v := ?_) rfl (by kernel_rfl) (by kernel_rfl) (by kernel_rfl) (fun _ _ _ h => h) (Or.inl ⟨by rfl, ?hy⟩) hHeld ?_
            case hy => (intro w' hSw; (try dsimp only at hSw); go_simp; try with_reducible rfl)
            simp only [Act.put, List.setIfInBounds_toArray, List.set_cons_zero, List.set_cons_succ]
            refine wpAnyH_ready (rs := [7]) (by kernel_rfl) (by simp) ?_
            refine AllReadyH.cons (o := { dst := some 54, op := Op.call { callee := Callee.value (Operand.func 98), args := #[Operand.tmp 50, Operand.tmp 53], argTypes := #[2, 2] }, type := 4, pos := "l12_discs.go:222", after := #[{ on := 3, ground := Ground.data }, { on := 6, ground := Ground.data }, { on := 2, ground := Ground.chain }, { on := 2, ground := Ground.guard }], guard := some (2, false) }) rfl (fun K hK => ?_) AllReadyH.nil
            go_simp
            go_at_call 98; refine (PL.out _).mono ?_; rintro e wk1 ⟨rfl, hb1⟩; replace HC := Lib.hid (HC.out.trans (hb1.mono HC.out.size))
            go_wp2_with fail
            refine hK.out _ _ (KS.out _ HC.out) (fun hHeld => ?_)
            clear hK K
            try simp only [Act.put, List.setIfInBounds_toArray, List.set_cons_zero, List.set_cons_succ]
            refine wpAnyH_take (i := 8) (oi := { dst := some 55, op := Op.unOp UnOp.not 4 (Operand.tmp 54), type := 4, pos := "l12_discs.go:222", after := #[{ on := 7, ground := Ground.data }, { on := 2, ground := Ground.guard }], guard := some (2, false) }) (v := ?_) rfl (by kernel_rfl) (by kernel_rfl) (by kernel_rfl) (fun _ _ _ h => h) (Or.inl ⟨by rfl, ?hy⟩) hHeld ?_
            case hy => (intro w' hSw; (try dsimp only at hSw); go_simp; try with_reducible rfl)
            simp only [Act.put, List.setIfInBounds_toArray, List.set_cons_zero, List.set_cons_succ]
            refine wpAnyH_take (i := 9) (oi := { dst := some 56, op := Op.pick (Operand.tmp 49) (Operand.const (Value.bool true)) (Operand.tmp 55), type := 4, pos := "l12_discs.go:222", after := #[{ on := 2, ground := Ground.data }, { on := 8, ground := Ground.data }], guard := none }) (v := ?_) rfl (by kernel_rfl) (by kernel_rfl) (by kernel_rfl) (fun _ _ _ h => h) (Or.inl ⟨by rfl, ?hy⟩) hHeld ?_
            case hy => (intro w' hSw; (try dsimp only at hSw); go_simp; try with_reducible rfl)
            simp only [Act.put, List.setIfInBounds_toArray, List.set_cons_zero, List.set_cons_succ]
            refine wpAnyH_take (i := 10) (oi := { dst := some 57, op := Op.move (Operand.tmp 56), type := 4, pos := "l12_discs.go:222", after := #[{ on := 9, ground := Ground.data }, { on := 7, ground := Ground.chain }], guard := none }) (v := ?_) rfl (by kernel_rfl) (by kernel_rfl) (by kernel_rfl) (fun _ _ _ h => h) (Or.inl ⟨by rfl, ?hy⟩) hHeld ?_
            case hy => (intro w' hSw; (try dsimp only at hSw); go_simp; try with_reducible rfl)
            simp only [Act.put, List.setIfInBounds_toArray, List.set_cons_zero, List.set_cons_succ]
            refine wpAnyH_take (i := 11) (oi := { dst := some 58, op := Op.load 133 (Operand.tmp 12), type := 133, pos := "l12_discs.go:222", after := #[{ on := 10, ground := Ground.guard }], guard := some (10, false) }) (v := ?_) rfl (by kernel_rfl) (by kernel_rfl) (by kernel_rfl) (fun _ _ _ h => h) (Or.inl ⟨by rfl, ?hy⟩) hHeld ?_
            case hy => (intro w' hSw; (try dsimp only at hSw); go_simp; try with_reducible rfl)
            simp only [Act.put, List.setIfInBounds_toArray, List.set_cons_zero, List.set_cons_succ]
            refine wpAnyH_take (i := 13) (oi := { dst := some 60, op := Op.fieldAddr 143 (Operand.tmp 8) 0, type := 0, pos := "l12_discs.go:222", after := #[{ on := 10, ground := Ground.guard }], guard := some (10, false) }) (v := ?_) rfl (by kernel_rfl) (by kernel_rfl) (by kernel_rfl) (fun _ _ _ h => h) (Or.inl ⟨by rfl, ?hy⟩) hHeld ?_
            case hy => (intro w' hSw; (try dsimp only at hSw); go_simp; try with_reducible rfl)
            simp only [Act.put, List.setIfInBounds_toArray, List.set_cons_zero, List.set_cons_succ]
            refine wpAnyH_take (i := 14) (oi := { dst := some 61, op := Op.load 141 (Operand.tmp 60), type := 141, pos := "l12_discs.go:222", after := #[{ on := 13, ground := Ground.data }, { on := 10, ground := Ground.guard }], guard := some (10, false) }) (v := ?_) rfl (by kernel_rfl) (by kernel_rfl) (by kernel_rfl) (fun _ _ _ h => h) (Or.inl ⟨by rfl, ?hy⟩) hHeld ?_
            case hy => (intro w' hSw; (try dsimp only at hSw); go_simp; try with_reducible rfl)
            simp only [Act.put, List.setIfInBounds_toArray, List.set_cons_zero, List.set_cons_succ]
            refine wpAnyH_take (i := 15) (oi := { dst := some 62, op := Op.move (Operand.tmp 1), type := 2, pos := "l12_discs.go:222", after := #[{ on := 10, ground := Ground.guard }], guard := some (10, false) }) (v := ?_) rfl (by kernel_rfl) (by kernel_rfl) (by kernel_rfl) (fun _ _ _ h => h) (Or.inl ⟨by rfl, ?hy⟩) hHeld ?_
            case hy => (intro w' hSw; (try dsimp only at hSw); go_simp; try with_reducible rfl)
            simp only [Act.put, List.setIfInBounds_toArray, List.set_cons_zero, List.set_cons_succ]
            refine wpAnyH_take (i := 16) (oi := { dst := some 63, op := Op.move (Operand.tmp 13), type := 2, pos := "l12_discs.go:222", after := #[{ on := 10, ground := Ground.guard }], guard := some (10, false) }) (v := ?_) rfl (by kernel_rfl) (by kernel_rfl) (by kernel_rfl) (fun _ _ _ h => h) (Or.inl ⟨by rfl, ?hy⟩) hHeld ?_
            case hy => (intro w' hSw; (try dsimp only at hSw); go_simp; try with_reducible rfl)
            simp only [Act.put, List.setIfInBounds_toArray, List.set_cons_zero, List.set_cons_succ]
            refine wpAnyH_ready (rs := [12]) (by kernel_rfl) (by simp) ?_
            refine AllReadyH.cons (o := { dst := some 59, op := Op.call { callee := Callee.value (Operand.func 99), args := #[Operand.tmp 58], argTypes := #[133] }, type := 153, pos := "l12_discs.go:222", after := #[{ on := 11, ground := Ground.data }, { on := 10, ground := Ground.chain }, { on := 10, ground := Ground.guard }], guard := some (10, false) }) rfl (fun K hK => ?_) AllReadyH.nil
            go_simp
            go_at_call 99; refine (FA.out _).mono ?_; rintro e wk2 ⟨rfl, hb2⟩; replace HC := Lib.hid (HC.out.trans (hb2.mono HC.out.size))
            go_wp2_with fail
            refine hK.out _ _ (KS.out _ HC.out) (fun hHeld => ?_)
            clear hK K
            try simp only [Act.put, List.setIfInBounds_toArray, List.set_cons_zero, List.set_cons_succ]
            refine wpAnyH_ready (rs := [17]) (by kernel_rfl) (by simp) ?_
            refine AllReadyH.cons (o := { dst := some 64, op := Op.call { callee := Callee.value (Operand.func 100), args := #[Operand.tmp 61, Operand.tmp 62, Operand.tmp 63], argTypes := #[141, 2, 2] }, type := 153, pos := "l12_discs.go:222", after := #[{ on := 14, ground := Ground.data }, { on := 15, ground := Ground.data }, { on := 16, ground := Ground.data }, { on := 12, ground := Ground.chain }, { on := 10, ground := Ground.guard }], guard := some (10, false) }) rfl (fun K hK => ?_) AllReadyH.nil
            go_simp
            go_at_call 100; refine (GA.out _).mono ?_; rintro e wk3 ⟨rfl, hb3⟩; replace HC := Lib.hid (HC.out.trans (hb3.mono HC.out.size))
            go_wp2_with fail
            refine hK.out _ _ (KS.out _ HC.out) (fun hHeld => ?_)
            clear hK K
            try simp only [Act.put, List.setIfInBounds_toArray, List.set_cons_zero, List.set_cons_succ]
            refine wpAnyH_take (i := 18) (oi := { dst := some 65, op := Op.binOp BinOp.neq 153 (Operand.tmp 59) (Operand.tmp 64) 153, type := 4, pos := "l12_discs.go:222", after := #[{ on := 12, ground := Ground.data }, { on := 17, ground := Ground.data }, { on := 10, ground := Ground.guard }], guard := some (10, false) }) (v := .bool false) rfl (by kernel_rfl) (by kernel_rfl) (by kernel_rfl) (fun _ _ _ h => h) (Or.inl ⟨by rfl, ?hy⟩) hHeld ?_
            case hy => (intro w' hSw; (try dsimp only at hSw); go_simp; have hh := HAD.out; unfold adrB at hh; by_cases k0 : e.f0 = quoI t x.f1 <;> by_cases k1 : e.f1 = remI t x.f1 <;> by_cases k3 : e.f3 = x.f3 <;> simp [k0, k1, k3] at hh ⊢)
            simp only [Act.put, List.setIfInBounds_toArray, List.set_cons_zero, List.set_cons_succ]
            refine wpAnyH_take (i := 19) (oi := { dst := some 66, op := Op.pick (Operand.tmp 57) (Operand.const (Value.bool true)) (Operand.tmp 65), type := 4, pos := "l12_discs.go:222", after := #[{ on := 10, ground := Ground.data }, { on := 18, ground := Ground.data }], guard := none }) (v := ?_) rfl (by kernel_rfl) (by kernel_rfl) (by kernel_rfl) (fun _ _ _ h => h) (Or.inl ⟨by rfl, ?hy⟩) hHeld ?_
            case hy => (intro w' hSw; (try dsimp only at hSw); go_simp; try with_reducible rfl)
            simp only [Act.put, List.setIfInBounds_toArray, List.set_cons_zero, List.set_cons_succ]
            refine wpAnyH_done (by kernel_rfl) ?_ _
            replace FB := Lib.hid (FB.out.trans (HC.out.mono FB.out.size))
            replace A := Lib.hid (A.out.below HC.out hzP)
            replace R := Lib.hid (R.out.below HC.out hzR)
            replace HO := Lib.hid (HO.out.below HC.out hzG)
            replace BS := Lib.hid (BS.below HC.out hzS)
            have hzZ := Nat.lt_of_lt_of_le hzP HC.out.size
            have hzY := HC.out.size
            clear HC KS hHeld
            obtain ⟨a0, z0⟩ := A.out 0 _ rfl; obtain ⟨a1, z1⟩ := A.out 1 _ rfl; obtain ⟨a2, z2⟩ := A.out 2 _ rfl; obtain ⟨a3, z3⟩ := A.out 3 _ rfl; obtain ⟨a4, z4⟩ := A.out 4 _ rfl
            go_wp2_with fail
            refine (IX.out _).mono ?_
            rintro e_ w6 ⟨rfl, hb6⟩
            clear a0 z0 a1 z1 a2 z2 a3 z3 a4 z4
            replace A := Lib.hid (A.out.below hb6 (by omega))
            replace R := Lib.hid (R.out.below hb6 (by omega))
            replace HO := Lib.hid (HO.out.below hb6 (by omega))
            replace BS := Lib.hid (BS.out.below hb6 (by omega))
            replace FB := Lib.hid (FB.out.trans (hb6.mono FB.out.size))
            have hzX := hb6.size
            clear hb6
            go_upto_region 15 with (fail)
            have h6S : w5.heap.size < w6.heap.size := by omega
            have h6G : g < w6.heap.size := HO.out.lt
            have h6P : w2.heap.size < w6.heap.size := by omega
            have hd := HO.out.cell HOO.out
            have hs0 := (BS.out 0 _ rfl).1
            have hs1 := (BS.out 1 _ rfl).1
            have KX := Lib.hid (fun w' (hb : Below w6.heap.size w6 w') => (show w'.cell? ⟨w5.heap.size, 0, none⟩ = some (.string (entV e).f0) ∧ w'.cell? ⟨w5.heap.size, 1, none⟩ = some (.int .i64 (entV e).f1) ∧ w'.cell? ⟨g, m * 2, none⟩ = some (.string o.f0) ∧ w'.cell? ⟨g, m * 2 + 1, none⟩ = some (.int .i64 o.f1) from ⟨((BS.out.below hb h6S) 0 _ rfl).1, ((BS.out.below hb h6S) 1 _ rfl).1, (HO.out.below hb h6G).cell HOO.out⟩))
            have HC := Lib.hid (show Below w6.heap.size w6 w6.drew from (Below.refl _ _).drew)
            clear hd hs0 hs1
            refine wp_region_held_drew (S := (fun w' => w'.cell? ⟨w5.heap.size, 0, none⟩ = some (.string (entV e).f0) ∧ w'.cell? ⟨w5.heap.size, 1, none⟩ = some (.int .i64 (entV e).f1) ∧ w'.cell? ⟨g, m * 2, none⟩ = some (.string o.f0) ∧ w'.cell? ⟨g, m * 2 + 1, none⟩ = some (.int .i64 o.f1))) (by kernel_rfl) (KX.out _ HC.out) (fun hHeld => ?_)
            refine wpAnyH_take (i := 0) (oi := { dst := some 72, op := Op.load 148 (Operand.tmp 14), type := 148, pos := "l12_discs.go:225", after := #[], guard := none }) (v := ?_) rfl (by kernel_rfl) (by kernel_rfl) (by kernel_rfl) (fun _ _ _ h => h) (Or.inl ⟨by rfl, ?hy⟩) hHeld ?_
            case hy => (intro w' hSw; (try dsimp only at hSw); go_simp; try with_reducible rfl)
            simp only [Act.put, List.setIfInBounds_toArray, List.set_cons_zero, List.set_cons_succ]
            refine wpAnyH_take (i := 1) (oi := { dst := some 73, op := Op.move (Operand.tmp 10), type := 28, pos := "l12_discs.go:225", after := #[], guard := none }) (v := ?_) rfl (by kernel_rfl) (by kernel_rfl) (by kernel_rfl) (fun _ _ _ h => h) (Or.inl ⟨by rfl, ?hy⟩) hHeld ?_
            case hy => (intro w' hSw; (try dsimp only at hSw); go_simp; try with_reducible rfl)
            simp only [Act.put, List.setIfInBounds_toArray, List.set_cons_zero, List.set_cons_succ]
            refine wpAnyH_take (i := 2) (oi := { dst := some 74, op := Op.move (Operand.tmp 16), type := 2, pos := "l12_discs.go:225", after := #[], guard := none }) (v := ?_) rfl (by kernel_rfl) (by kernel_rfl) (by kernel_rfl) (fun _ _ _ h => h) (Or.inl ⟨by rfl, ?hy⟩) hHeld ?_
            case hy => (intro w' hSw; (try dsimp only at hSw); go_simp; try with_reducible rfl)
            simp only [Act.put, List.setIfInBounds_toArray, List.set_cons_zero, List.set_cons_succ]
            refine wpAnyH_take (i := 3) (oi := { dst := some 75, op := Op.indexAddr 28 (Operand.tmp 73) (Operand.tmp 74), type := 0, pos := "l12_discs.go:225", after := #[{ on := 1, ground := Ground.data }, { on := 2, ground := Ground.data }], guard := none }) (v := ?_) rfl (by kernel_rfl) (by kernel_rfl) (by kernel_rfl) (fun _ _ _ h => h) (Or.inl ⟨by rfl, ?hy⟩) hHeld ?_
            case hy => (intro w' hSw; (try dsimp only at hSw); go_simp; try with_reducible rfl)
            simp only [Act.put, List.setIfInBounds_toArray, List.set_cons_zero, List.set_cons_succ]
            refine wpAnyH_take (i := 4) (oi := { dst := some 76, op := Op.load 148 (Operand.tmp 75), type := 148, pos := "l12_discs.go:225", after := #[{ on := 3, ground := Ground.data }], guard := none }) (v := ?_) rfl (by kernel_rfl) (by kernel_rfl) (by kernel_rfl) (fun _ _ _ h => h) (Or.inl ⟨by rfl, ?hy⟩) hHeld ?_
            case hy => (intro w' hSw; (try dsimp only at hSw); go_simp; try with_reducible rfl)
            simp only [Act.put, List.setIfInBounds_toArray, List.set_cons_zero, List.set_cons_succ]
            refine wpAnyH_ready (rs := [5]) (by kernel_rfl) (by simp) ?_
            refine AllReadyH.cons (o := { dst := some 77, op := Op.call { callee := Callee.value (Operand.func 102), args := #[Operand.tmp 72, Operand.tmp 76], argTypes := #[148, 148] }, type := 4, pos := "l12_discs.go:225", after := #[{ on := 0, ground := Ground.data }, { on := 4, ground := Ground.data }], guard := none }) rfl (fun K hK => ?_) AllReadyH.nil
            go_simp
            go_at_call 102; refine (IB.out _).mono ?_; rintro e wk1 ⟨rfl, hb1⟩; replace HC := Lib.hid (HC.out.trans (hb1.mono HC.out.size))
            go_wp2_with fail
            refine hK.out _ _ (KX.out _ HC.out) (fun hHeld => ?_)
            clear hK K
            try simp only [Act.put, List.setIfInBounds_toArray, List.set_cons_zero, List.set_cons_succ]
            refine wpAnyH_done (by kernel_rfl) ?_ _
            replace FB := Lib.hid (FB.out.trans (HC.out.mono FB.out.size))
            replace A := Lib.hid (A.out.below HC.out h6P)
            replace R := Lib.hid (R.out.below HC.out (by omega))
            obtain ⟨hs0, hs1, hg0', hg1'⟩ := KX.out _ HC.out
            replace HO := Lib.hid (HO.out.below HC.out h6G)
            have hz7 := HC.out.size
            have hzW : w2.heap.size < wk1.heap.size := by omega
            have hv0 := HO.out.free (m * 2)
            have hv1 := HO.out.free (m * 2 + 1)
            clear HC KX hHeld
            cases u with
            | false =>
              clear hs0 hs1 hg0' hg1' hv0 hv1
              go_wp2
              go_roundw
              case rel => exact ⟨k + 1, by omega, by go_num, Lib.hid (by rw [HSC.out, HAT.out]; simpa using HO.out), A, R, FB.out, hzW⟩
              case measure => simp [intOf]; omega
            | true =>
              have PUT := HO.out.put m (entV e) HML.out
              have HAT2 := HAT.out
              rw [if_pos rfl] at HAT2
              rw [← HAT2, ← HSC.out] at PUT
              have PUT := Lib.hid PUT
              go_wp2
              replace A := Lib.hid (A.out.keepW (fil_other wk1 g (m * 2) (m * 2 + 1) (.string (entV e).f0) (.int .i64 (entV e).f1) w2.heap.size (by omega)))
              replace R := Lib.hid (R.out.keepW (fil_other wk1 g (m * 2) (m * 2 + 1) (.string (entV e).f0) (.int .i64 (entV e).f1) (w.heap.size + 1) (by omega)))
              replace FB := Lib.hid ((FB.out.setCell (p := ⟨g, m * 2, none⟩) (show w.heap.size ≤ g by omega) (.string (entV e).f0)).setCell (p := ⟨g, m * 2 + 1, none⟩) (show w.heap.size ≤ g by omega) (.int .i64 (entV e).f1))
              have hz9 : wk1.heap.size = ((wk1.setCell ⟨g, m * 2, none⟩ (.string (entV e).f0)).setCell ⟨g, m * 2 + 1, none⟩ (.int .i64 (entV e).f1)).heap.size := by simp [World.setCell]
              clear hs0 hs1 hg0' hg1' hv0 hv1 HO BS
              generalize (wk1.setCell ⟨g, m * 2, none⟩ (.string (entV e).f0)).setCell ⟨g, m * 2 + 1, none⟩ (.int .i64 (entV e).f1) = W9 at *
              go_roundw
              case rel => exact ⟨k + 1, by omega, by go_num, PUT, A, R, FB.out, by omega⟩
              case measure => simp [intOf]; omega
    · obtain rfl : k = l.length := by omega
      have hltg : g < wr.heap.size := HO.out.lt
      obtain ⟨a0, z0⟩ := A.out 0 _ rfl; obtain ⟨a1, z1⟩ := A.out 1 _ rfl; obtain ⟨a2, z2⟩ := A.out 2 _ rfl; obtain ⟨a3, z3⟩ := A.out 3 _ rfl; obtain ⟨a4, z4⟩ := A.out 4 _ rfl
      go_wp2_with fail
      refine (DC.out _ _ _).mono ?_
      rintro e_ w5 ⟨rfl, hb5⟩
      clear a0 z0 a1 z1 a2 z2 a3 z3 a4 z4
      replace R := Lib.hid (R.out.below hb5 (by omega))
      replace HO := Lib.hid (HO.out.below hb5 hltg)
      replace FB := Lib.hid (FB.out.trans (hb5.mono FB.out.size))
      have hz5 := hb5.size
      clear hb5
      obtain ⟨r0, y0⟩ := R.out 0 _ rfl; obtain ⟨r1, y1⟩ := R.out 1 _ rfl; obtain ⟨r2, y2⟩ := R.out 2 _ rfl; obtain ⟨r3, y3⟩ := R.out 3 _ rfl; obtain ⟨r4, y4⟩ := R.out 4 _ rfl
      go_wp2
      refine bodyPost_ret (v := .tuple #[.agg #[.int .i64 x.f0, .int .i64 x.f1, .int .i64 x.f2, .int .i64 x.f3, .slice (some ⟨g, 0, none⟩) x.f4.length cap], .int .i64 0]) (by simp [results, Try.results20, go_sem, r0, y0, r1, y1, r2, y2, r3, y3, r4, y4]) rfl ⟨some ⟨g, 0, none⟩, cap, by simp [filK_len], ?_, (((((FB.out).setCell (by simp <;> omega) _).setCell (by simp <;> omega) _).setCell (by simp <;> omega) _).setCell (by simp <;> omega) _).setCell (by simp <;> omega) _⟩
      refine OwnBlk.so (((HO.out).mono (by omega)).keep ?_)
      simp only [World.setCell, Array.getElem?_modify]
      rw [if_neg (by omega), if_neg (by omega), if_neg (by omega), if_neg (by omega), if_neg (by omega)]
end Go.Proofs.Ytnfcalegnijobaa
