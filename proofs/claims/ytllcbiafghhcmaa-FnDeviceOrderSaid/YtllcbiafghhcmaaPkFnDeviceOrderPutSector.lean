/- impl.PutSector, spec.PutSector -/
import Derived.Test.YtllcbiafghhcmaaPkFnDeviceOrderDiscOwn
import Derived.Test.YtllcbiafghhcmaaPkFnDeviceOrderBoxF
import Derived.Deep.RegionHeld3
import Derived.BigRegion
namespace Go.Proofs.Ytllcbiafghhcmaa
open Go.RowKit
set_option linter.unusedVariables false
set_option linter.unusedSimpArgs false
set_option maxRecDepth 20000
/-- A disc of the call's own, and a code. -/
def DiscRes (r : DiscV) (code : Int) (w : World) (e : Ending) (w' : World) : Prop :=
  ∃ a cap, e = .returned (.tuple #[.agg #[.int .i64 r.f0, .int .i64 r.f1, .int .i64 r.f2, .int .i64 r.f3, .slice a r.f4.length cap], .int .i64 code]) ∧ SlSO rowSector 39 w' w.heap.size a r.f4 ∧ Below w.heap.size w w'
def noDisc : DiscV := ⟨0, 0, 0, 0, []⟩
def putC (x : DiscV) (i : Int) (s : SectorV) : Int := if discB x = true then (if secOkB (secN x.f3).toNat s = true then (if inB 0 ((x.f4.length : Int) - 1) i = true then 0 else 2) else 1) else 1
def putV (x : DiscV) (i : Int) (s : SectorV) : DiscV := if discB x = true then (if secOkB (secN x.f3).toNat s = true then (if inB 0 ((x.f4.length : Int) - 1) i = true then ⟨x.f0, x.f1, x.f2, x.f3, x.f4.set i.toNat s⟩ else noDisc) else noDisc) else noDisc
theorem putV_len (x : DiscV) (i : Int) (s : SectorV) : (putV x i s).f4.length ≤ 1048576 := by
  unfold putV
  split
  · rename_i h
    have := discB_len h
    split
    · split
      · simp; omega
      · simp [noDisc]
    · simp [noDisc]
  · simp [noDisc]
theorem one_at (w : World) (s : SectorV) (T : TypeId) : SlS rowSector (w.alloc (.cells #[.string s.f0, .int .i64 s.f1] T)) (some ⟨w.heap.size, 0, none⟩) [s] := by
  refine .inr ⟨w.heap.size, 0, rfl, by simp, fun i v hv => ?_⟩
  match i, hv with
  | 0, hv => simp [rowSector] at hv; subst hv; simp [go_sem]
  | 1, hv => simp [rowSector] at hv; subst hv; simp [go_sem]
  | n + 2, hv => simp [rowSector] at hv
set_option maxHeartbeats 8000000 in
theorem putSector_g (x : DiscV) (a : Option Addr) (c : Nat) (i : Int) (s : SectorV) (hm : x.f4.length ≤ 1048576) (hs : ∀ e ∈ x.f4, e.f0.size ≤ 1048576) (hss : s.f0.size ≤ 1048576) (w : World) (h : SlS rowSector w a x.f4) :
    Calls Try.prog 13 #[.agg #[.int .i64 x.f0, .int .i64 x.f1, .int .i64 x.f2, .int .i64 x.f3, .slice a x.f4.length c], .int .i64 i, .agg #[.string s.f0, .int .i64 s.f1]] w (DiscRes (putV x i s) (putC x i s) w) := by
  have hs2 : ∀ e ∈ x.f4, e.f0.size ≤ maxLen := fun e he => by have := hs e he; unfold maxLen; omega
  have hss2 : s.f0.size ≤ maxLen := by unfold maxLen; omega
  have ELS := Lib.hid (fun w' (hb : Below w.heap.size w w') => h.below hb (Nat.le_refl _))
  have SH := Lib.hid (fun w => shaped_any x a c w)
  have va := fun w' (hb : Below w.heap.size w w') => shValid_any x a c w' hm hs2 (h.below hb (Nat.le_refl _))
  unfold putC putV
  by_cases hd0 : discB x = true
  case neg =>
    have hdf : discB x = false := by simpa using hd0
    rw [hdf] at va
    rw [if_neg hd0, if_neg hd0]
    have VA := Lib.hid va
    obtain ⟨f0, f1, f2, f3, es⟩ := x
    dsimp only at *
    clear hd0 hdf va h hs hs2
    go_enter Try.func13, Try.ntmps13
    have FB := Lib.hid (Below.refl w.heap.size w)
    have FN : w.heap.size ≤ w.heap.size := Nat.le_refl _
    go_wp2_with fail
    refine (SH.out _).mono ?_
    rintro e w1 ⟨rfl, hb1⟩
    have hbE1 : Below w.heap.size w w1 := Below.trans (by go_grown) (hb1.mono (by simp <;> omega))
    have SB : Hid (BoxF w1 (w.heap.size + 1) #[.string s.f0, .int .i64 s.f1]) := Lib.hid (BoxF.below (boxF2 (by simp [go_sem]) (by simp [go_sem])) hb1 (by simp <;> omega))
    have hlSB : (w.heap.size + 1) < w1.heap.size := Nat.lt_of_lt_of_le (by simp <;> omega) hb1.size
    have R : Hid (BoxF w1 (w.heap.size + 2) #[.int .i64 0, .int .i64 0, .int .i64 0, .int .i64 0, .slice none 0 0]) := Lib.hid (BoxF.below (boxF5 (by simp [go_sem]) (by simp [go_sem]) (by simp [go_sem]) (by simp [go_sem]) (by simp [go_sem])) hb1 (by simp <;> omega))
    have hlR : (w.heap.size + 2) < w1.heap.size := Nat.lt_of_lt_of_le (by simp <;> omega) hb1.size
    replace FB := Lib.hid (FB.out.trans (hbE1.mono FN))
    replace FN := Nat.le_trans FN hbE1.size
    clear hb1 hbE1
    obtain ⟨xSB0, ySB0⟩ := SB.out 0 _ rfl
    obtain ⟨xSB1, ySB1⟩ := SB.out 1 _ rfl
    go_wp2_with fail
    refine (VA.out _ (FB.out.trans (Below.mono (by go_grown) FN))).mono ?_
    rintro e w2 ⟨rfl, hb2⟩
    clear xSB0 ySB0 xSB1 ySB1
    have hbE2 : Below w1.heap.size w1 w2 := Below.trans (by go_grown) (hb2.mono (by simp <;> omega))
    replace SB := Lib.hid (SB.out.below hbE2 hlSB)
    replace hlSB := Nat.lt_of_lt_of_le hlSB hbE2.size
    replace R := Lib.hid (R.out.below hbE2 hlR)
    replace hlR := Nat.lt_of_lt_of_le hlR hbE2.size
    have S : Hid (BoxF w2 w1.heap.size #[.int .i64 f0, .int .i64 f1, .int .i64 f2, .int .i64 f3, .slice a es.length c]) := Lib.hid (BoxF.below (boxF5 (by simp [go_sem]) (by simp [go_sem]) (by simp [go_sem]) (by simp [go_sem]) (by simp [go_sem])) hb2 (by simp <;> omega))
    have hlS : w1.heap.size < w2.heap.size := Nat.lt_of_lt_of_le (by simp <;> omega) hb2.size
    replace FB := Lib.hid (FB.out.trans (hbE2.mono FN))
    replace FN := Nat.le_trans FN hbE2.size
    clear hb2 hbE2
    obtain ⟨xR0, yR0⟩ := R.out 0 _ rfl
    obtain ⟨xR1, yR1⟩ := R.out 1 _ rfl
    obtain ⟨xR2, yR2⟩ := R.out 2 _ rfl
    obtain ⟨xR3, yR3⟩ := R.out 3 _ rfl
    obtain ⟨xR4, yR4⟩ := R.out 4 _ rfl
    go_wp2
    refine bodyPost_ret (v := .tuple #[.agg #[.int .i64 0, .int .i64 0, .int .i64 0, .int .i64 0, .slice none 0 0], .int .i64 1]) (by simp [results, Try.results13, go_sem, xR0, yR0, xR1, yR1, xR2, yR2, xR3, yR3, xR4, yR4]) rfl ⟨none, 0, rfl, .inl rfl, ?_⟩
    exact (((((FB.out).setCell (by simp <;> omega) _).setCell (by simp <;> omega) _).setCell (by simp <;> omega) _).setCell (by simp <;> omega) _).setCell (by simp <;> omega) _
  have hdd := hd0
  rw [hd0] at va
  rw [if_pos hd0, if_pos hd0]
  have VA := Lib.hid va
  have hl128 := discB_len hd0
  unfold discB at hdd
  simp only [Bool.and_eq_true, decide_eq_true_eq] at hdd
  obtain ⟨hg, hln, _⟩ := hdd
  obtain ⟨g0, g1, g2, g3⟩ := geoB_iff.1 hg
  obtain ⟨m0, _, _, _⟩ := mul_bound g0 g1 g2
  have hz : inB 0 2 x.f3 = true := inB_iff.2 g3
  obtain ⟨n, hn1, hn2, hn3⟩ := secN_three hz
  rw [hn2]
  have hne : x.f4 ≠ [] := by intro e0; rw [e0] at hln; simp at hln; omega
  have TO := Lib.hid (fun w => total_any x.f0 x.f1 x.f2 x.f3 w hg)
  rw [← hln] at TO
  have fi := fun w a' hsl => fits_any x.f0 x.f1 x.f2 x.f3 a' [s] 1 n w (by simp) (by intro e he; simp at he; subst he; exact hss2) hz hn1 hn3 hsl
  simp only [List.all_cons, List.all_nil, Bool.and_true] at fi
  have PL := Lib.hid (fun w => isPlace_any i (x.f4.length : Int) w (by omega) (by omega))
  have CL := Lib.hid (fun w' hb => clone_any a x.f4 c w' hm hne (ELS.out w' hb))
  obtain ⟨f0, f1, f2, f3, es⟩ := x
  dsimp only at *
  clear hd0 va h hg hs hs2 g0 g1 g2 g3 hz hn1 hn2 hn3 m0 hln
  by_cases hok : secOkB n s = true
  case neg =>
    have hof : secOkB n s = false := by simpa using hok
    rw [hof] at fi
    rw [if_neg hok, if_neg hok]
    have FI := Lib.hid fi
    clear hok hof fi
    go_enter Try.func13, Try.ntmps13
    have FB := Lib.hid (Below.refl w.heap.size w)
    have FN : w.heap.size ≤ w.heap.size := Nat.le_refl _
    go_wp2_with fail
    refine (SH.out _).mono ?_
    rintro e w1 ⟨rfl, hb1⟩
    have hbE1 : Below w.heap.size w w1 := Below.trans (by go_grown) (hb1.mono (by simp <;> omega))
    have SB : Hid (BoxF w1 (w.heap.size + 1) #[.string s.f0, .int .i64 s.f1]) := Lib.hid (BoxF.below (boxF2 (by simp [go_sem]) (by simp [go_sem])) hb1 (by simp <;> omega))
    have hlSB : (w.heap.size + 1) < w1.heap.size := Nat.lt_of_lt_of_le (by simp <;> omega) hb1.size
    have R : Hid (BoxF w1 (w.heap.size + 2) #[.int .i64 0, .int .i64 0, .int .i64 0, .int .i64 0, .slice none 0 0]) := Lib.hid (BoxF.below (boxF5 (by simp [go_sem]) (by simp [go_sem]) (by simp [go_sem]) (by simp [go_sem]) (by simp [go_sem])) hb1 (by simp <;> omega))
    have hlR : (w.heap.size + 2) < w1.heap.size := Nat.lt_of_lt_of_le (by simp <;> omega) hb1.size
    replace FB := Lib.hid (FB.out.trans (hbE1.mono FN))
    replace FN := Nat.le_trans FN hbE1.size
    clear hb1 hbE1
    obtain ⟨xSB0, ySB0⟩ := SB.out 0 _ rfl
    obtain ⟨xSB1, ySB1⟩ := SB.out 1 _ rfl
    go_wp2_with fail
    refine (VA.out _ (FB.out.trans (Below.mono (by go_grown) FN))).mono ?_
    rintro e w2 ⟨rfl, hb2⟩
    clear xSB0 ySB0 xSB1 ySB1
    have hbE2 : Below w1.heap.size w1 w2 := Below.trans (by go_grown) (hb2.mono (by simp <;> omega))
    replace SB := Lib.hid (SB.out.below hbE2 hlSB)
    replace hlSB := Nat.lt_of_lt_of_le hlSB hbE2.size
    replace R := Lib.hid (R.out.below hbE2 hlR)
    replace hlR := Nat.lt_of_lt_of_le hlR hbE2.size
    have S : Hid (BoxF w2 w1.heap.size #[.int .i64 f0, .int .i64 f1, .int .i64 f2, .int .i64 f3, .slice a es.length c]) := Lib.hid (BoxF.below (boxF5 (by simp [go_sem]) (by simp [go_sem]) (by simp [go_sem]) (by simp [go_sem]) (by simp [go_sem])) hb2 (by simp <;> omega))
    have hlS : w1.heap.size < w2.heap.size := Nat.lt_of_lt_of_le (by simp <;> omega) hb2.size
    replace FB := Lib.hid (FB.out.trans (hbE2.mono FN))
    replace FN := Nat.le_trans FN hbE2.size
    clear hb2 hbE2
    obtain ⟨xS0, yS0⟩ := S.out 0 _ rfl
    obtain ⟨xS1, yS1⟩ := S.out 1 _ rfl
    obtain ⟨xS2, yS2⟩ := S.out 2 _ rfl
    obtain ⟨xS3, yS3⟩ := S.out 3 _ rfl
    obtain ⟨xS4, yS4⟩ := S.out 4 _ rfl
    obtain ⟨xSB0, ySB0⟩ := SB.out 0 _ rfl
    obtain ⟨xSB1, ySB1⟩ := SB.out 1 _ rfl
    go_wp2_with fail
    refine (FI.out _ _ (by first | exact one_at _ s _ | (rw [show w2.heap.size = w2.heap.size from rfl]; exact one_at w2 s _))).mono ?_
    rintro e w3 ⟨rfl, hb3⟩
    clear xS0 yS0 xS1 yS1 xS2 yS2 xS3 yS3 xS4 yS4
    clear xSB0 ySB0 xSB1 ySB1
    have hbE3 : Below w2.heap.size w2 w3 := Below.trans (by go_grown) (hb3.mono (by simp <;> omega))
    replace SB := Lib.hid (SB.out.below hbE3 hlSB)
    replace hlSB := Nat.lt_of_lt_of_le hlSB hbE3.size
    replace R := Lib.hid (R.out.below hbE3 hlR)
    replace hlR := Nat.lt_of_lt_of_le hlR hbE3.size
    replace S := Lib.hid (S.out.below hbE3 hlS)
    replace hlS := Nat.lt_of_lt_of_le hlS hbE3.size
    replace FB := Lib.hid (FB.out.trans (hbE3.mono FN))
    replace FN := Nat.le_trans FN hbE3.size
    clear hb3 hbE3
    obtain ⟨xR0, yR0⟩ := R.out 0 _ rfl
    obtain ⟨xR1, yR1⟩ := R.out 1 _ rfl
    obtain ⟨xR2, yR2⟩ := R.out 2 _ rfl
    obtain ⟨xR3, yR3⟩ := R.out 3 _ rfl
    obtain ⟨xR4, yR4⟩ := R.out 4 _ rfl
    go_wp2
    refine bodyPost_ret (v := .tuple #[.agg #[.int .i64 0, .int .i64 0, .int .i64 0, .int .i64 0, .slice none 0 0], .int .i64 1]) (by simp [results, Try.results13, go_sem, xR0, yR0, xR1, yR1, xR2, yR2, xR3, yR3, xR4, yR4]) rfl ⟨none, 0, rfl, .inl rfl, ?_⟩
    exact (((((FB.out).setCell (by simp <;> omega) _).setCell (by simp <;> omega) _).setCell (by simp <;> omega) _).setCell (by simp <;> omega) _).setCell (by simp <;> omega) _
  rw [hok] at fi
  rw [if_pos hok, if_pos hok]
  have FI := Lib.hid fi
  clear hok fi
  by_cases hi : inB 0 ((es.length : Int) - 1) i = true
  case neg =>
    have hif : inB 0 ((es.length : Int) - 1) i = false := by simpa using hi
    rw [hif] at PL
    rw [if_neg hi, if_neg hi]
    clear hi hif
    go_enter Try.func13, Try.ntmps13
    have FB := Lib.hid (Below.refl w.heap.size w)
    have FN : w.heap.size ≤ w.heap.size := Nat.le_refl _
    go_wp2_with fail
    refine (SH.out _).mono ?_
    rintro e w1 ⟨rfl, hb1⟩
    have hbE1 : Below w.heap.size w w1 := Below.trans (by go_grown) (hb1.mono (by simp <;> omega))
    have SB : Hid (BoxF w1 (w.heap.size + 1) #[.string s.f0, .int .i64 s.f1]) := Lib.hid (BoxF.below (boxF2 (by simp [go_sem]) (by simp [go_sem])) hb1 (by simp <;> omega))
    have hlSB : (w.heap.size + 1) < w1.heap.size := Nat.lt_of_lt_of_le (by simp <;> omega) hb1.size
    have R : Hid (BoxF w1 (w.heap.size + 2) #[.int .i64 0, .int .i64 0, .int .i64 0, .int .i64 0, .slice none 0 0]) := Lib.hid (BoxF.below (boxF5 (by simp [go_sem]) (by simp [go_sem]) (by simp [go_sem]) (by simp [go_sem]) (by simp [go_sem])) hb1 (by simp <;> omega))
    have hlR : (w.heap.size + 2) < w1.heap.size := Nat.lt_of_lt_of_le (by simp <;> omega) hb1.size
    replace FB := Lib.hid (FB.out.trans (hbE1.mono FN))
    replace FN := Nat.le_trans FN hbE1.size
    clear hb1 hbE1
    obtain ⟨xSB0, ySB0⟩ := SB.out 0 _ rfl
    obtain ⟨xSB1, ySB1⟩ := SB.out 1 _ rfl
    go_wp2_with fail
    refine (VA.out _ (FB.out.trans (Below.mono (by go_grown) FN))).mono ?_
    rintro e w2 ⟨rfl, hb2⟩
    clear xSB0 ySB0 xSB1 ySB1
    have hbE2 : Below w1.heap.size w1 w2 := Below.trans (by go_grown) (hb2.mono (by simp <;> omega))
    replace SB := Lib.hid (SB.out.below hbE2 hlSB)
    replace hlSB := Nat.lt_of_lt_of_le hlSB hbE2.size
    replace R := Lib.hid (R.out.below hbE2 hlR)
    replace hlR := Nat.lt_of_lt_of_le hlR hbE2.size
    have S : Hid (BoxF w2 w1.heap.size #[.int .i64 f0, .int .i64 f1, .int .i64 f2, .int .i64 f3, .slice a es.length c]) := Lib.hid (BoxF.below (boxF5 (by simp [go_sem]) (by simp [go_sem]) (by simp [go_sem]) (by simp [go_sem]) (by simp [go_sem])) hb2 (by simp <;> omega))
    have hlS : w1.heap.size < w2.heap.size := Nat.lt_of_lt_of_le (by simp <;> omega) hb2.size
    replace FB := Lib.hid (FB.out.trans (hbE2.mono FN))
    replace FN := Nat.le_trans FN hbE2.size
    clear hb2 hbE2
    obtain ⟨xS0, yS0⟩ := S.out 0 _ rfl
    obtain ⟨xS1, yS1⟩ := S.out 1 _ rfl
    obtain ⟨xS2, yS2⟩ := S.out 2 _ rfl
    obtain ⟨xS3, yS3⟩ := S.out 3 _ rfl
    obtain ⟨xS4, yS4⟩ := S.out 4 _ rfl
    obtain ⟨xSB0, ySB0⟩ := SB.out 0 _ rfl
    obtain ⟨xSB1, ySB1⟩ := SB.out 1 _ rfl
    go_wp2_with fail
    refine (FI.out _ _ (by first | exact one_at _ s _ | (rw [show w2.heap.size = w2.heap.size from rfl]; exact one_at w2 s _))).mono ?_
    rintro e w3 ⟨rfl, hb3⟩
    clear xS0 yS0 xS1 yS1 xS2 yS2 xS3 yS3 xS4 yS4
    clear xSB0 ySB0 xSB1 ySB1
    have hbE3 : Below w2.heap.size w2 w3 := Below.trans (by go_grown) (hb3.mono (by simp <;> omega))
    replace SB := Lib.hid (SB.out.below hbE3 hlSB)
    replace hlSB := Nat.lt_of_lt_of_le hlSB hbE3.size
    replace R := Lib.hid (R.out.below hbE3 hlR)
    replace hlR := Nat.lt_of_lt_of_le hlR hbE3.size
    replace S := Lib.hid (S.out.below hbE3 hlS)
    replace hlS := Nat.lt_of_lt_of_le hlS hbE3.size
    replace FB := Lib.hid (FB.out.trans (hbE3.mono FN))
    replace FN := Nat.le_trans FN hbE3.size
    clear hb3 hbE3
    obtain ⟨xS0, yS0⟩ := S.out 0 _ rfl
    obtain ⟨xS1, yS1⟩ := S.out 1 _ rfl
    obtain ⟨xS2, yS2⟩ := S.out 2 _ rfl
    obtain ⟨xS3, yS3⟩ := S.out 3 _ rfl
    obtain ⟨xS4, yS4⟩ := S.out 4 _ rfl
    go_wp2_with fail
    refine (TO.out _).mono ?_
    rintro e w4 ⟨rfl, hb4⟩
    clear xS0 yS0 xS1 yS1 xS2 yS2 xS3 yS3 xS4 yS4
    have hbE4 : Below w3.heap.size w3 w4 := Below.trans (by go_grown) (hb4.mono (by simp <;> omega))
    replace SB := Lib.hid (SB.out.below hbE4 hlSB)
    replace hlSB := Nat.lt_of_lt_of_le hlSB hbE4.size
    replace R := Lib.hid (R.out.below hbE4 hlR)
    replace hlR := Nat.lt_of_lt_of_le hlR hbE4.size
    replace S := Lib.hid (S.out.below hbE4 hlS)
    replace hlS := Nat.lt_of_lt_of_le hlS hbE4.size
    replace FB := Lib.hid (FB.out.trans (hbE4.mono FN))
    replace FN := Nat.le_trans FN hbE4.size
    clear hb4 hbE4
    go_wp2_with fail
    refine (PL.out _).mono ?_
    rintro e w5 ⟨rfl, hb5⟩
    have hbE5 : Below w4.heap.size w4 w5 := Below.trans (by go_grown) (hb5.mono (by simp <;> omega))
    replace SB := Lib.hid (SB.out.below hbE5 hlSB)
    replace hlSB := Nat.lt_of_lt_of_le hlSB hbE5.size
    replace R := Lib.hid (R.out.below hbE5 hlR)
    replace hlR := Nat.lt_of_lt_of_le hlR hbE5.size
    replace S := Lib.hid (S.out.below hbE5 hlS)
    replace hlS := Nat.lt_of_lt_of_le hlS hbE5.size
    replace FB := Lib.hid (FB.out.trans (hbE5.mono FN))
    replace FN := Nat.le_trans FN hbE5.size
    clear hb5 hbE5
    obtain ⟨xR0, yR0⟩ := R.out 0 _ rfl
    obtain ⟨xR1, yR1⟩ := R.out 1 _ rfl
    obtain ⟨xR2, yR2⟩ := R.out 2 _ rfl
    obtain ⟨xR3, yR3⟩ := R.out 3 _ rfl
    obtain ⟨xR4, yR4⟩ := R.out 4 _ rfl
    go_wp2
    refine bodyPost_ret (v := .tuple #[.agg #[.int .i64 0, .int .i64 0, .int .i64 0, .int .i64 0, .slice none 0 0], .int .i64 2]) (by simp [results, Try.results13, go_sem, xR0, yR0, xR1, yR1, xR2, yR2, xR3, yR3, xR4, yR4]) rfl ⟨none, 0, rfl, .inl rfl, ?_⟩
    exact (((((FB.out).setCell (by simp <;> omega) _).setCell (by simp <;> omega) _).setCell (by simp <;> omega) _).setCell (by simp <;> omega) _).setCell (by simp <;> omega) _
  rw [hi] at PL
  rw [if_pos hi, if_pos hi]
  obtain ⟨i0, i1⟩ := inB_iff.1 hi
  obtain ⟨m, rfl⟩ : ∃ m : Nat, i = (m : Int) := ⟨i.toNat, by omega⟩
  rw [Int.toNat_natCast]
  have hlt : m < es.length := by omega
  have e1 : (m : Int) < es.length := by omega
  clear hi i0 i1
  go_enter Try.func13, Try.ntmps13
  have FB := Lib.hid (Below.refl w.heap.size w)
  have FN : w.heap.size ≤ w.heap.size := Nat.le_refl _
  go_wp2_with fail
  refine (SH.out _).mono ?_
  rintro e w1 ⟨rfl, hb1⟩
  have hbE1 : Below w.heap.size w w1 := Below.trans (by go_grown) (hb1.mono (by simp <;> omega))
  have SB : Hid (BoxF w1 (w.heap.size + 1) #[.string s.f0, .int .i64 s.f1]) := Lib.hid (BoxF.below (boxF2 (by simp [go_sem]) (by simp [go_sem])) hb1 (by simp <;> omega))
  have hlSB : (w.heap.size + 1) < w1.heap.size := Nat.lt_of_lt_of_le (by simp <;> omega) hb1.size
  have R : Hid (BoxF w1 (w.heap.size + 2) #[.int .i64 0, .int .i64 0, .int .i64 0, .int .i64 0, .slice none 0 0]) := Lib.hid (BoxF.below (boxF5 (by simp [go_sem]) (by simp [go_sem]) (by simp [go_sem]) (by simp [go_sem]) (by simp [go_sem])) hb1 (by simp <;> omega))
  have hlR : (w.heap.size + 2) < w1.heap.size := Nat.lt_of_lt_of_le (by simp <;> omega) hb1.size
  replace FB := Lib.hid (FB.out.trans (hbE1.mono FN))
  replace FN := Nat.le_trans FN hbE1.size
  clear hb1 hbE1
  obtain ⟨xSB0, ySB0⟩ := SB.out 0 _ rfl
  obtain ⟨xSB1, ySB1⟩ := SB.out 1 _ rfl
  go_wp2_with fail
  refine (VA.out _ (FB.out.trans (Below.mono (by go_grown) FN))).mono ?_
  rintro e w2 ⟨rfl, hb2⟩
  clear xSB0 ySB0 xSB1 ySB1
  have hbE2 : Below w1.heap.size w1 w2 := Below.trans (by go_grown) (hb2.mono (by simp <;> omega))
  replace SB := Lib.hid (SB.out.below hbE2 hlSB)
  replace hlSB := Nat.lt_of_lt_of_le hlSB hbE2.size
  replace R := Lib.hid (R.out.below hbE2 hlR)
  replace hlR := Nat.lt_of_lt_of_le hlR hbE2.size
  have S : Hid (BoxF w2 w1.heap.size #[.int .i64 f0, .int .i64 f1, .int .i64 f2, .int .i64 f3, .slice a es.length c]) := Lib.hid (BoxF.below (boxF5 (by simp [go_sem]) (by simp [go_sem]) (by simp [go_sem]) (by simp [go_sem]) (by simp [go_sem])) hb2 (by simp <;> omega))
  have hlS : w1.heap.size < w2.heap.size := Nat.lt_of_lt_of_le (by simp <;> omega) hb2.size
  replace FB := Lib.hid (FB.out.trans (hbE2.mono FN))
  replace FN := Nat.le_trans FN hbE2.size
  clear hb2 hbE2
  obtain ⟨xS0, yS0⟩ := S.out 0 _ rfl
  obtain ⟨xS1, yS1⟩ := S.out 1 _ rfl
  obtain ⟨xS2, yS2⟩ := S.out 2 _ rfl
  obtain ⟨xS3, yS3⟩ := S.out 3 _ rfl
  obtain ⟨xS4, yS4⟩ := S.out 4 _ rfl
  obtain ⟨xSB0, ySB0⟩ := SB.out 0 _ rfl
  obtain ⟨xSB1, ySB1⟩ := SB.out 1 _ rfl
  go_wp2_with fail
  refine (FI.out _ _ (by first | exact one_at _ s _ | (rw [show w2.heap.size = w2.heap.size from rfl]; exact one_at w2 s _))).mono ?_
  rintro e w3 ⟨rfl, hb3⟩
  clear xS0 yS0 xS1 yS1 xS2 yS2 xS3 yS3 xS4 yS4
  clear xSB0 ySB0 xSB1 ySB1
  have hbE3 : Below w2.heap.size w2 w3 := Below.trans (by go_grown) (hb3.mono (by simp <;> omega))
  replace SB := Lib.hid (SB.out.below hbE3 hlSB)
  replace hlSB := Nat.lt_of_lt_of_le hlSB hbE3.size
  replace R := Lib.hid (R.out.below hbE3 hlR)
  replace hlR := Nat.lt_of_lt_of_le hlR hbE3.size
  replace S := Lib.hid (S.out.below hbE3 hlS)
  replace hlS := Nat.lt_of_lt_of_le hlS hbE3.size
  replace FB := Lib.hid (FB.out.trans (hbE3.mono FN))
  replace FN := Nat.le_trans FN hbE3.size
  clear hb3 hbE3
  obtain ⟨xS0, yS0⟩ := S.out 0 _ rfl
  obtain ⟨xS1, yS1⟩ := S.out 1 _ rfl
  obtain ⟨xS2, yS2⟩ := S.out 2 _ rfl
  obtain ⟨xS3, yS3⟩ := S.out 3 _ rfl
  obtain ⟨xS4, yS4⟩ := S.out 4 _ rfl
  go_wp2_with fail
  refine (TO.out _).mono ?_
  rintro e w4 ⟨rfl, hb4⟩
  clear xS0 yS0 xS1 yS1 xS2 yS2 xS3 yS3 xS4 yS4
  have hbE4 : Below w3.heap.size w3 w4 := Below.trans (by go_grown) (hb4.mono (by simp <;> omega))
  replace SB := Lib.hid (SB.out.below hbE4 hlSB)
  replace hlSB := Nat.lt_of_lt_of_le hlSB hbE4.size
  replace R := Lib.hid (R.out.below hbE4 hlR)
  replace hlR := Nat.lt_of_lt_of_le hlR hbE4.size
  replace S := Lib.hid (S.out.below hbE4 hlS)
  replace hlS := Nat.lt_of_lt_of_le hlS hbE4.size
  replace FB := Lib.hid (FB.out.trans (hbE4.mono FN))
  replace FN := Nat.le_trans FN hbE4.size
  clear hb4 hbE4
  go_wp2_with fail
  refine (PL.out _).mono ?_
  rintro e w5 ⟨rfl, hb5⟩
  have hbE5 : Below w4.heap.size w4 w5 := Below.trans (by go_grown) (hb5.mono (by simp <;> omega))
  replace SB := Lib.hid (SB.out.below hbE5 hlSB)
  replace hlSB := Nat.lt_of_lt_of_le hlSB hbE5.size
  replace R := Lib.hid (R.out.below hbE5 hlR)
  replace hlR := Nat.lt_of_lt_of_le hlR hbE5.size
  replace S := Lib.hid (S.out.below hbE5 hlS)
  replace hlS := Nat.lt_of_lt_of_le hlS hbE5.size
  replace FB := Lib.hid (FB.out.trans (hbE5.mono FN))
  replace FN := Nat.le_trans FN hbE5.size
  clear hb5 hbE5
  have hl5R := hlR
  have hl5S := hlS
  have hl5SB := hlSB
  obtain ⟨xS0, yS0⟩ := S.out 0 _ rfl
  obtain ⟨xS1, yS1⟩ := S.out 1 _ rfl
  obtain ⟨xS2, yS2⟩ := S.out 2 _ rfl
  obtain ⟨xS3, yS3⟩ := S.out 3 _ rfl
  obtain ⟨xS4, yS4⟩ := S.out 4 _ rfl
  go_wp2_with fail
  refine (CL.out _ FB.out).mono ?_
  rintro e w6 ⟨g, cap, rfl, hown, hb6⟩
  clear xS0 yS0 xS1 yS1 xS2 yS2 xS3 yS3 xS4 yS4
  have hbE6 : Below w5.heap.size w5 w6 := Below.trans (by go_grown) (hb6.mono (by simp <;> omega))
  replace SB := Lib.hid (SB.out.below hbE6 hlSB)
  replace hlSB := Nat.lt_of_lt_of_le hlSB hbE6.size
  replace R := Lib.hid (R.out.below hbE6 hlR)
  replace hlR := Nat.lt_of_lt_of_le hlR hbE6.size
  replace S := Lib.hid (S.out.below hbE6 hlS)
  replace hlS := Nat.lt_of_lt_of_le hlS hbE6.size
  replace FB := Lib.hid (FB.out.trans (hbE6.mono FN))
  replace FN := Nat.le_trans FN hbE6.size
  clear hb6 hbE6
  obtain ⟨rest, hgB, hgh⟩ := hown
  have OWN := Lib.hid (show OwnBlk w6 w5.heap.size g es from ⟨rest, hgB, hgh⟩)
  obtain ⟨eo, hxo⟩ : ∃ e, es[m]? = some e := ⟨es[m], by simp [hlt]⟩
  have d0 := (OWN.out.cell hxo).1
  have d1 := (OWN.out.cell hxo).2
  have z0 := OWN.out.free (m * 2)
  have z1 := OWN.out.free (m * 2 + 1)
  have hgl := OWN.out.lt
  have DI := Lib.hid (fun w => disc_any f0 f1 f2 f3 (some ⟨g, 0, none⟩) es.length cap w)
  clear hgh hxo
  obtain ⟨xS0, yS0⟩ := S.out 0 _ rfl
  obtain ⟨xS1, yS1⟩ := S.out 1 _ rfl
  obtain ⟨xS2, yS2⟩ := S.out 2 _ rfl
  obtain ⟨xS3, yS3⟩ := S.out 3 _ rfl
  obtain ⟨xS4, yS4⟩ := S.out 4 _ rfl
  obtain ⟨xSB0, ySB0⟩ := SB.out 0 _ rfl
  obtain ⟨xSB1, ySB1⟩ := SB.out 1 _ rfl
  go_wp2_with fail
  refine (DI.out _).mono ?_
  rintro e w7 ⟨rfl, hb7⟩
  clear xS0 yS0 xS1 yS1 xS2 yS2 xS3 yS3 xS4 yS4
  clear xSB0 ySB0 xSB1 ySB1
  have hbE : Below w5.heap.size w6 w7 := Below.trans (((Below.refl w5.heap.size w6).setCell (by simp <;> omega) _).setCell (by simp <;> omega) _) (hb7.mono (by simp <;> omega))
  have OW7 := Lib.hid ((OWN.out.put m s hlt).below hb7 (by simpa using hgl))
  have R7 := R.out.below hbE hl5R
  have FB7 := FB.out.trans (hbE.mono (by omega))
  obtain ⟨xR0, yR0⟩ := R7 0 _ rfl
  obtain ⟨xR1, yR1⟩ := R7 1 _ rfl
  obtain ⟨xR2, yR2⟩ := R7 2 _ rfl
  obtain ⟨xR3, yR3⟩ := R7 3 _ rfl
  obtain ⟨xR4, yR4⟩ := R7 4 _ rfl
  clear d0 d1 z0 z1 hb7 hbE
  go_wp2
  refine bodyPost_ret (v := .tuple #[.agg #[.int .i64 f0, .int .i64 f1, .int .i64 f2, .int .i64 f3, .slice (some ⟨g, 0, none⟩) es.length cap], .int .i64 0]) (by simp [results, Try.results13, go_sem, xR0, yR0, xR1, yR1, xR2, yR2, xR3, yR3, xR4, yR4]) rfl ⟨some ⟨g, 0, none⟩, cap, by simp, ?_, ?_⟩
  · refine OwnBlk.so ((OW7.out.mono (by omega)).keep ?_)
    simp only [World.setCell, Array.getElem?_modify]
    rw [if_neg (by omega), if_neg (by omega), if_neg (by omega), if_neg (by omega), if_neg (by omega)]
  · exact (((((FB7).setCell (by simp <;> omega) _).setCell (by simp <;> omega) _).setCell (by simp <;> omega) _).setCell (by simp <;> omega) _).setCell (by simp <;> omega) _
end Go.Proofs.Ytllcbiafghhcmaa
