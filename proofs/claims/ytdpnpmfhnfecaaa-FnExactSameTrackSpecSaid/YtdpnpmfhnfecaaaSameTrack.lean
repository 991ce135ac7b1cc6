/- impl.SameTrackSpec, spec.SameTrackSpec -/
import Derived.Test.YtdpnpmfhnfecaaaOneTrackSpec
import Derived.Test.YtdpnpmfhnfecaaaEqSectorSpec
namespace Go.Proofs.Ytdpnpmfhnfecaaa
open Go.RowKit
set_option linter.unusedVariables false
set_option maxRecDepth 20000
noncomputable def sameTrackB (x y : TrackSpecV) : Bool := @decide (x = y) (Classical.propDecidable _)
theorem sameTrackB_iff {x y : TrackSpecV} : sameTrackB x y = true ↔ x = y := by unfold sameTrackB; simp
theorem sameTrackB_no {x y : TrackSpecV} (h : ¬ x = y) : sameTrackB x y = false := by
  cases hb : sameTrackB x y with
  | false => rfl
  | true => exact absurd (sameTrackB_iff.1 hb) h
set_option maxHeartbeats 4000000 in
theorem sameTrackSpec_g (x : TrackSpecV) (a : Option Addr) (c : Nat) (y : TrackSpecV) (b : Option Addr) (d : Nat) (hx : x.f2.length ≤ 1048576) (hv : ∀ e ∈ x.f2, e.f4.size ≤ 1048576) (hy : y.f2.length ≤ 1048576) (hv2 : ∀ e ∈ y.f2, e.f4.size ≤ 1048576) (w : World) (h1 : SlS rowSectorSpec w a x.f2) (h2 : SlS rowSectorSpec w b y.f2) :
    Calls Try.prog 16 #[.agg #[.int .i64 x.f0, .int .i64 x.f1, .slice a x.f2.length c], .agg #[.int .i64 y.f0, .int .i64 y.f1, .slice b y.f2.length d]] w fun e w' => e = .returned (.bool (sameTrackB x y)) ∧ Below w.heap.size w w' := by
  obtain ⟨q, hq⟩ : ∃ q : Bool, q = true ↔ x.f2 = y.f2 := ⟨@decide (x.f2 = y.f2) (Classical.propDecidable _), by simp⟩
  have hc := fun w' (hb : Below w.heap.size w w') => slicesEqualSectorSpec_any q a b x.f2 y.f2 c d w' hq (by omega) (by omega) (h1.below hb (Nat.le_refl _)) (h2.below hb (Nat.le_refl _))
  have HC := Lib.hid hc; clear hc h1 h2 hv hv2
  by_cases h0 : x.f0 = y.f0
  case neg =>
    have HE := Lib.hid (sameTrackB_no (x := x) (y := y) (fun h => h0 (by rw [h])))
    have hb0 : (x.f0 == y.f0) = false := by simp [h0]
    clear h0
    go_enter Try.func16, Try.ntmps16
    go_wp2
    go_ret
    exact ⟨ret_bool HE.out.symm, by go_grown⟩
  have hb0 : (x.f0 == y.f0) = true := by simp [h0]
  have H0 := Lib.hid h0; clear h0
  by_cases h1 : x.f1 = y.f1
  case neg =>
    have HE := Lib.hid (sameTrackB_no (x := x) (y := y) (fun h => h1 (by rw [h])))
    have hb1 : (x.f1 == y.f1) = false := by simp [h1]
    clear h1
    go_enter Try.func16, Try.ntmps16
    go_wp2
    go_ret
    exact ⟨ret_bool HE.out.symm, by go_grown⟩
  have hb1 : (x.f1 == y.f1) = true := by simp [h1]
  have HE := Lib.hid (show sameTrackB x y = q by
    cases q with
    | true => exact sameTrackB_iff.2 (TrackSpecV.ext' ⟨H0.out, h1, hq.1 rfl⟩)
    | false => exact sameTrackB_no (fun h => absurd (hq.2 (by rw [h])) (by simp)))
  clear h1 hq
  go_enter Try.func16, Try.ntmps16
  go_wp2_with fail
  refine (HC.out _ (by go_grown)).mono ?_
  rintro e w1 ⟨rfl, hb1⟩
  go_wp2
  go_ret
  exact ⟨ret_bool HE.out.symm, Below.trans (by go_grown) (hb1.mono (by simp; omega))⟩
set_option maxHeartbeats 8000000 in
theorem specSameTrackSpec_g (x : TrackSpecV) (a : Option Addr) (c : Nat) (y : TrackSpecV) (b : Option Addr) (d : Nat) (hx : x.f2.length ≤ 1048576) (hv : ∀ e ∈ x.f2, e.f4.size ≤ 1048576) (hy : y.f2.length ≤ 1048576) (hv2 : ∀ e ∈ y.f2, e.f4.size ≤ 1048576) (w : World) (h1 : SlS rowSectorSpec w a x.f2) (h2 : SlS rowSectorSpec w b y.f2) :
    Calls Try.prog 15 #[.agg #[.int .i64 x.f0, .int .i64 x.f1, .slice a x.f2.length c], .agg #[.int .i64 y.f0, .int .i64 y.f1, .slice b y.f2.length d]] w fun e w' => e = .returned (.bool (sameTrackB x y)) ∧ Below w.heap.size w w' := by
  clear hv hv2
  have hh1 := Lib.hid h1; have hh2 := Lib.hid h2; clear h1 h2
  by_cases h0 : x.f0 = y.f0
  case neg =>
    have HE := Lib.hid (sameTrackB_no (x := x) (y := y) (fun h => h0 (by rw [h])))
    have hb0 : (x.f0 != y.f0) = true := by simp [h0]
    clear h0
    go_enter Try.func15, Try.ntmps15
    go_wp2
    go_ret
    exact ⟨ret_bool HE.out.symm, by go_grown⟩
  have hb0 : (x.f0 != y.f0) = false := by simp [h0]
  have H0 := Lib.hid h0; clear h0
  by_cases h1 : x.f1 = y.f1
  case neg =>
    have HE := Lib.hid (sameTrackB_no (x := x) (y := y) (fun h => h1 (by rw [h])))
    have hb1 : (x.f1 != y.f1) = true := by simp [h1]
    clear h1
    go_enter Try.func15, Try.ntmps15
    go_wp2
    go_ret
    exact ⟨ret_bool HE.out.symm, by go_grown⟩
  have hb1 : (x.f1 != y.f1) = false := by simp [h1]
  have H1 := Lib.hid h1; clear h1
  by_cases hl : x.f2.length = y.f2.length
  case neg =>
    have HE := Lib.hid (sameTrackB_no (x := x) (y := y) (fun h => hl (by rw [h])))
    have hb2 : ((x.f2.length : Int) != (y.f2.length : Int)) = true := by simp; omega
    clear hl
    go_enter Try.func15, Try.ntmps15
    go_wp2
    go_ret
    exact ⟨ret_bool HE.out.symm, by go_grown⟩
  have hb2 : ((x.f2.length : Int) != (y.f2.length : Int)) = false := by simp; omega
  have HL := Lib.hid hl; clear hl
  go_enter Try.func15, Try.ntmps15
  go_wp2
  have BX := Lib.hid (show BoxAt ((w.alloc (.cells #[.int .i64 x.f0, .int .i64 x.f1, .slice a x.f2.length c] 29)).alloc (.cells #[.int .i64 y.f0, .int .i64 y.f1, .slice b y.f2.length d] 29)) w.heap.size #[.int .i64 x.f0, .int .i64 x.f1, .slice a x.f2.length c] from (BoxAt.new _ _ _ _ rfl).alloc _ (by simp))
  have BY := Lib.hid (show BoxAt ((w.alloc (.cells #[.int .i64 x.f0, .int .i64 x.f1, .slice a x.f2.length c] 29)).alloc (.cells #[.int .i64 y.f0, .int .i64 y.f1, .slice b y.f2.length d] 29)) (w.heap.size + 1) #[.int .i64 y.f0, .int .i64 y.f1, .slice b y.f2.length d] from BoxAt.new _ _ _ _ (by simp))
  have FB := Lib.hid (show Below w.heap.size w ((w.alloc (.cells #[.int .i64 x.f0, .int .i64 x.f1, .slice a x.f2.length c] 29)).alloc (.cells #[.int .i64 y.f0, .int .i64 y.f1, .slice b y.f2.length d] 29)) by go_grown)
  obtain ⟨W0, hW0⟩ : ∃ W0, (w.alloc (.cells #[.int .i64 x.f0, .int .i64 x.f1, .slice a x.f2.length c] 29)).alloc (.cells #[.int .i64 y.f0, .int .i64 y.f1, .slice b y.f2.length d] 29) = W0 := ⟨_, rfl⟩
  have hz : W0.heap.size = w.heap.size + 2 := by rw [← hW0]; simp
  rw [hW0] at BX BY FB ⊢
  clear hW0
  have HZ := Lib.hid hz; clear hz
  go_loopw [5] (fun i wr => ∃ k : Nat, k ≤ x.f2.length ∧ i = .int .i64 k ∧ Hid (x.f2.take k = y.f2.take k) ∧ Below W0.heap.size W0 wr) (fun i _ => x.f2.length - (intOf i).toNat)
  case atStart => exact ⟨0, Nat.zero_le _, rfl, by unfold Hid; rfl, Below.refl _ _⟩
  case round =>
    obtain ⟨k, hk, rfl, hT, hb⟩ := hrel
    have bx : ∀ i v, #[Value.int .i64 x.f0, .int .i64 x.f1, .slice a x.f2.length c][i]? = some v → wr.cell? ⟨w.heap.size, i, none⟩ = some v := BX.out.below hb (by have := HZ.out; omega)
    have byy : ∀ i v, #[Value.int .i64 y.f0, .int .i64 y.f1, .slice b y.f2.length d][i]? = some v → wr.cell? ⟨w.heap.size + 1, i, none⟩ = some v := BY.out.below hb (by have := HZ.out; omega)
    have x2 := bx 2 _ rfl
    have y2 := byy 2 _ rfl
    clear bx byy
    have hbw : Below w.heap.size w wr := FB.out.trans (hb.mono (by have := HZ.out; omega))
    have h1' := hh1.out.below hbw (Nat.le_refl _)
    have h2' := hh2.out.below hbw (Nat.le_refl _)
    have HBW := Lib.hid hbw; clear hbw
    by_cases hlt : k < x.f2.length
    · have hly : k < y.f2.length := by have := HL.out; omega
      obtain ⟨u, hxk⟩ : ∃ e, x.f2[k]? = some e := ⟨x.f2[k], by simp [hlt]⟩
      obtain ⟨v, hyk⟩ : ∃ e, y.f2[k]? = some e := ⟨y.f2[k], by simp [hly]⟩
      obtain ⟨bx, ox, rfl, hlx, hcx⟩ := h1'.at rowSectorSpec_len hxk
      obtain ⟨b2, o2, rfl, hly2, hcy⟩ := h2'.at rowSectorSpec_len hyk
      have c0 : wr.cell? ⟨bx, ox + k * 8, none⟩ = some (.int .i64 u.f0) := hcx 0 _ rfl
      have d0 : wr.cell? ⟨b2, o2 + k * 8, none⟩ = some (.int .i64 v.f0) := hcy 0 _ rfl
      have c1 : wr.cell? ⟨bx, ox + k * 8 + 1, none⟩ = some (.int .i64 u.f1) := hcx 1 _ rfl
      have d1 : wr.cell? ⟨b2, o2 + k * 8 + 1, none⟩ = some (.int .i64 v.f1) := hcy 1 _ rfl
      have c2 : wr.cell? ⟨bx, ox + k * 8 + 2, none⟩ = some (.int .i64 u.f2) := hcx 2 _ rfl
      have d2 : wr.cell? ⟨b2, o2 + k * 8 + 2, none⟩ = some (.int .i64 v.f2) := hcy 2 _ rfl
      have c3 : wr.cell? ⟨bx, ox + k * 8 + 3, none⟩ = some (.int .i64 u.f3) := hcx 3 _ rfl
      have d3 : wr.cell? ⟨b2, o2 + k * 8 + 3, none⟩ = some (.int .i64 v.f3) := hcy 3 _ rfl
      have c4 : wr.cell? ⟨bx, ox + k * 8 + 4, none⟩ = some (.string u.f4) := hcx 4 _ rfl
      have d4 : wr.cell? ⟨b2, o2 + k * 8 + 4, none⟩ = some (.string v.f4) := hcy 4 _ rfl
      have c5 : wr.cell? ⟨bx, ox + k * 8 + 5, none⟩ = some (.bool u.f5) := hcx 5 _ rfl
      have d5 : wr.cell? ⟨b2, o2 + k * 8 + 5, none⟩ = some (.bool v.f5) := hcy 5 _ rfl
      have c6 : wr.cell? ⟨bx, ox + k * 8 + 6, none⟩ = some (.bool u.f6) := hcx 6 _ rfl
      have d6 : wr.cell? ⟨b2, o2 + k * 8 + 6, none⟩ = some (.bool v.f6) := hcy 6 _ rfl
      have c7 : wr.cell? ⟨bx, ox + k * 8 + 7, none⟩ = some (.bool u.f7) := hcx 7 _ rfl
      have d7 : wr.cell? ⟨b2, o2 + k * 8 + 7, none⟩ = some (.bool v.f7) := hcy 7 _ rfl
      have HX := Lib.hid hxk; have HY := Lib.hid hyk; clear hxk hyk
      have e1 : (k : Int) < x.f2.length := by omega
      have e2 : (k : Int) < y.f2.length := by omega
      have G1 := Lib.hid (And.intro h1' hcx); have G2 := Lib.hid (And.intro h2' hcy); clear h1' h2' hcx hcy hlx hly2
      have nq := fun w => neqSectorSpec u v w
      obtain ⟨q, hq⟩ : ∃ q, sameSectorSpec u v = q := ⟨_, rfl⟩
      rw [hq] at nq
      have HQ := Lib.hid hq; clear hq
      have HB := Lib.hid hb; clear hb
      cases q
      · simp only [Bool.not_false] at nq
        have HE := Lib.hid (sameTrackB_no (x := x) (y := y) (fun h => by
          have h3 := HX.out
          rw [h, HY.out] at h3
          have h4 := sameSectorSpec_iff.2 (Option.some.inj h3).symm
          rw [HQ.out] at h4
          cases h4))
        go_wp2
        go_quiet (fail)
        go_wp2
        go_ret
        exact ⟨ret_bool HE.out.symm, below_drewN' HBW.out _⟩
      · simp only [Bool.not_true] at nq
        go_wp2
        go_quiet (fail)
        go_wp2
        go_roundw
        case rel => exact ⟨k + 1, by omega, by go_num, by unfold Hid; rw [List.take_add_one, List.take_add_one, HX.out, HY.out, hT.out, sameSectorSpec_iff.1 HQ.out], below_drewN' HB.out _⟩
        case measure => simp [intOf]; omega
    · clear h1' h2'
      obtain rfl : k = x.f2.length := by omega
      have HE := Lib.hid (show sameTrackB x y = true from sameTrackB_iff.2 (TrackSpecV.ext' ⟨H0.out, H1.out, take_eq HL.out hT.out⟩))
      go_wp2
      go_ret
      exact ⟨ret_bool HE.out.symm, HBW.out⟩
end Go.Proofs.Ytdpnpmfhnfecaaa
