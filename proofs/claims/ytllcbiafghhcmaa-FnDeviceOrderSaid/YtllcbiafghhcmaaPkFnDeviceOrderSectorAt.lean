/- impl.SectorBytes, spec.SectorBytes, (impl.geometry).index, trackAt, impl.SectorAt, spec.SectorAt -/
import Derived.Test.YtllcbiafghhcmaaPkFnDeviceOrderDiscValid
import Derived.Test.YtllcbiafghhcmaaPkFnDeviceOrderDiscSpecOk
import Derived.Test.YtllcbiafghhcmaaPkFnDeviceOrderBoxF
namespace Go.Proofs.Ytllcbiafghhcmaa
open Go.RowKit
set_option linter.unusedVariables false
set_option linter.unusedSimpArgs false
set_option maxRecDepth 20000
def secBytesV (z : Int) : Int := if inB 0 2 z = true then secN z else 0
set_option maxHeartbeats 1000000 in
theorem trackAt_any (a b c d cy hd : Int) (w : World) (h1 : wrap64 (cy * b) = cy * b) (h2 : wrap64 (cy * b + hd) = cy * b + hd) :
    Calls Try.prog 55 #[.agg #[.int .i64 a, .int .i64 b, .int .i64 c, .int .i64 d], .int .i64 cy, .int .i64 hd] w fun e w' => e = .returned (.int .i64 (cy * b + hd)) ∧ Below w.heap.size w w' := by
  go_enter Try.func55, Try.ntmps55
  go_wp2
  go_ret
  exact ⟨ret_int (by first | rfl | exact h2 | (rw [h1]; exact h2)), by go_grown⟩
set_option maxHeartbeats 1000000 in
theorem index_any (a b c d t nu : Int) (w : World) (h1 : wrap64 (t * c) = t * c) (h2 : wrap64 (t * c + nu) = t * c + nu) :
    Calls Try.prog 54 #[.agg #[.int .i64 a, .int .i64 b, .int .i64 c, .int .i64 d], .int .i64 t, .int .i64 nu] w fun e w' => e = .returned (.int .i64 (t * c + nu)) ∧ Below w.heap.size w w' := by
  go_enter Try.func54, Try.ntmps54
  go_wp2
  go_ret
  exact ⟨ret_int (by first | rfl | exact h2 | (rw [h1]; exact h2)), by go_grown⟩
def atIn (x : DiscV) (cy hd nu : Int) : Bool := inB 0 (x.f0 - 1) cy && (inB 0 (x.f1 - 1) hd && inB 0 (x.f2 - 1) nu)
def atIx (x : DiscV) (cy hd nu : Int) : Int := (cy * x.f1 + hd) * x.f2 + nu
def secAtC (x : DiscV) (cy hd nu : Int) : Int := if discB x = true then (if atIn x cy hd nu = true then 0 else 2) else 1
def secAtV (x : DiscV) (cy hd nu : Int) : SectorV := if discB x = true then (if atIn x cy hd nu = true then (x.f4[(atIx x cy hd nu).toNat]?).getD ⟨⟨#[]⟩, 0⟩ else ⟨⟨#[]⟩, 0⟩) else ⟨⟨#[]⟩, 0⟩
theorem ix_bound {a b c cy hd nu : Int} (ha : 1 ≤ a ∧ a ≤ 8) (hb : 1 ≤ b ∧ b ≤ 2) (hc : 1 ≤ c ∧ c ≤ 8) (h0 : 0 ≤ cy ∧ cy ≤ a - 1) (h1 : 0 ≤ hd ∧ hd ≤ b - 1) (h2 : 0 ≤ nu ∧ nu ≤ c - 1) :
    0 ≤ cy * b ∧ cy * b ≤ 14 ∧ 0 ≤ cy * b + hd ∧ cy * b + hd ≤ 15 ∧ 0 ≤ (cy * b + hd) * c ∧ (cy * b + hd) * c ≤ 120 ∧ 0 ≤ (cy * b + hd) * c + nu ∧ (cy * b + hd) * c + nu < a * b * c ∧ (cy * b + hd) * c + nu < 128 := by
  have h : b = 1 ∨ b = 2 := by omega
  have h2 : c = 1 ∨ c = 2 ∨ c = 3 ∨ c = 4 ∨ c = 5 ∨ c = 6 ∨ c = 7 ∨ c = 8 := by omega
  rcases h with rfl | rfl <;> rcases h2 with rfl | rfl | rfl | rfl | rfl | rfl | rfl | rfl <;> omega
set_option maxHeartbeats 8000000 in
theorem sectorAt_g (x : DiscV) (a : Option Addr) (c : Nat) (cy hd nu : Int) (hm : x.f4.length ≤ 1048576) (hs : ∀ e ∈ x.f4, e.f0.size ≤ 1048576) (w : World) (h : SlS rowSector w a x.f4) :
    Calls Try.prog 16 #[.agg #[.int .i64 x.f0, .int .i64 x.f1, .int .i64 x.f2, .int .i64 x.f3, .slice a x.f4.length c], .int .i64 cy, .int .i64 hd, .int .i64 nu] w fun e w' => e = .returned (.tuple #[.agg #[.string (secAtV x cy hd nu).f0, .int .i64 (secAtV x cy hd nu).f1], .int .i64 (secAtC x cy hd nu)]) ∧ Below w.heap.size w w' := by
  have hs2 : ∀ e ∈ x.f4, e.f0.size ≤ maxLen := fun e he => by have := hs e he; unfold maxLen; omega
  have SH := Lib.hid (fun w => shaped_any x a c w)
  have va := fun w' (hb : Below w.heap.size w w') => shValid_any x a c w' hm hs2 (h.below hb (Nat.le_refl _))
  have ELS := Lib.hid (fun w' (hb : Below w.heap.size w w') => h.below hb (Nat.le_refl _))
  unfold secAtC secAtV
  by_cases hd0 : discB x = true
  case neg =>
    have hdf : discB x = false := by simpa using hd0
    rw [hdf] at va
    rw [if_neg hd0, if_neg hd0]
    have VA := Lib.hid va
    obtain ⟨f0, f1, f2, f3, es⟩ := x
    dsimp only at *
    clear hd0 hdf va h hs hs2
    go_enter Try.func16, Try.ntmps16
    have FB := Lib.hid (Below.refl w.heap.size w)
    have FN : w.heap.size ≤ w.heap.size := Nat.le_refl _
    go_wp2_with fail
    refine (SH.out _).mono ?_
    rintro e w1 ⟨rfl, hb1⟩
    have hbE1 : Below w.heap.size w w1 := Below.trans (by go_grown) (hb1.mono (by simp <;> omega))
    have R : Hid (BoxF w1 (w.heap.size + 1) #[.string ⟨#[]⟩, .int .i64 0]) := Lib.hid (BoxF.below (boxF2 (by simp [go_sem]) (by simp [go_sem])) hb1 (by simp <;> omega))
    have hlR : (w.heap.size + 1) < w1.heap.size := Nat.lt_of_lt_of_le (by simp <;> omega) hb1.size
    replace FB := Lib.hid (FB.out.trans (hbE1.mono FN))
    replace FN := Nat.le_trans FN hbE1.size
    clear hb1 hbE1
    have hR1 := hlR
    go_wp2_with fail
    refine (VA.out _ (FB.out.trans (Below.mono (by go_grown) FN))).mono ?_
    rintro e w2 ⟨rfl, hb2⟩
    have hbE2 : Below w1.heap.size w1 w2 := Below.trans (by go_grown) (hb2.mono (by simp <;> omega))
    replace R := Lib.hid (R.out.below hbE2 hlR)
    replace hlR := Nat.lt_of_lt_of_le hlR hbE2.size
    have S : Hid (BoxF w2 w1.heap.size #[.int .i64 f0, .int .i64 f1, .int .i64 f2, .int .i64 f3, .slice a es.length c]) := Lib.hid (BoxF.below (boxF5 (by simp [go_sem]) (by simp [go_sem]) (by simp [go_sem]) (by simp [go_sem]) (by simp [go_sem])) hb2 (by simp <;> omega))
    have hlS : w1.heap.size < w2.heap.size := Nat.lt_of_lt_of_le (by simp <;> omega) hb2.size
    replace FB := Lib.hid (FB.out.trans (hbE2.mono FN))
    replace FN := Nat.le_trans FN hbE2.size
    clear hb2 hbE2
    obtain ⟨xR0, yR0⟩ := R.out 0 _ rfl
    obtain ⟨xR1, yR1⟩ := R.out 1 _ rfl
    go_wp2
    refine bodyPost_ret (v := .tuple #[.agg #[.string ⟨#[]⟩, .int .i64 0], .int .i64 1]) (by simp [results, Try.results16, go_sem, xR0, yR0, xR1, yR1]) rfl ⟨rfl, ?_⟩
    exact ((FB.out).setCell (by simp <;> omega) _).setCell (by simp <;> omega) _
  have hdd := hd0
  rw [hd0] at va
  rw [if_pos hd0, if_pos hd0]
  have VA := Lib.hid va
  unfold discB at hdd
  simp only [Bool.and_eq_true, decide_eq_true_eq] at hdd
  obtain ⟨hg, hln, _⟩ := hdd
  obtain ⟨g0, g1, g2, g3⟩ := geoB_iff.1 hg
  unfold atIn atIx
  obtain ⟨f0, f1, f2, f3, es⟩ := x
  dsimp only at *
  have P0 := Lib.hid (fun w => isPlace_any cy f0 w (by omega) (by omega))
  have P1 := Lib.hid (fun w => isPlace_any hd f1 w (by omega) (by omega))
  have P2 := Lib.hid (fun w => isPlace_any nu f2 w (by omega) (by omega))
  clear hd0 va h hg hs
  by_cases h0 : inB 0 (f0 - 1) cy = true
  case neg =>
    have hf : inB 0 (f0 - 1) cy = false := by simpa using h0
    rw [hf] at P0 ⊢
    rw [if_neg (by simp), if_neg (by simp)]
    clear h0 hf hln g0 g1 g2 g3
    go_enter Try.func16, Try.ntmps16
    have FB := Lib.hid (Below.refl w.heap.size w)
    have FN : w.heap.size ≤ w.heap.size := Nat.le_refl _
    go_wp2_with fail
    refine (SH.out _).mono ?_
    rintro e w1 ⟨rfl, hb1⟩
    have hbE1 : Below w.heap.size w w1 := Below.trans (by go_grown) (hb1.mono (by simp <;> omega))
    have R : Hid (BoxF w1 (w.heap.size + 1) #[.string ⟨#[]⟩, .int .i64 0]) := Lib.hid (BoxF.below (boxF2 (by simp [go_sem]) (by simp [go_sem])) hb1 (by simp <;> omega))
    have hlR : (w.heap.size + 1) < w1.heap.size := Nat.lt_of_lt_of_le (by simp <;> omega) hb1.size
    replace FB := Lib.hid (FB.out.trans (hbE1.mono FN))
    replace FN := Nat.le_trans FN hbE1.size
    clear hb1 hbE1
    have hR1 := hlR
    go_wp2_with fail
    refine (VA.out _ (FB.out.trans (Below.mono (by go_grown) FN))).mono ?_
    rintro e w2 ⟨rfl, hb2⟩
    have hbE2 : Below w1.heap.size w1 w2 := Below.trans (by go_grown) (hb2.mono (by simp <;> omega))
    replace R := Lib.hid (R.out.below hbE2 hlR)
    replace hlR := Nat.lt_of_lt_of_le hlR hbE2.size
    have S : Hid (BoxF w2 w1.heap.size #[.int .i64 f0, .int .i64 f1, .int .i64 f2, .int .i64 f3, .slice a es.length c]) := Lib.hid (BoxF.below (boxF5 (by simp [go_sem]) (by simp [go_sem]) (by simp [go_sem]) (by simp [go_sem]) (by simp [go_sem])) hb2 (by simp <;> omega))
    have hlS : w1.heap.size < w2.heap.size := Nat.lt_of_lt_of_le (by simp <;> omega) hb2.size
    replace FB := Lib.hid (FB.out.trans (hbE2.mono FN))
    replace FN := Nat.le_trans FN hbE2.size
    clear hb2 hbE2
    obtain ⟨xS0, yS0⟩ := S.out 0 _ rfl
    obtain ⟨xS1, yS1⟩ := S.out 1 _ rfl
    obtain ⟨xS2, yS2⟩ := S.out 2 _ rfl
    obtain ⟨xS3, yS3⟩ := S.out 3 _ rfl
    obtain ⟨xS4, yS4⟩ := S.out 4 _ rfl
    go_wp2_with fail
    refine (P0.out _).mono ?_
    rintro e w3 ⟨rfl, hb3⟩
    clear xS0 yS0 xS1 yS1 xS2 yS2 xS3 yS3 xS4 yS4
    have hbE3 : Below w2.heap.size w2 w3 := Below.trans (by go_grown) (hb3.mono (by simp <;> omega))
    replace R := Lib.hid (R.out.below hbE3 hlR)
    replace hlR := Nat.lt_of_lt_of_le hlR hbE3.size
    replace S := Lib.hid (S.out.below hbE3 hlS)
    replace hlS := Nat.lt_of_lt_of_le hlS hbE3.size
    replace FB := Lib.hid (FB.out.trans (hbE3.mono FN))
    replace FN := Nat.le_trans FN hbE3.size
    clear hb3 hbE3
    obtain ⟨xR0, yR0⟩ := R.out 0 _ rfl
    obtain ⟨xR1, yR1⟩ := R.out 1 _ rfl
    go_wp2
    refine bodyPost_ret (v := .tuple #[.agg #[.string ⟨#[]⟩, .int .i64 0], .int .i64 2]) (by simp [results, Try.results16, go_sem, xR0, yR0, xR1, yR1]) rfl ⟨rfl, ?_⟩
    exact ((FB.out).setCell (by simp <;> omega) _).setCell (by simp <;> omega) _
  by_cases h1 : inB 0 (f1 - 1) hd = true
  case neg =>
    have hf : inB 0 (f1 - 1) hd = false := by simpa using h1
    rw [h0] at P0
    rw [hf] at P1
    rw [h0, hf]
    rw [if_neg (by simp), if_neg (by simp)]
    clear h0 h1 hf hln g0 g1 g2 g3
    go_enter Try.func16, Try.ntmps16
    have FB := Lib.hid (Below.refl w.heap.size w)
    have FN : w.heap.size ≤ w.heap.size := Nat.le_refl _
    go_wp2_with fail
    refine (SH.out _).mono ?_
    rintro e w1 ⟨rfl, hb1⟩
    have hbE1 : Below w.heap.size w w1 := Below.trans (by go_grown) (hb1.mono (by simp <;> omega))
    have R : Hid (BoxF w1 (w.heap.size + 1) #[.string ⟨#[]⟩, .int .i64 0]) := Lib.hid (BoxF.below (boxF2 (by simp [go_sem]) (by simp [go_sem])) hb1 (by simp <;> omega))
    have hlR : (w.heap.size + 1) < w1.heap.size := Nat.lt_of_lt_of_le (by simp <;> omega) hb1.size
    replace FB := Lib.hid (FB.out.trans (hbE1.mono FN))
    replace FN := Nat.le_trans FN hbE1.size
    clear hb1 hbE1
    have hR1 := hlR
    go_wp2_with fail
    refine (VA.out _ (FB.out.trans (Below.mono (by go_grown) FN))).mono ?_
    rintro e w2 ⟨rfl, hb2⟩
    have hbE2 : Below w1.heap.size w1 w2 := Below.trans (by go_grown) (hb2.mono (by simp <;> omega))
    replace R := Lib.hid (R.out.below hbE2 hlR)
    replace hlR := Nat.lt_of_lt_of_le hlR hbE2.size
    have S : Hid (BoxF w2 w1.heap.size #[.int .i64 f0, .int .i64 f1, .int .i64 f2, .int .i64 f3, .slice a es.length c]) := Lib.hid (BoxF.below (boxF5 (by simp [go_sem]) (by simp [go_sem]) (by simp [go_sem]) (by simp [go_sem]) (by simp [go_sem])) hb2 (by simp <;> omega))
    have hlS : w1.heap.size < w2.heap.size := Nat.lt_of_lt_of_le (by simp <;> omega) hb2.size
    replace FB := Lib.hid (FB.out.trans (hbE2.mono FN))
    replace FN := Nat.le_trans FN hbE2.size
    clear hb2 hbE2
    obtain ⟨xS0, yS0⟩ := S.out 0 _ rfl
    obtain ⟨xS1, yS1⟩ := S.out 1 _ rfl
    obtain ⟨xS2, yS2⟩ := S.out 2 _ rfl
    obtain ⟨xS3, yS3⟩ := S.out 3 _ rfl
    obtain ⟨xS4, yS4⟩ := S.out 4 _ rfl
    go_wp2_with fail
    refine (P0.out _).mono ?_
    rintro e w3 ⟨rfl, hb3⟩
    clear xS0 yS0 xS1 yS1 xS2 yS2 xS3 yS3 xS4 yS4
    have hbE3 : Below w2.heap.size w2 w3 := Below.trans (by go_grown) (hb3.mono (by simp <;> omega))
    replace R := Lib.hid (R.out.below hbE3 hlR)
    replace hlR := Nat.lt_of_lt_of_le hlR hbE3.size
    replace S := Lib.hid (S.out.below hbE3 hlS)
    replace hlS := Nat.lt_of_lt_of_le hlS hbE3.size
    replace FB := Lib.hid (FB.out.trans (hbE3.mono FN))
    replace FN := Nat.le_trans FN hbE3.size
    clear hb3 hbE3
    obtain ⟨xS0, yS0⟩ := S.out 0 _ rfl
    obtain ⟨xS1, yS1⟩ := S.out 1 _ rfl
    obtain ⟨xS2, yS2⟩ := S.out 2 _ rfl
    obtain ⟨xS3, yS3⟩ := S.out 3 _ rfl
    obtain ⟨xS4, yS4⟩ := S.out 4 _ rfl
    go_wp2_with fail
    refine (P1.out _).mono ?_
    rintro e w4 ⟨rfl, hb4⟩
    clear xS0 yS0 xS1 yS1 xS2 yS2 xS3 yS3 xS4 yS4
    have hbE4 : Below w3.heap.size w3 w4 := Below.trans (by go_grown) (hb4.mono (by simp <;> omega))
    replace R := Lib.hid (R.out.below hbE4 hlR)
    replace hlR := Nat.lt_of_lt_of_le hlR hbE4.size
    replace S := Lib.hid (S.out.below hbE4 hlS)
    replace hlS := Nat.lt_of_lt_of_le hlS hbE4.size
    replace FB := Lib.hid (FB.out.trans (hbE4.mono FN))
    replace FN := Nat.le_trans FN hbE4.size
    clear hb4 hbE4
    obtain ⟨xR0, yR0⟩ := R.out 0 _ rfl
    obtain ⟨xR1, yR1⟩ := R.out 1 _ rfl
    go_wp2
    refine bodyPost_ret (v := .tuple #[.agg #[.string ⟨#[]⟩, .int .i64 0], .int .i64 2]) (by simp [results, Try.results16, go_sem, xR0, yR0, xR1, yR1]) rfl ⟨rfl, ?_⟩
    exact ((FB.out).setCell (by simp <;> omega) _).setCell (by simp <;> omega) _
  by_cases h2 : inB 0 (f2 - 1) nu = true
  case neg =>
    have hf : inB 0 (f2 - 1) nu = false := by simpa using h2
    rw [h0] at P0
    rw [h1] at P1
    rw [hf] at P2
    rw [h0, h1, hf]
    rw [if_neg (by simp), if_neg (by simp)]
    clear h0 h1 h2 hf hln g0 g1 g2 g3
    go_enter Try.func16, Try.ntmps16
    have FB := Lib.hid (Below.refl w.heap.size w)
    have FN : w.heap.size ≤ w.heap.size := Nat.le_refl _
    go_wp2_with fail
    refine (SH.out _).mono ?_
    rintro e w1 ⟨rfl, hb1⟩
    have hbE1 : Below w.heap.size w w1 := Below.trans (by go_grown) (hb1.mono (by simp <;> omega))
    have R : Hid (BoxF w1 (w.heap.size + 1) #[.string ⟨#[]⟩, .int .i64 0]) := Lib.hid (BoxF.below (boxF2 (by simp [go_sem]) (by simp [go_sem])) hb1 (by simp <;> omega))
    have hlR : (w.heap.size + 1) < w1.heap.size := Nat.lt_of_lt_of_le (by simp <;> omega) hb1.size
    replace FB := Lib.hid (FB.out.trans (hbE1.mono FN))
    replace FN := Nat.le_trans FN hbE1.size
    clear hb1 hbE1
    have hR1 := hlR
    go_wp2_with fail
    refine (VA.out _ (FB.out.trans (Below.mono (by go_grown) FN))).mono ?_
    rintro e w2 ⟨rfl, hb2⟩
    have hbE2 : Below w1.heap.size w1 w2 := Below.trans (by go_grown) (hb2.mono (by simp <;> omega))
    replace R := Lib.hid (R.out.below hbE2 hlR)
    replace hlR := Nat.lt_of_lt_of_le hlR hbE2.size
    have S : Hid (BoxF w2 w1.heap.size #[.int .i64 f0, .int .i64 f1, .int .i64 f2, .int .i64 f3, .slice a es.length c]) := Lib.hid (BoxF.below (boxF5 (by simp [go_sem]) (by simp [go_sem]) (by simp [go_sem]) (by simp [go_sem]) (by simp [go_sem])) hb2 (by simp <;> omega))
    have hlS : w1.heap.size < w2.heap.size := Nat.lt_of_lt_of_le (by simp <;> omega) hb2.size
    replace FB := Lib.hid (FB.out.trans (hbE2.mono FN))
    replace FN := Nat.le_trans FN hbE2.size
    clear hb2 hbE2
    obtain ⟨xS0, yS0⟩ := S.out 0 _ rfl
    obtain ⟨xS1, yS1⟩ := S.out 1 _ rfl
    obtain ⟨xS2, yS2⟩ := S.out 2 _ rfl
    obtain ⟨xS3, yS3⟩ := S.out 3 _ rfl
    obtain ⟨xS4, yS4⟩ := S.out 4 _ rfl
    go_wp2_with fail
    refine (P0.out _).mono ?_
    rintro e w3 ⟨rfl, hb3⟩
    clear xS0 yS0 xS1 yS1 xS2 yS2 xS3 yS3 xS4 yS4
    have hbE3 : Below w2.heap.size w2 w3 := Below.trans (by go_grown) (hb3.mono (by simp <;> omega))
    replace R := Lib.hid (R.out.below hbE3 hlR)
    replace hlR := Nat.lt_of_lt_of_le hlR hbE3.size
    replace S := Lib.hid (S.out.below hbE3 hlS)
    replace hlS := Nat.lt_of_lt_of_le hlS hbE3.size
    replace FB := Lib.hid (FB.out.trans (hbE3.mono FN))
    replace FN := Nat.le_trans FN hbE3.size
    clear hb3 hbE3
    obtain ⟨xS0, yS0⟩ := S.out 0 _ rfl
    obtain ⟨xS1, yS1⟩ := S.out 1 _ rfl
    obtain ⟨xS2, yS2⟩ := S.out 2 _ rfl
    obtain ⟨xS3, yS3⟩ := S.out 3 _ rfl
    obtain ⟨xS4, yS4⟩ := S.out 4 _ rfl
    go_wp2_with fail
    refine (P1.out _).mono ?_
    rintro e w4 ⟨rfl, hb4⟩
    clear xS0 yS0 xS1 yS1 xS2 yS2 xS3 yS3 xS4 yS4
    have hbE4 : Below w3.heap.size w3 w4 := Below.trans (by go_grown) (hb4.mono (by simp <;> omega))
    replace R := Lib.hid (R.out.below hbE4 hlR)
    replace hlR := Nat.lt_of_lt_of_le hlR hbE4.size
    replace S := Lib.hid (S.out.below hbE4 hlS)
    replace hlS := Nat.lt_of_lt_of_le hlS hbE4.size
    replace FB := Lib.hid (FB.out.trans (hbE4.mono FN))
    replace FN := Nat.le_trans FN hbE4.size
    clear hb4 hbE4
    obtain ⟨xS0, yS0⟩ := S.out 0 _ rfl
    obtain ⟨xS1, yS1⟩ := S.out 1 _ rfl
    obtain ⟨xS2, yS2⟩ := S.out 2 _ rfl
    obtain ⟨xS3, yS3⟩ := S.out 3 _ rfl
    obtain ⟨xS4, yS4⟩ := S.out 4 _ rfl
    go_wp2_with fail
    refine (P2.out _).mono ?_
    rintro e w5 ⟨rfl, hb5⟩
    clear xS0 yS0 xS1 yS1 xS2 yS2 xS3 yS3 xS4 yS4
    have hbE5 : Below w4.heap.size w4 w5 := Below.trans (by go_grown) (hb5.mono (by simp <;> omega))
    replace R := Lib.hid (R.out.below hbE5 hlR)
    replace hlR := Nat.lt_of_lt_of_le hlR hbE5.size
    replace S := Lib.hid (S.out.below hbE5 hlS)
    replace hlS := Nat.lt_of_lt_of_le hlS hbE5.size
    replace FB := Lib.hid (FB.out.trans (hbE5.mono FN))
    replace FN := Nat.le_trans FN hbE5.size
    clear hb5 hbE5
    obtain ⟨xR0, yR0⟩ := R.out 0 _ rfl
    obtain ⟨xR1, yR1⟩ := R.out 1 _ rfl
    go_wp2
    refine bodyPost_ret (v := .tuple #[.agg #[.string ⟨#[]⟩, .int .i64 0], .int .i64 2]) (by simp [results, Try.results16, go_sem, xR0, yR0, xR1, yR1]) rfl ⟨rfl, ?_⟩
    exact ((FB.out).setCell (by simp <;> omega) _).setCell (by simp <;> omega) _
  have i0 := inB_iff.1 h0
  have i1 := inB_iff.1 h1
  have i2 := inB_iff.1 h2
  obtain ⟨b0, b1, b2, b3, b4, b5, b6, b7, b8⟩ := ix_bound g0 g1 g2 i0 i1 i2
  rw [h0] at P0
  rw [h1] at P1
  rw [h2] at P2
  rw [h0, h1, h2]
  rw [if_pos (by simp), if_pos (by simp)]
  clear h0 h1 h2 i0 i1 i2
  have k1 : wrap64 (cy * f1) = cy * f1 := by unfold wrap64; omega
  have k2 : wrap64 (cy * f1 + hd) = cy * f1 + hd := by unfold wrap64; omega
  have k3 : wrap64 ((cy * f1 + hd) * f2) = (cy * f1 + hd) * f2 := by unfold wrap64; omega
  have k4 : wrap64 ((cy * f1 + hd) * f2 + nu) = (cy * f1 + hd) * f2 + nu := by unfold wrap64; omega
  have TA := Lib.hid (fun w => trackAt_any f0 f1 f2 f3 cy hd w k1 k2)
  have IX := Lib.hid (fun w => index_any f0 f1 f2 f3 (cy * f1 + hd) nu w k3 k4)
  clear k1 k2 k3 k4 g0 g1 g2 g3 b0 b1 b2 b3 b4 b5
  rw [← hln] at b7
  clear hln
  generalize cy * f1 + hd = t at *
  generalize t * f2 + nu = q at *
  obtain ⟨m, rfl⟩ : ∃ m : Nat, q = (m : Int) := ⟨q.toNat, by omega⟩
  rw [Int.toNat_natCast]
  have hlt : m < es.length := by omega
  obtain ⟨e, hx⟩ : ∃ e, es[m]? = some e := ⟨es[m], by simp [hlt]⟩
  rw [hx, Option.getD_some]
  obtain ⟨b, off, rfl, hbl, hc⟩ := (ELS.out w (Below.refl _ _)).at rowSector_len hx
  have HCE := Lib.hid hc
  clear ELS hc
  go_enter Try.func16, Try.ntmps16
  have FB := Lib.hid (Below.refl w.heap.size w)
  have FN : w.heap.size ≤ w.heap.size := Nat.le_refl _
  go_wp2_with fail
  refine (SH.out _).mono ?_
  rintro e w1 ⟨rfl, hb1⟩
  have hbE1 : Below w.heap.size w w1 := Below.trans (by go_grown) (hb1.mono (by simp <;> omega))
  have R : Hid (BoxF w1 (w.heap.size + 1) #[.string ⟨#[]⟩, .int .i64 0]) := Lib.hid (BoxF.below (boxF2 (by simp [go_sem]) (by simp [go_sem])) hb1 (by simp <;> omega))
  have hlR : (w.heap.size + 1) < w1.heap.size := Nat.lt_of_lt_of_le (by simp <;> omega) hb1.size
  replace FB := Lib.hid (FB.out.trans (hbE1.mono FN))
  replace FN := Nat.le_trans FN hbE1.size
  clear hb1 hbE1
  have hR1 := hlR
  go_wp2_with fail
  refine (VA.out _ (FB.out.trans (Below.mono (by go_grown) FN))).mono ?_
  rintro e w2 ⟨rfl, hb2⟩
  have hbE2 : Below w1.heap.size w1 w2 := Below.trans (by go_grown) (hb2.mono (by simp <;> omega))
  replace R := Lib.hid (R.out.below hbE2 hlR)
  replace hlR := Nat.lt_of_lt_of_le hlR hbE2.size
  have S : Hid (BoxF w2 w1.heap.size #[.int .i64 f0, .int .i64 f1, .int .i64 f2, .int .i64 f3, .slice (some ⟨b, off, none⟩) es.length c]) := Lib.hid (BoxF.below (boxF5 (by simp [go_sem]) (by simp [go_sem]) (by simp [go_sem]) (by simp [go_sem]) (by simp [go_sem])) hb2 (by simp <;> omega))
  have hlS : w1.heap.size < w2.heap.size := Nat.lt_of_lt_of_le (by simp <;> omega) hb2.size
  replace FB := Lib.hid (FB.out.trans (hbE2.mono FN))
  replace FN := Nat.le_trans FN hbE2.size
  clear hb2 hbE2
  obtain ⟨xS0, yS0⟩ := S.out 0 _ rfl
  obtain ⟨xS1, yS1⟩ := S.out 1 _ rfl
  obtain ⟨xS2, yS2⟩ := S.out 2 _ rfl
  obtain ⟨xS3, yS3⟩ := S.out 3 _ rfl
  obtain ⟨xS4, yS4⟩ := S.out 4 _ rfl
  go_wp2_with fail
  refine (P0.out _).mono ?_
  rintro e w3 ⟨rfl, hb3⟩
  clear xS0 yS0 xS1 yS1 xS2 yS2 xS3 yS3 xS4 yS4
  have hbE3 : Below w2.heap.size w2 w3 := Below.trans (by go_grown) (hb3.mono (by simp <;> omega))
  replace R := Lib.hid (R.out.below hbE3 hlR)
  replace hlR := Nat.lt_of_lt_of_le hlR hbE3.size
  replace S := Lib.hid (S.out.below hbE3 hlS)
  replace hlS := Nat.lt_of_lt_of_le hlS hbE3.size
  replace FB := Lib.hid (FB.out.trans (hbE3.mono FN))
  replace FN := Nat.le_trans FN hbE3.size
  clear hb3 hbE3
  obtain ⟨xS0, yS0⟩ := S.out 0 _ rfl
  obtain ⟨xS1, yS1⟩ := S.out 1 _ rfl
  obtain ⟨xS2, yS2⟩ := S.out 2 _ rfl
  obtain ⟨xS3, yS3⟩ := S.out 3 _ rfl
  obtain ⟨xS4, yS4⟩ := S.out 4 _ rfl
  go_wp2_with fail
  refine (P1.out _).mono ?_
  rintro e w4 ⟨rfl, hb4⟩
  clear xS0 yS0 xS1 yS1 xS2 yS2 xS3 yS3 xS4 yS4
  have hbE4 : Below w3.heap.size w3 w4 := Below.trans (by go_grown) (hb4.mono (by simp <;> omega))
  replace R := Lib.hid (R.out.below hbE4 hlR)
  replace hlR := Nat.lt_of_lt_of_le hlR hbE4.size
  replace S := Lib.hid (S.out.below hbE4 hlS)
  replace hlS := Nat.lt_of_lt_of_le hlS hbE4.size
  replace FB := Lib.hid (FB.out.trans (hbE4.mono FN))
  replace FN := Nat.le_trans FN hbE4.size
  clear hb4 hbE4
  obtain ⟨xS0, yS0⟩ := S.out 0 _ rfl
  obtain ⟨xS1, yS1⟩ := S.out 1 _ rfl
  obtain ⟨xS2, yS2⟩ := S.out 2 _ rfl
  obtain ⟨xS3, yS3⟩ := S.out 3 _ rfl
  obtain ⟨xS4, yS4⟩ := S.out 4 _ rfl
  go_wp2_with fail
  refine (P2.out _).mono ?_
  rintro e w5 ⟨rfl, hb5⟩
  clear xS0 yS0 xS1 yS1 xS2 yS2 xS3 yS3 xS4 yS4
  have hbE5 : Below w4.heap.size w4 w5 := Below.trans (by go_grown) (hb5.mono (by simp <;> omega))
  replace R := Lib.hid (R.out.below hbE5 hlR)
  replace hlR := Nat.lt_of_lt_of_le hlR hbE5.size
  replace S := Lib.hid (S.out.below hbE5 hlS)
  replace hlS := Nat.lt_of_lt_of_le hlS hbE5.size
  replace FB := Lib.hid (FB.out.trans (hbE5.mono FN))
  replace FN := Nat.le_trans FN hbE5.size
  clear hb5 hbE5
  have KS := Lib.hid (fun w' (hb : Below w5.heap.size w5 w') => (show w'.cell? ⟨w1.heap.size, 0, none⟩ = some (.int .i64 f0) ∧ w'.cell? ⟨w1.heap.size, 1, none⟩ = some (.int .i64 f1) ∧ w'.cell? ⟨w1.heap.size, 2, none⟩ = some (.int .i64 f2) ∧ w'.cell? ⟨w1.heap.size, 3, none⟩ = some (.int .i64 f3) ∧ w'.cell? ⟨w1.heap.size, 4, none⟩ = some (.slice (some ⟨b, off, none⟩) es.length c) ∧ w'.cell? ⟨b, off + m * 2, none⟩ = some (.string e.f0) ∧ w'.cell? ⟨b, off + m * 2 + 1, none⟩ = some (.int .i64 e.f1) from ⟨((S.out.below hb hlS) 0 _ rfl).1, ((S.out.below hb hlS) 1 _ rfl).1, ((S.out.below hb hlS) 2 _ rfl).1, ((S.out.below hb hlS) 3 _ rfl).1, ((S.out.below hb hlS) 4 _ rfl).1, (HCE.out.below (FB.out.trans (hb.mono FN)) hbl) 0 _ rfl, (HCE.out.below (FB.out.trans (hb.mono FN)) hbl) 1 _ rfl⟩))
  have hnS : w1.heap.size ≠ w.heap.size + 1 := by omega
  have hnB : b ≠ w.heap.size + 1 := by omega
  have hkeep : ∀ (w' : World) (u0 u1 : Value) (B o : Nat), B ≠ w.heap.size + 1 → ((w'.setCell ⟨w.heap.size + 1, 0, none⟩ u0).setCell ⟨w.heap.size + 1, 1, none⟩ u1).cell? ⟨B, o, none⟩ = w'.cell? ⟨B, o, none⟩ := fun w' u0 u1 B o hB => World.cell?_of_block (by rw [Below.heap_setCell _ _ _ _ hB, Below.heap_setCell _ _ _ _ hB])
  have KST := Lib.hid (fun w' (hb : Below w5.heap.size w5 w') (u0 u1 : Value) => (show ((w'.setCell ⟨w.heap.size + 1, 0, none⟩ u0).setCell ⟨w.heap.size + 1, 1, none⟩ u1).cell? ⟨w1.heap.size, 0, none⟩ = some (.int .i64 f0) ∧ ((w'.setCell ⟨w.heap.size + 1, 0, none⟩ u0).setCell ⟨w.heap.size + 1, 1, none⟩ u1).cell? ⟨w1.heap.size, 1, none⟩ = some (.int .i64 f1) ∧ ((w'.setCell ⟨w.heap.size + 1, 0, none⟩ u0).setCell ⟨w.heap.size + 1, 1, none⟩ u1).cell? ⟨w1.heap.size, 2, none⟩ = some (.int .i64 f2) ∧ ((w'.setCell ⟨w.heap.size + 1, 0, none⟩ u0).setCell ⟨w.heap.size + 1, 1, none⟩ u1).cell? ⟨w1.heap.size, 3, none⟩ = some (.int .i64 f3) ∧ ((w'.setCell ⟨w.heap.size + 1, 0, none⟩ u0).setCell ⟨w.heap.size + 1, 1, none⟩ u1).cell? ⟨w1.heap.size, 4, none⟩ = some (.slice (some ⟨b, off, none⟩) es.length c) ∧ ((w'.setCell ⟨w.heap.size + 1, 0, none⟩ u0).setCell ⟨w.heap.size + 1, 1, none⟩ u1).cell? ⟨b, off + m * 2, none⟩ = some (.string e.f0) ∧ ((w'.setCell ⟨w.heap.size + 1, 0, none⟩ u0).setCell ⟨w.heap.size + 1, 1, none⟩ u1).cell? ⟨b, off + m * 2 + 1, none⟩ = some (.int .i64 e.f1) from by
    obtain ⟨l0, l1, l2, l3, l4, l5, l6⟩ := KS.out w' hb
    exact ⟨by rw [hkeep _ _ _ _ _ hnS]; exact l0, by rw [hkeep _ _ _ _ _ hnS]; exact l1, by rw [hkeep _ _ _ _ _ hnS]; exact l2, by rw [hkeep _ _ _ _ _ hnS]; exact l3, by rw [hkeep _ _ _ _ _ hnS]; exact l4, by rw [hkeep _ _ _ _ _ hnB]; exact l5, by rw [hkeep _ _ _ _ _ hnB]; exact l6⟩))
  have hks := KS.out _ (Below.refl _ _)
  have HC := Lib.hid (show Below w5.heap.size w5 w5.drew from (Below.refl _ _).drew)
  have e1 : (m : Int) < es.length := by omega
  clear b6 b7 b8 hkeep hnS hnB
  go_wp2
  go_region_held3 (fun w' => w'.cell? ⟨w1.heap.size, 0, none⟩ = some (.int .i64 f0) ∧ w'.cell? ⟨w1.heap.size, 1, none⟩ = some (.int .i64 f1) ∧ w'.cell? ⟨w1.heap.size, 2, none⟩ = some (.int .i64 f2) ∧ w'.cell? ⟨w1.heap.size, 3, none⟩ = some (.int .i64 f3) ∧ w'.cell? ⟨w1.heap.size, 4, none⟩ = some (.slice (some ⟨b, off, none⟩) es.length c) ∧ w'.cell? ⟨b, off + m * 2, none⟩ = some (.string e.f0) ∧ w'.cell? ⟨b, off + m * 2 + 1, none⟩ = some (.int .i64 e.f1))
    (first | (with_reducible exact KS.out _ HC.out) | (with_reducible exact KST.out _ HC.out _ _))
    (first
      | (go_at_call 55; ((with_reducible refine (TA.out _).mono ?_); rintro e_ w6 ⟨rfl, hb6⟩; replace HC := Lib.hid (HC.out.trans (hb6.mono HC.out.size))))
      | (go_at_call 54; ((with_reducible refine (IX.out _).mono ?_); rintro e_ w7 ⟨rfl, hb7⟩; replace HC := Lib.hid (HC.out.trans (hb7.mono HC.out.size)); obtain ⟨xR0, yR0⟩ := (R.out.below HC.out hlR) 0 _ rfl; obtain ⟨xR1, yR1⟩ := (R.out.below HC.out hlR) 1 _ rfl))
      | fail)
  all_goals
    go_wp2
    refine bodyPost_ret (v := .tuple #[.agg #[.string e.f0, .int .i64 e.f1], .int .i64 0]) (by simp [results, Try.results16, go_sem, xR0, yR0, xR1, yR1]) rfl ⟨rfl, ?_⟩
    exact (((FB.out.trans (HC.out.mono FN)).setCell (by simp <;> omega) _).setCell (by simp <;> omega) _)
end Go.Proofs.Ytllcbiafghhcmaa
