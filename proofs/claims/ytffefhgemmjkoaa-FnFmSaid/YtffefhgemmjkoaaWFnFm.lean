/- FnFm: the law's walk. -/
import Derived.Test.YtffefhgemmjkoaaData05
import Derived.Test.YtffefhgemmjkoaaRoundMfm
import Derived.Test.YtffefhgemmjkoaaEncodeFm
import Derived.Test.YtffefhgemmjkoaaFmMark
import Derived.Test.YtffefhgemmjkoaaA2Same
import Derived.Test.YtffefhgemmjkoaaSm
namespace Go.Proofs.Ytffefhgemmjkoaa.fnFm
open Go.RowKit
set_option linter.unusedVariables false
theorem mark_back : ∀ c, c < 256 → markOfV (markS c) = ((c : Int), true) := by decide +kernel
theorem mark_plain : ∀ c, c < 256 → markOfV (encV ⟨#[c.toUInt8]⟩ false false) = (0, false) := by decide +kernel
theorem mark_faults : ∀ c, c < 256 → faultsV (markS c) false false = [4, 6, 8] := by decide +kernel
set_option maxHeartbeats 8000000 in
set_option maxRecDepth 100000 in
theorem walk (a0 : Option Addr) (len0 cap0 : Nat) (z0 : List Int) (a1 : Option Addr) (len1 cap1 : Nat) (z1 : List Int) (w : World) (w0 : IsRow .u8 w a0 len0 cap0 z0) (w1 : IsRow .u8 w a1 len1 cap1 z1) :
    Calls Try.prog 6 #[.slice a0 len0 cap0, .slice a1 len1 cap1] w fun e w' => e = .returned (.bool true) ∧ Below w.heap.size w w' := by
  obtain ⟨hca, hcl⟩ := code_of w0
  obtain ⟨hcb, hcm⟩ := code_of w1
  have HL := Lib.hid (fun w => a2Long_any a0 a1 len0 len1 cap0 cap1 w)
  obtain ⟨lo, hlo⟩ : ∃ b, (decide (3000 < len0) || decide (3000 < len1)) = b := ⟨_, rfl⟩
  rw [hlo] at HL
  cases lo with
  | true =>
    clear hlo
    go_enter Try.func6, Try.ntmps6
    go_wp2_with fail
    refine (HL.out _).mono ?_
    rintro e w' ⟨rfl, rfl⟩
    go_wp2
    go_ret
    exact ⟨rfl, Below.refl _ _⟩
  | false =>
    have hl : len0 ≤ 3000 ∧ len1 ≤ 3000 := by simp at hlo; omega
    obtain ⟨hl0, hl1⟩ := hl
    have D0 := Lib.hid (a2Data_any a0 len0 cap0 w (by omega) hcl hca)
    have B0 := Lib.hid (fun w2 (hb : Below w.heap.size w w2) => a2Byte_any a1 len1 cap1 0 256 w2 (by omega) (by omega) (by omega) (by omega) (hcb.below hcm hb))
    clear hlo hca hcl hcb hcm
    go_enter Try.func6, Try.ntmps6
    go_wp2_with fail
    refine (HL.out _).mono ?_
    rintro e w' ⟨rfl, rfl⟩
    go_wp2_with fail
    refine D0.out.mono ?_
    rintro e w2 ⟨s, rfl, hs40, hb2⟩
    have hz := encV_size false false (show s.size ≤ 500 by omega)
    obtain ⟨hd1, hd2⟩ := decT_enc false false (show s.size ≤ 500 by omega)
    have hf := faultsV_enc false false (show s.size ≤ 500 by omega)
    have cE := fun w => encodeFm_any s (by omega) w
    generalize encV s false false = E at *
    have cD := fun w => decodeFm_any E (by omega) w
    rw [hd1, hd2] at cD
    have cF := fun w => clockFaults_any E false false (by omega) w
    rw [hf] at cF
    have hE16 : (E.size : Int) = 16 * s.size := by omega
    have CE := Lib.hid cE; have CD := Lib.hid cD; have CF := Lib.hid cF
    have hne16 : ((E.size : Int) != 16 * (s.size : Int)) = false := by rw [bne_eq_false_iff_eq]; omega
    clear cE cD cF hd1 hd2 hf HL D0 hz hE16
    go_wp2_with fail
    refine (CE.out _).mono ?_
    rintro e w3 ⟨rfl, hb3⟩
    have h3 := hb2.trans (hb3.mono hb2.size)
    clear hb2 hb3
    go_wp2_with fail
    refine (CD.out _).mono ?_
    rintro e w4 ⟨rfl, hb4⟩
    have h4 := h3.trans (hb4.mono h3.size)
    clear h3 hb4
    go_wp2_with fail
    refine (CF.out _).mono ?_
    rintro e w5 ⟨fa, fc, rfl, _, hb5⟩
    have h5 := h4.trans (hb5.mono h4.size)
    clear h4 hb5
    go_wp2_with fail
    refine (B0.out _ h5).mono ?_
    rintro e w6 ⟨v, rfl, hv, rfl⟩
    have m1 := mark_back v hv
    have m2 := mark_plain v hv
    have m3 := mark_faults v hv
    have hin : fmMarkV (v : Int) = markS v := fmMark_in (by rw [inB_iff]; omega)
    have hmz : (markS v).size = 16 := by show (cellsT (markN v)).toArray.size = 16; rw [List.size_toArray, cellsT_len]
    have cM := fun w => fmMark_any (v : Int) w
    rw [hin] at cM
    generalize markS v = M at *
    have cB := fun w => fmMarkOf_any M (by omega) w
    rw [m1] at cB
    have e8 : ((v : Int)).toNat.toUInt8 = v.toUInt8 := by rw [Int.toNat_natCast]
    have hv0 : (0 : Int) ≤ (v : Int) := by omega
    have hz1 := encV_size false false (show (⟨#[v.toUInt8]⟩ : ByteArray).size ≤ 500 by show 1 ≤ 500; omega)
    have cE1 := fun w => encodeFm_any ⟨#[v.toUInt8]⟩ (by show 1 ≤ 1048576; omega) w
    have hz2 : (⟨#[v.toUInt8]⟩ : ByteArray).size = 1 := rfl
    rw [hz2] at hz1
    generalize encV ⟨#[v.toUInt8]⟩ false false = E1 at *
    have cB1 := fun w => fmMarkOf_any E1 (by omega) w
    rw [m2] at cB1
    have cF1 := fun w => clockFaults_any M false false (by omega) w
    rw [m3] at cF1
    have hv256 : (v : Int) < 256 := by omega
    have HCV := Lib.hid (fun W => conv_new1 W (v : Int) hv0 hv256)
    rw [e8] at HCV
    have CM := Lib.hid cM; have CB := Lib.hid cB; have CE1 := Lib.hid cE1; have CB1 := Lib.hid cB1; have CF1 := Lib.hid cF1
    clear cM cB cE1 cB1 cF1 m1 m2 m3 hin hmz e8 hz1 hz2 B0
    go_wp2_with fail
    refine (CM.out _).mono ?_
    rintro e w7 ⟨rfl, hb7⟩
    have h7 := h5.trans (hb7.mono h5.size)
    clear h5 hb7
    go_wp2_with fail
    refine (CB.out _).mono ?_
    rintro e w8 ⟨rfl, hb8⟩
    have h8 := h7.trans (hb8.mono h7.size)
    clear h7 hb8
    have hcv := HCV.out w8
    go_wp2_with fail
    refine (CE1.out _).mono ?_
    rintro e w9 ⟨rfl, hb9⟩
    have h9 := (h8.alloc h8.size (.cells #[.int .u8 (v : Int)] 5)).trans (hb9.mono (by have := h8.size; simp; omega))
    clear h8 hb9 hcv
    go_wp2_with fail
    refine (CB1.out _).mono ?_
    rintro e w10 ⟨rfl, hb10⟩
    have h10 := h9.trans (hb10.mono h9.size)
    clear h9 hb10
    go_wp2_with fail
    refine (CF1.out _).mono ?_
    rintro e w11 ⟨ga, gc, rfl, hso, hb11⟩
    have h11 := h10.trans (hb11.mono h10.size)
    clear h10 hb11
    have HN := heap_alloc_new w11 (.cells #[.int .i64 4, .int .i64 6, .int .i64 8] 2)
    have hbl : Below w11.heap.size w11 (w11.alloc (.cells #[.int .i64 4, .int .i64 6, .int .i64 8] 2)) := (Below.refl _ _).alloc (Nat.le_refl _) _
    have s1 : SlA (w11.alloc (.cells #[.int .i64 4, .int .i64 6, .int .i64 8] 2)) ga [4, 6, 8] := hso.sl.below hbl (Nat.le_refl _)
    have s2 : SlA (w11.alloc (.cells #[.int .i64 4, .int .i64 6, .int .i64 8] 2)) (some ⟨w11.heap.size, 0, none⟩) [4, 6, 8] := by
      refine .inr ⟨w11.heap.size, 0, rfl, (Array.getElem?_eq_some_iff.1 HN).1, ?_⟩
      intro i x hx
      match i, hx with
      | 0, hx => simp at hx; subst hx; simp only [World.cell?, HN]; rfl
      | 1, hx => simp at hx; subst hx; simp only [World.cell?, HN]; rfl
      | 2, hx => simp at hx; subst hx; simp only [World.cell?, HN]; rfl
      | i + 3, hx => simp at hx
    have cS := a2Same_any ga (some ⟨w11.heap.size, 0, none⟩) [4, 6, 8] [4, 6, 8] gc 3 (w11.alloc (.cells #[.int .i64 4, .int .i64 6, .int .i64 8] 2)) (by decide) (by decide) s1 s2
    have e1 : (([4, 6, 8] : List Int) == [4, 6, 8]) = true := rfl
    rw [e1] at cS
    have CS := Lib.hid cS
    clear HN s1 s2 cS e1 hso hbl
    go_wp2_with fail
    refine CS.out.mono ?_
    rintro e w12 ⟨rfl, hb12⟩
    have h12 := (h11.alloc h11.size (.cells #[.int .i64 4, .int .i64 6, .int .i64 8] 2)).trans (hb12.mono (by have := h11.size; simp; omega))
    clear h11 hb12
    go_wp2
    go_ret
    exact ⟨rfl, h12⟩
end Go.Proofs.Ytffefhgemmjkoaa.fnFm
