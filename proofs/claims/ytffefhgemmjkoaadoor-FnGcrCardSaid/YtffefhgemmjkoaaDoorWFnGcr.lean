/- FnGcr: the law's walk. -/
import Derived.Test.YtffefhgemmjkoaaDoorData05
import Derived.Test.YtffefhgemmjkoaaDoorRoundGcr
import Derived.Test.YtffefhgemmjkoaaDoorGcrFaultsIm
import Derived.Test.YtffefhgemmjkoaaDoorSm
namespace Go.Proofs.YtffefhgemmjkoaaDoor.fnGcr
open Go.RowKit
set_option maxRecDepth 20000
set_option linter.unusedVariables false
set_option maxHeartbeats 8000000 in
set_option maxRecDepth 100000 in
theorem walk (a0 : Option Addr) (len0 cap0 : Nat) (z0 : List Int) (w : World) (hw : 0 < w.heap.size) (htab : GrpTab w) (w0 : IsRow .u8 w a0 len0 cap0 z0) :
    Calls Tryd.prog 7 #[.slice a0 len0 cap0] w fun e w' => e = .returned (.bool true) ∧ Below w.heap.size w w' := by
  obtain ⟨hca, hcl⟩ := code_of w0
  have HL := Lib.hid (fun w => a2Long_any a0 none len0 0 cap0 0 w)
  obtain ⟨lo, hlo⟩ : ∃ b, (decide (3000 < len0) || decide (3000 < 0)) = b := ⟨_, rfl⟩
  rw [hlo] at HL
  cases lo with
  | true =>
    clear hlo htab
    go_enter Tryd.func7, Tryd.ntmps7
    go_wp2_with fail
    refine (HL.out _).mono ?_
    rintro e w' ⟨rfl, rfl⟩
    go_wp2
    go_ret
    exact ⟨rfl, Below.refl _ _⟩
  | false =>
    have hl0 : len0 ≤ 3000 := by simp at hlo; omega
    have D0 := Lib.hid (a2Data_any a0 len0 cap0 w (by omega) hcl hca)
    have HT := Lib.hid htab
    clear hlo hca hcl htab
    go_enter Tryd.func7, Tryd.ntmps7
    go_wp2_with fail
    refine (HL.out _).mono ?_
    rintro e w' ⟨rfl, rfl⟩
    go_wp2_with fail
    refine D0.out.mono ?_
    rintro e w2 ⟨s, rfl, hs40, hb2⟩
    have hs8 : s.size ≤ 800 := by omega
    have hz := encGT_size hs8
    have hdT := dgT_enc hs8
    have hdB := dgB_enc hs8
    have hgf := gfV_enc hs8
    have hon := onesV_enc hs8
    have hru := runsV_enc hs8
    have heB : encGB s = true := by unfold encGB; simp [hs8]
    have cE := fun w h1 h2 => encodeGcr_any s (by omega) w h1 h2
    rw [heB] at cE
    generalize encGT s = E at *
    have cD := fun w h1 h2 => decodeGcr_any E (by omega) w h1 h2
    rw [hdT, hdB] at cD
    have cF := fun w h1 h2 => gcrFaults_any E (by omega) w h1 h2
    rw [hgf] at cF
    have cO := fun w => longestOnes_any E (by omega) w
    have cR := fun w => runsOf_any E (by omega) w
    have hrl := runsV_len E (by omega)
    generalize runsV E = rs at *
    generalize onesV E = on at *
    have hne : ((E.size : Int) != 10 * (s.size : Int)) = false := by rw [bne_eq_false_iff_eq]; omega
    have CE := Lib.hid cE; have CD := Lib.hid cD; have CF := Lib.hid cF; have CO := Lib.hid cO; have CR := Lib.hid cR; have HR := Lib.hid hru
    clear cE cD cF cO cR hru hdT hdB hgf heB hz HL D0
    go_wp2_with fail
    refine (CE.out _ (Nat.lt_of_lt_of_le hw hb2.size) (HT.out.below hb2 hw)).mono ?_
    rintro e w3 ⟨rfl, hb3⟩
    have h3 := hb2.trans (hb3.mono hb2.size)
    clear hb2 hb3
    go_wp2_with fail
    refine (CD.out _ (Nat.lt_of_lt_of_le hw h3.size) (HT.out.below h3 hw)).mono ?_
    rintro e w4 ⟨rfl, hb4⟩
    have h4 := h3.trans (hb4.mono h3.size)
    clear h3 hb4
    go_wp2_with fail
    refine (CF.out _ (Nat.lt_of_lt_of_le hw h4.size) (HT.out.below h4 hw)).mono ?_
    rintro e w5 ⟨fa, fc, rfl, _, hb5⟩
    have h5 := h4.trans (hb5.mono h4.size)
    clear h4 hb5
    go_wp2_with fail
    refine (CO.out _).mono ?_
    rintro e w6 ⟨rfl, hb6⟩
    have h6 := h5.trans (hb6.mono h5.size)
    clear h5 hb6
    go_wp2_with fail
    refine (CR.out _).mono ?_
    rintro e w7 ⟨ra, rc, rfl, hso, hb7⟩
    have h7 := h6.trans (hb7.mono h6.size)
    have HS := Lib.hid hso.sl
    clear h6 hb7 hso
    go_wp2
    go_loop [9] (fun i => ∃ k : Nat, k ≤ rs.length ∧ i = .int .i64 k) (fun i => rs.length - (intOf i).toNat)
    case atStart => exact ⟨0, Nat.zero_le _, rfl⟩
    case round =>
      obtain ⟨k, hk, rfl⟩ := hrel
      by_cases hlt : k < rs.length
      · obtain ⟨x, hx⟩ := getOf hlt
        have hx3 := HR.out x (List.mem_of_getElem? hx)
        obtain ⟨b, off, rfl, hc⟩ := HS.out.cell hx
        have e1 : (k : Int) < rs.length := by omega
        have HX := Lib.hid hx; clear hx
        go_wp2
        go_round
        case rel => exact ⟨k + 1, by omega, by go_num⟩
        case measure => simp [intOf] <;> omega
      · have e1 : ¬ (k : Int) < rs.length := by omega
        clear hk
        go_wp2
        go_ret
        exact ⟨rfl, h7⟩
end Go.Proofs.YtffefhgemmjkoaaDoor.fnGcr
