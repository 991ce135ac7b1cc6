/- FnMfmRuns: the law's walk. -/
import Derived.Test.YtkdhhkoablmbbabData05
import Derived.Test.YtkdhhkoablmbbabRunsMfm
import Derived.Test.YtkdhhkoablmbbabEncodeFm
import Derived.Test.YtkdhhkoablmbbabSm
namespace Go.Proofs.Ytkdhhkoablmbbab.fnMfmRuns
open Go.RowKit
set_option linter.unusedVariables false
set_option maxHeartbeats 8000000 in
set_option maxRecDepth 100000 in
theorem walk (a0 : Option Addr) (len0 cap0 : Nat) (z0 : List Int) (w : World) (w0 : IsRow .u8 w a0 len0 cap0 z0) :
    Calls Try.prog 5 #[.slice a0 len0 cap0] w fun e w' => e = .returned (.bool true) ∧ Below w.heap.size w w' := by
  obtain ⟨hca, hcl⟩ := code_of w0
  have HL := Lib.hid (fun w => a2Long_any a0 none len0 0 cap0 0 w)
  obtain ⟨lo, hlo⟩ : ∃ b, (decide (3000 < len0) || decide (3000 < 0)) = b := ⟨_, rfl⟩
  rw [hlo] at HL
  cases lo with
  | true =>
    clear hlo
    go_enter Try.func5, Try.ntmps5
    go_wp2_with fail
    refine (HL.out _).mono ?_
    rintro e w' ⟨rfl, rfl⟩
    go_wp2
    go_ret
    exact ⟨rfl, Below.refl _ _⟩
  | false =>
    have hl0 : len0 ≤ 3000 := by simp at hlo; omega
    have D0 := Lib.hid (a2Data_any a0 len0 cap0 w (by omega) hcl hca)
    have B0 := Lib.hid (fun w2 (hb : Below w.heap.size w w2) => a2Byte_any a0 len0 cap0 1 2 w2 (by omega) (by omega) (by omega) (by omega) (hca.below hcl hb))
    clear hlo hca hcl
    go_enter Try.func5, Try.ntmps5
    go_wp2_with fail
    refine (HL.out _).mono ?_
    rintro e w' ⟨rfl, rfl⟩
    go_wp2_with fail
    refine D0.out.mono ?_
    rintro e w2 ⟨s, rfl, hs40, hb2⟩
    go_wp2_with fail
    refine (B0.out _ hb2).mono ?_
    rintro e w3 ⟨v, rfl, hv, rfl⟩
    obtain ⟨la, hla⟩ : ∃ la, ((v : Int) == 1) = la := ⟨_, rfl⟩
    have hz := encV_size la true (show s.size ≤ 500 by omega)
    have hf := faultsV_enc la true (show s.size ≤ 500 by omega)
    have hr := runsV_enc la (show s.size ≤ 500 by omega)
    have hnm := no_mark la (show s.size ≤ 500 by omega)
    have cE := fun w => encodeMfm_any s la (by omega) w
    generalize encV s la true = E at *
    have cR := fun w => runsOf_any E (by omega) w
    have hrl := runsV_len E (by omega)
    have cF := fun w => clockFaults_any E la true (by omega) w
    rw [hf] at cF
    generalize runsV E = rs at *
    have hE1 : E.size ≤ 640 := by omega
    have hE16 : ((E.size : Int) == 16 * (s.size : Int)) = true := by rw [beq_iff_eq]; omega
    have CE := Lib.hid cE; have CR := Lib.hid cR; have CF := Lib.hid cF; have HR := Lib.hid hr; have HNM := Lib.hid hnm
    clear cE cR cF hr hnm hf hz HL D0 B0
    go_wp2_with fail
    refine (CE.out _).mono ?_
    rintro e w4 ⟨rfl, hb4⟩
    have h4 := hb2.trans (hb4.mono hb2.size)
    clear hb2 hb4
    go_wp2_with fail
    refine (CR.out _).mono ?_
    rintro e w5 ⟨ra, rc, rfl, hso, hb5⟩
    have h5 := h4.trans (hb5.mono h4.size)
    have HS := Lib.hid hso.sl
    clear h4 hb5 hso
    go_wp2
    go_loop [7] (fun i => ∃ k : Nat, k ≤ rs.length ∧ i = .int .i64 k) (fun i => rs.length - (intOf i).toNat)
    case atStart => exact ⟨0, Nat.zero_le _, rfl⟩
    case round =>
      obtain ⟨k, hk, rfl⟩ := hrel
      by_cases hlt : k < rs.length
      · obtain ⟨x, hx⟩ := getOf hlt
        obtain ⟨hx1, hx2⟩ := HR.out x (List.mem_of_getElem? hx)
        obtain ⟨b, off, rfl, hc⟩ := HS.out.cell hx
        have e1 : (k : Int) < rs.length := by omega
        have HX := Lib.hid hx; clear hx
        go_wp2
        go_round
        case rel => exact ⟨k + 1, by omega, by go_num⟩
        case measure => simp [intOf] <;> omega
      · have e1 : ¬ (k : Int) < rs.length := by omega
        have hms : mfmMarkS.size = 16 := rfl
        obtain ⟨hmn, hmn2⟩ := bytes_ne (s := mfmMarkS) (by rw [hms]; omega)
        have cM := fun w => mfmMark_any w
        have hmd : decB mfmMarkS = true := mark_dec
        have hmf := mark_fault la
        have cD := fun w => decodeMfm_any mfmMarkS (by rw [hms]; omega) w
        rw [hmd] at cD
        have cG := fun w => clockFaults_any mfmMarkS la true (by rw [hms]; omega) w
        generalize faultsV mfmMarkS la true = gs at *
        generalize mfmMarkS = M at *
        have CM := Lib.hid cM; have CD := Lib.hid cD; have CG := Lib.hid cG
        clear cM cD cG hmd hk
        go_wp2_with fail
        refine (CM.out _).mono ?_
        rintro e w6 ⟨rfl, hb6⟩
        have h6 := h5.trans (hb6.mono h5.size)
        clear h5 hb6
        go_wp2
        go_loop [9] (fun i => ∃ j : Nat, j ≤ E.size ∧ i = .int .i64 j) (fun i => E.size + 1 - (intOf i).toNat)
        case atStart => exact ⟨0, Nat.zero_le _, rfl⟩
        case round =>
          obtain ⟨j, hj, rfl⟩ := hrel
          by_cases hj16 : j + 16 ≤ E.size
          · have hne := toList_ne (HNM.out j hj16)
            have e2 : (j : Int) + 16 ≤ E.size := by omega
            have e3 : ((j : Int) + 16).toNat = j + 16 := by omega
            go_wp2
            go_round
            case rel => exact ⟨j + 1, by omega, by go_num⟩
            case measure => simp [intOf] <;> omega
          · have e2 : ¬ (j : Int) + 16 ≤ E.size := by omega
            have hmf1 : ((gs.length : Int) == 1) = true := by rw [beq_iff_eq]; omega
            clear hmf
            go_wp2_with fail
            refine (CD.out _).mono ?_
            rintro e w7 ⟨rfl, hb7⟩
            have h7 := h6.trans (hb7.mono h6.size)
            clear h6 hb7
            go_wp2_with fail
            refine (CF.out _).mono ?_
            rintro e w8 ⟨fa, fc, rfl, _, hb8⟩
            have h8 := h7.trans (hb8.mono h7.size)
            clear h7 hb8
            go_wp2_with fail
            refine (CG.out _).mono ?_
            rintro e w9 ⟨ga, gc, rfl, _, hb9⟩
            have h9 := h8.trans (hb9.mono h8.size)
            clear h8 hb9
            go_wp2
            go_ret
            exact ⟨rfl, h9⟩
end Go.Proofs.Ytkdhhkoablmbbab.fnMfmRuns
