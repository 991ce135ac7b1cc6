/- spec.RawBytes, impl.RawBytes -/
import Derived.Test.YtffefhgemmjkoaaDoorSpecRaw
import Derived.Test.YtffefhgemmjkoaaDoorSecData
import Derived.Test.YtffefhgemmjkoaaDoorMarkTab
namespace Go.Proofs.YtffefhgemmjkoaaDoor
open Go.RowKit
set_option maxRecDepth 20000
set_option linter.unusedVariables false
def cellR (f : Int) : Int := if f = 3 then 10 else 16
theorem l08CellR_any (f : Int) (w : World) :
    Calls Tryd.prog 66 #[.int .i64 f] w fun e w' => e = .returned (.int .i64 (cellR f)) ∧ w = w' := by
  unfold cellR
  by_cases h : f = 3
  · rw [if_pos h]
    subst h
    go_enter Tryd.func66, Tryd.ntmps66
    go_wp2
    go_ret
    exact ⟨rfl, rfl⟩
  · rw [if_neg h]
    have h0 : (f == 3) = false := beq_eq_false_iff_ne.2 h
    clear h
    go_enter Tryd.func66, Tryd.ntmps66
    go_wp2
    go_ret
    exact ⟨rfl, rfl⟩
theorem specValidC_any (s : ByteArray) (w : World) (hs : s.size ≤ maxLen) :
    Calls Tryd.prog 65 #[.string s] w fun e w' => e = .returned (.bool (validCells s)) ∧ w = w' := by
  go_enter Tryd.func65, Tryd.ntmps65
  go_wp2_with (go_at_call 112; refine (l02Cells_any _ _ hs).mono ?_; rintro e w1 ⟨rfl, rfl⟩)
  go_ret
  exact ⟨rfl, rfl⟩
set_option maxHeartbeats 2000000 in
theorem specRawBytes_any (f : Int) (s : ByteArray) (h : s.size ≤ 1048576) (w : World) :
    Calls Tryd.prog 28 #[.int .i64 f, .string s] w fun e w' => e = .returned (.tuple #[.string (rawT f s), .bool (rawB f s)]) ∧ Below w.heap.size w w' := by
  have HF := Lib.hid (fun w => l07Format_any f w)
  have HC := Lib.hid (fun w => l08CellR_any f w)
  have HV := Lib.hid (fun w => specValidC_any s w (by unfold maxLen; omega))
  by_cases hin : inB 1 3 f = true
  case neg =>
    have hin0 : inB 1 3 f = false := by simpa using hin
    have hE := Lib.hid (show rawT f s = ⟨#[]⟩ ∧ rawB f s = false by unfold rawT rawB; rw [if_neg hin, if_neg hin]; exact ⟨rfl, rfl⟩)
    rw [hE.out.1, hE.out.2]
    rw [hin0] at HF
    clear hin hin0
    go_enter Tryd.func28, Tryd.ntmps28
    go_wp2_with fail
    refine (HF.out _).mono ?_
    rintro e w1 ⟨rfl, rfl⟩
    go_wp2
    go_ret2
    exact ⟨rfl, Below.refl _ _⟩
  rw [hin] at HF
  by_cases hc : cellStr s = true
  case neg =>
    have he : ¬ s = ⟨#[]⟩ := by intro e; subst e; exact hc (by decide)
    obtain ⟨e1, e2⟩ := empty_no he
    have hv : validCells s = false := by
      rw [cellStr_valid (by intro hh; apply he; apply ByteArray.ext; exact Array.eq_empty_of_size_eq_zero (by show s.size = 0; omega))]
      simpa using hc
    rw [hv] at HV
    have hE := Lib.hid (show rawT f s = ⟨#[]⟩ ∧ rawB f s = false by
      have hd : decV s = none := by unfold decV; rw [if_neg (fun h => hc h.1)]
      unfold rawT rawB decT decB
      rw [if_pos hin, if_pos hin, hd]
      by_cases h3 : f = 3
      · rw [if_pos h3, if_pos h3, if_neg (fun h => hc h.1), if_neg (fun h => hc h.1)]; exact ⟨rfl, rfl⟩
      · rw [if_neg h3, if_neg h3]; exact ⟨rfl, rfl⟩)
    rw [hE.out.1, hE.out.2]
    clear hin hc hv he
    go_enter Tryd.func28, Tryd.ntmps28
    go_wp2_with fail
    refine (HF.out _).mono ?_
    rintro e w1 ⟨rfl, rfl⟩
    go_wp2_with fail
    refine (HV.out _).mono ?_
    rintro e w2 ⟨rfl, rfl⟩
    go_wp2
    go_ret2
    exact ⟨rfl, Below.refl _ _⟩
  have h8 := cellStr_size hc
  -- the answer behind the three questions
  have hcell : cellR f = 10 ∨ cellR f = 16 := by unfold cellR; split <;> simp
  by_cases hm : (s.size : Int) % cellR f = 0
  · have HL : ∀ w, Calls Tryd.prog 67 #[.int .i64 f, .string s] w fun e w' => e = .returned (.tuple #[.string (rawT f s), .bool (rawB f s)]) ∧ Below w.heap.size w w' := by
      intro w
      unfold cellR at hm
      by_cases h3 : f = 3
      · subst h3
        rw [if_pos rfl] at hm
        have h10 : s.size % 10 = 0 := by omega
        have hq := l09Raw_gcr s (s.size / 10) (by omega) h8 w
        rw [show 2 * (s.size / 10) = s.size / 5 by omega] at hq
        unfold rawT rawB
        rw [if_pos hin, if_pos hin, if_pos rfl, if_pos rfl, if_pos ⟨hc, h10⟩, if_pos ⟨hc, h10⟩]
        exact hq
      · rw [if_neg h3] at hm
        have h16 : s.size % 16 = 0 := by omega
        have hq := l09Raw_bits f h3 s hc h16 w
        have hd : decB s = true := by unfold decB decV; rw [if_pos ⟨hc, h16⟩]; rfl
        unfold rawT rawB
        rw [if_pos hin, if_pos hin, if_neg h3, if_neg h3, hd]
        exact hq
    have HLL := Lib.hid HL; clear HL
    generalize rawT f s = T at *
    generalize rawB f s = B at *
    by_cases he : s = ⟨#[]⟩
    · subst he
      generalize cellR f = c at *
      clear hin hm h8 hc
      rcases hcell with rfl | rfl
      all_goals
        go_enter Tryd.func28, Tryd.ntmps28
        go_wp2_with fail
        refine (HF.out _).mono ?_
        rintro e w1 ⟨rfl, rfl⟩
        go_wp2_with fail
        refine (HC.out _).mono ?_
        rintro e w2 ⟨rfl, rfl⟩
        go_wp2_with fail
        refine (HLL.out _).mono ?_
        rintro e w3 ⟨rfl, hb3⟩
        go_wp2
        go_ret2
        exact ⟨rfl, hb3⟩
    · obtain ⟨e1, e2⟩ := empty_no he
      have hv : validCells s = true := by
        rw [cellStr_valid (by intro hh; apply he; apply ByteArray.ext; exact Array.eq_empty_of_size_eq_zero (by show s.size = 0; omega))]
        exact hc
      rw [hv] at HV
      generalize cellR f = c at *
      clear hin hc hv he
      rcases hcell with rfl | rfl
      all_goals
        go_enter Tryd.func28, Tryd.ntmps28
        go_wp2_with fail
        refine (HF.out _).mono ?_
        rintro e w1 ⟨rfl, rfl⟩
        go_wp2_with fail
        refine (HV.out _).mono ?_
        rintro e w2 ⟨rfl, rfl⟩
        go_wp2_with fail
        refine (HC.out _).mono ?_
        rintro e w3 ⟨rfl, rfl⟩
        go_wp2_with fail
        refine (HLL.out _).mono ?_
        rintro e w4 ⟨rfl, hb3⟩
        go_wp2
        go_ret2
        exact ⟨rfl, hb3⟩
  · have he : ¬ s = ⟨#[]⟩ := by intro e; subst e; apply hm; show ((0 : Nat) : Int) % _ = 0; simp
    obtain ⟨e1, e2⟩ := empty_no he
    have hv : validCells s = true := by
      rw [cellStr_valid (by intro hh; apply he; apply ByteArray.ext; exact Array.eq_empty_of_size_eq_zero (by show s.size = 0; omega))]
      exact hc
    rw [hv] at HV
    have hE := Lib.hid (show rawT f s = ⟨#[]⟩ ∧ rawB f s = false by
      unfold rawT rawB
      rw [if_pos hin, if_pos hin]
      unfold cellR at hm
      by_cases h3 : f = 3
      · rw [if_pos h3] at hm
        rw [if_pos h3, if_pos h3, if_neg (fun h => hm (by omega)), if_neg (fun h => hm (by omega))]; exact ⟨rfl, rfl⟩
      · rw [if_neg h3] at hm
        have hd : decV s = none := by unfold decV; rw [if_neg (fun h => hm (by omega))]
        rw [if_neg h3, if_neg h3]
        unfold decT decB
        rw [hd]; exact ⟨rfl, rfl⟩)
    rw [hE.out.1, hE.out.2]
    generalize cellR f = c at *
    clear hin hc hv he
    rcases hcell with rfl | rfl
    all_goals
      go_enter Tryd.func28, Tryd.ntmps28
      go_wp2_with fail
      refine (HF.out _).mono ?_
      rintro e w1 ⟨rfl, rfl⟩
      go_wp2_with fail
      refine (HV.out _).mono ?_
      rintro e w2 ⟨rfl, rfl⟩
      go_wp2_with fail
      refine (HC.out _).mono ?_
      rintro e w3 ⟨rfl, rfl⟩
      go_wp2
      go_ret2
      exact ⟨rfl, Below.refl _ _⟩
theorem text_ofR (R : ByteArray) : ofDigText (some R.data.toList) = .tuple #[.string R, .bool true] := by simp [ofDigText]
theorem grpDig_size (s : ByteArray) (N : Nat) : (grpDig s N).size = N := by
  show (hexL s (rndsG N N)).toArray.size = N
  rw [List.size_toArray, hexL_len, rndsG_length (Nat.le_refl _)]
set_option maxHeartbeats 2000000 in
theorem rawBytes_any (f : Int) (s : ByteArray) (h : s.size ≤ 1048576) (w : World) (hw : 0 < w.heap.size) (ht : GrpTab w) :
    Calls Tryd.prog 29 #[.int .i64 f, .string s] w fun e w' => e = .returned (.tuple #[.string (rawT f s), .bool (rawB f s)]) ∧ Below w.heap.size w w' := by
  have HF := Lib.hid (fun w => isFormat_any f w)
  by_cases hin : inB 1 3 f = true
  case neg =>
    have hin0 : inB 1 3 f = false := by simpa using hin
    have hE := Lib.hid (show rawT f s = ⟨#[]⟩ ∧ rawB f s = false by unfold rawT rawB; rw [if_neg hin, if_neg hin]; exact ⟨rfl, rfl⟩)
    rw [hE.out.1, hE.out.2]
    rw [hin0] at HF
    clear hin hin0 ht
    go_enter Tryd.func29, Tryd.ntmps29
    go_wp2_with fail
    refine (HF.out _).mono ?_
    rintro e w1 ⟨rfl, hb⟩
    go_wp2
    go_ret2
    exact ⟨rfl, hb⟩
  rw [hin] at HF
  by_cases h3 : f = 3
  case neg =>
    have hE := Lib.hid (show rawT f s = decT s ∧ rawB f s = decB s by unfold rawT rawB; rw [if_pos hin, if_pos hin, if_neg h3, if_neg h3]; exact ⟨rfl, rfl⟩)
    rw [hE.out.1, hE.out.2]
    have hb3 : (f != 3) = true := by simp [h3]
    have HD := Lib.hid (fun w => (show Calls Tryd.prog 68 #[.string s] w fun e w' => e = .returned (.tuple #[.string (decT s), .bool (decB s)]) ∧ Below w.heap.size w w' from decodeClocked_any s h w))
    clear hin h3 ht
    go_enter Tryd.func29, Tryd.ntmps29
    go_wp2_with fail
    refine (HF.out _).mono ?_
    rintro e w1 ⟨rfl, hb⟩
    go_wp2_with fail
    refine (HD.out _).mono ?_
    rintro e w2 ⟨rfl, hb2⟩
    go_wp2
    go_ret2
    exact ⟨rfl, hb.trans (hb2.mono hb.size)⟩
  subst h3
  have hg := fun w => isGroupString_any s h w
  obtain ⟨ok, hok⟩ : ∃ ok, (cellStr s && decide (s.size % 5 = 0)) = ok := ⟨_, rfl⟩
  rw [hok] at hg
  have HG := Lib.hid hg; clear hg
  cases ok with
  | false =>
    have hn : ¬ (cellStr s = true ∧ s.size % 10 = 0) := by
      intro h2
      have h5 : s.size % 5 = 0 := by omega
      rw [h2.1] at hok
      simp [h5] at hok
    have hE := Lib.hid (show rawT 3 s = ⟨#[]⟩ ∧ rawB 3 s = false by unfold rawT rawB; rw [if_pos hin, if_pos hin, if_pos rfl, if_pos rfl, if_neg hn, if_neg hn]; exact ⟨rfl, rfl⟩)
    rw [hE.out.1, hE.out.2]
    clear hok ht hin hn
    go_enter Tryd.func29, Tryd.ntmps29
    go_wp2_with fail
    refine (HF.out _).mono ?_
    rintro e w1 ⟨rfl, hb⟩
    go_wp2_with fail
    refine (HG.out _).mono ?_
    rintro e w2 ⟨rfl, hb2⟩
    go_wp2
    go_ret2
    exact ⟨rfl, hb.trans (hb2.mono hb.size)⟩
  | true =>
    simp only [Bool.and_eq_true, decide_eq_true_eq] at hok
    obtain ⟨hc, h5⟩ := hok
    have hs8 := cellStr_size hc
    obtain ⟨N, hN⟩ : ∃ N, s.size / 5 = N := ⟨_, rfl⟩
    have hgd := fun w' (hb : Below w.heap.size w w') => callsIn_wide.1 (groupDigits_in s h hc h5 w' (Nat.lt_of_lt_of_le hw hb.size) (ht.below hb hw))
    rw [hN] at hgd
    have HGD0 := Lib.hid hgd; clear hgd ht
    have HR0 := fun w => readHex_any (grpDig s N) w
    obtain ⟨T, b, hTb, hTT⟩ : ∃ (T : ByteArray) (b : Bool), ofDigText (ofDig 16 2 dig4 (grpDig s N)) = .tuple #[.string T, .bool b] ∧ rawT 3 s = T ∧ rawB 3 s = (b && gdOk s N) := by
      by_cases h10 : s.size % 10 = 0
      · obtain ⟨M, rfl⟩ : ∃ M, N = 2 * M := ⟨N / 2, by omega⟩
        refine ⟨rawG s (2 * M), true, by rw [rawG_hex s M (by omega), text_ofR], ?_, ?_⟩
        · unfold rawT; rw [if_pos hin, if_pos rfl, if_pos ⟨hc, h10⟩, hN]
        · unfold rawB; rw [if_pos hin, if_pos rfl, if_pos ⟨hc, h10⟩, hN, Bool.true_and]
      · refine ⟨⟨#[]⟩, false, ?_, ?_, ?_⟩
        · unfold ofDig; rw [if_neg (by rw [grpDig_size]; omega)]; rfl
        · unfold rawT; rw [if_pos hin, if_pos rfl, if_neg (fun h => h10 h.2)]
        · unfold rawB; rw [if_pos hin, if_pos rfl, if_neg (fun h => h10 h.2)]; rfl
    rw [hTb] at HR0
    rw [hTT.1, hTT.2]
    generalize gdOk s N = q at *
    generalize grpDig s N = dg at *
    have HR := Lib.hid HR0
    have HGD := HGD0
    clear hTb hTT HR0 HGD0 hc h5 hs8 hN hin
    cases b
    all_goals
      go_enter Tryd.func29, Tryd.ntmps29
      go_wp2_with fail
      refine (HF.out _).mono ?_
      rintro e w1 ⟨rfl, hb⟩
      go_wp2_with fail
      refine (HG.out _).mono ?_
      rintro e w2 ⟨rfl, hb2⟩
      have hb12 := hb.trans (hb2.mono hb.size)
      go_wp2_with fail
      refine (HGD.out _ hb12).mono ?_
      rintro e w3 ⟨rfl, hb3⟩
      have hb13 := hb12.trans (hb3.mono hb12.size)
      clear hb hb2 hb3 hb12
      go_wp2_with fail
      refine (HR.out _).mono ?_
      rintro e w4 ⟨rfl, hb4⟩
      go_wp2
      go_ret2
      exact ⟨by first | rfl | simp, hb13.trans (hb4.mono hb13.size)⟩
end Go.Proofs.YtffefhgemmjkoaaDoor
