/- spec.l02Ones, spec.l02Flux, spec.FluxOf -/
import Derived.Test.YteldnfamfjldpabSpecTimes
import Derived.Test.YteldnfamfjldpabSpecValidCells
namespace Go.Proofs.Yteldnfamfjldpab
open Go.RowKit
set_option linter.unusedVariables false
theorem below_set3 {B p : Nat} {a w : World} (h : Below B a w) (hp : B ≤ p) (x y z : Value) : Below B a (((w.setCell ⟨p, 0, none⟩ x).setCell ⟨p, 1, none⟩ y).setCell ⟨p, 2, none⟩ z) :=
  ((h.setCell (p := ⟨p, 0, none⟩) hp x).setCell (p := ⟨p, 1, none⟩) hp y).setCell (p := ⟨p, 2, none⟩) hp z
set_option maxHeartbeats 400000 in
theorem l02Ones_any (s : ByteArray) (w : World) (hs : s.size ≤ 8000) (hv : ∀ k (h : k < s.size), s[k].toNat = 48 ∨ s[k].toNat = 49) :
    Calls Try.prog 59 #[.string s] w fun e w' => e = .returned (.int .i64 ((chg s 0 s.size).length : Nat)) ∧ w = w' := by
  have HV := Lib.hid hv; clear hv
  go_enter Try.func59, Try.ntmps59
  go_wp2
  go_loop [3, 4] (fun q i => ∃ k : Nat, k ≤ s.size ∧ i = .int .i64 k ∧ ∃ m : Nat, q = .int .i64 m ∧ m ≤ k ∧ Hid (m = (chg s 0 k).length)) (fun _ i => s.size - (intOf i).toNat)
  case atStart => exact ⟨0, Nat.zero_le _, rfl, 0, rfl, Nat.le_refl _, by unfold Hid; rfl⟩
  case round =>
    obtain ⟨k, hk, rfl, m, rfl, hm, hM⟩ := hrel
    by_cases hlt : k < s.size
    · have hb := HV.out k hlt
      rcases hb with h48 | h49
      · have HC := Lib.hid (chg_zero 0 hlt (by omega))
        go_wp2
        go_round
        case rel => exact ⟨k + 1, by omega, by go_num, m, rfl, by omega, by unfold Hid; rw [HC.out, hM.out]⟩
        case measure => simp [intOf]; omega
      · have HC := Lib.hid (chg_one 0 hlt h49)
        go_wp2
        go_round
        case rel => exact ⟨k + 1, by omega, by go_num, m + 1, by go_num, by omega, by unfold Hid; rw [HC.out, hM.out]; simp⟩
        case measure => simp [intOf]; omega
    · obtain rfl : k = s.size := by omega
      go_wp2
      go_ret
      exact ⟨ret_int (by rw [hM.out]), rfl⟩
def L02FluxPost (c f : Int) (zs : List Int) (w : World) (e : Ending) (w' : World) : Prop :=
  ∃ a' cap, e = .returned (.agg #[.int .i64 c, .int .i64 f, .slice a' zs.length cap]) ∧ SlO w' w.heap.size a' zs ∧ Below w.heap.size w w'
set_option maxHeartbeats 1000000 in
theorem l02Flux_any (s : ByteArray) (cell f : Int) (w : World) (hs : s.size ≤ 8000) (hv : ∀ k (h : k < s.size), s[k].toNat = 48 ∨ s[k].toNat = 49) (h0 : 4 ≤ cell) (h1 : cell ≤ 200) (hf : (chg s cell s.size)[0]? = some f) :
    Calls Try.prog 60 #[.string s, .int .i64 cell] w (L02FluxPost cell f (gapsOf (chg s cell s.size) ((s.size : Int) * cell)) w) := by
  have HV := Lib.hid (And.intro hv hf); clear hv hf
  go_enter Try.func60, Try.ntmps60
  go_wp2
  go_loopw [5, 6] (fun v i wr => ∃ k : Nat, k ≤ s.size ∧ i = .int .i64 k ∧ OwnI wr (w.heap.size + 1) v (chg s cell k) ∧ ZeroAt wr w.heap.size ∧ Below w.heap.size w wr) (fun _ i _ => s.size - (intOf i).toNat)
  case atStart =>
    refine ⟨0, Nat.zero_le _, rfl, ?_, ?_, by go_grown⟩
    · have h := OwnI.empty (w.alloc (.cells #[.int .i64 0, .int .i64 0, .slice none 0 0] 37)) (w.heap.size + 1) (by simp)
      have hc0 : chg s cell 0 = [] := rfl
      rw [hc0]
      simpa using h
    · unfold ZeroAt
      rw [Below.heap_alloc _ _ _ (by simp)]; exact heap_alloc_new w _
  case round =>
    obtain ⟨k, hk, rfl, hown, hzr, hbr⟩ := hrel
    by_cases hlt : k < s.size
    · have hb := HV.out.1 k hlt
      rcases hb with h48 | h49
      · have HC := Lib.hid (chg_zero cell hlt (by omega))
        go_wp2
        go_roundw
        case rel => exact ⟨k + 1, by omega, by go_num, by rw [HC.out]; exact hown, hzr, hbr⟩
        case measure => simp [intOf]; omega
      · have HC := Lib.hid (chg_one cell hlt h49)
        have hq : cell.tdiv 2 = cell / 2 := Int.tdiv_eq_ediv_of_nonneg (by omega)
        have hm := cellMul (k := k) (by omega) (by omega) h1
        have hlen := chg_length_le s cell k
        have hsz : w.heap.size + 1 ≤ wr.heap.size := hzr.lt
        have HF := Lib.hid (And.intro hzr hbr)
        clear hzr hbr
        go_wp2_with (at_builtin; refine wpList_appendI 32 Try.underlying32 rfl _ _ rfl rfl (hown.alloc _) ((k : Int) * cell + cell / 2) ⟨wr.heap.size, 0, none⟩ 1 rfl (World.news_of_block (cs := #[.int .i64 ((k : Int) * cell + cell / 2)]) (t := 2) (fr := (0, 0)) (heap_alloc_new wr _)) (by omega) (by simp; omega) ?_; intro g cap w3 hown3 hb3 _)
        go_roundw
        case rel =>
          refine ⟨k + 1, by omega, by go_num, ?_, ?_, ?_⟩
          · rw [HC.out]; exact hown3
          · unfold ZeroAt
            rw [hb3.block _ (by omega), Below.heap_alloc _ _ _ (by omega)]; exact HF.out.1
          · exact (HF.out.2.alloc (by omega) _).trans (hb3.mono (by omega))
        case measure => simp [intOf]; omega
    · obtain rfl : k = s.size := by omega
      obtain ⟨a, cp, ev, hsl⟩ := hown.slO
      subst ev
      have hm := cellMul (k := s.size) (by omega) (by omega) h1
      have hlen := chg_length_le s cell s.size
      have hmild := chg_mild (s := s) (k := s.size) (by omega) (by omega) h1
      have HC := Lib.hid (l02Times_any a (chg s cell s.size) cp ((s.size : Int) * cell) cell f wr (by omega) HV.out.2 hmild (by omega) (by omega) hsl.sl)
      have HF := Lib.hid (And.intro hzr (And.intro hbr (And.intro hown (And.intro hsl hmild))))
      clear hzr hbr hown hsl hmild
      go_wp2_with fail
      refine HC.out.mono ?_
      rintro e w4 ⟨a4, c4, rfl, hso, hb4⟩
      have hz4 := HF.out.1.below hb4 HF.out.1.lt
      obtain ⟨z0, z1, z2, y0, y1, y2⟩ := hz4.facts
      have hbw4 : Below w.heap.size w w4 := HF.out.2.1.trans (hb4.mono HF.out.2.1.size)
      have hgs : w.heap.size < wr.heap.size := HF.out.1.lt
      have HR := Lib.hid hso; clear hso hb4 hz4
      go_wp2
      refine bodyPost_ret (v := .agg #[.int .i64 cell, .int .i64 f, .slice a4 (gapsOf (chg s cell s.size) ((s.size : Int) * cell)).length c4]) (by simp [results, Try.results60, go_sem, z0, z1, z2]) rfl ⟨_, _, rfl, ?_, ?_⟩
      · exact (HR.out.set3 _ _ _ (by omega)).mono (by omega)
      · exact ((hbw4.setCell (by simp) _).setCell (by simp) _).setCell (by simp) _
set_option maxHeartbeats 1000000 in
theorem specFluxOf_no (s : ByteArray) (cell : Int) (w : World) (hs : s.size ≤ 1048576) (hv : ¬ (validCells s = true ∧ inB 4 200 cell = true)) :
    Calls Try.prog 32 #[.string s, .int .i64 cell] w (FluxRes (.none 1) w) := by
  have c1 := fun w' => l02Cells_any s w' (by unfold maxLen; omega)
  obtain ⟨q1, hq1⟩ : ∃ q, validCells s = q := ⟨_, rfl⟩
  obtain ⟨q2, hq2⟩ : ∃ q, inB 4 200 cell = q := ⟨_, rfl⟩
  have c2 := fun w' => l00In_any cell 4 200 w'
  rw [hq1, hq2] at hv
  rw [hq1] at c1
  rw [hq2] at c2
  have C1 := Lib.hid c1; have C2 := Lib.hid c2; clear c1 c2 hq1 hq2
  obtain ⟨z0, z1, z2, y0, y1, y2⟩ := (ZeroAt.new w w.heap.size rfl).facts
  cases q1 <;> cases q2
  case true.true => exact absurd ⟨rfl, rfl⟩ hv
  all_goals
    go_enter Try.func32, Try.ntmps32
    go_wp2_with (first | (go_at_call 52; refine (C1.out _).mono ?_; rintro e w1 ⟨rfl, rfl⟩) | (go_at_call 48; refine (C2.out _).mono ?_; rintro e w1 ⟨rfl, rfl⟩))
    refine bodyPost_ret (v := .tuple #[.agg #[.int .i64 0, .int .i64 0, .slice none 0 0], .int .i64 1]) (by simp [results, Try.results32, go_sem, z0, z1, z2]) rfl ⟨none, 0, rfl, .inl rfl, ?_⟩
    exact (Below.refl _ _).alloc (Nat.le_refl _) _
set_option maxHeartbeats 1000000 in
theorem specFluxOf_yes (s : ByteArray) (cell : Int) (w : World) (h1 : validCells s = true) (h2 : inB 4 200 cell = true) :
    Calls Try.prog 32 #[.string s, .int .i64 cell] w (FluxRes (fluxOfVal s cell) w) := by
  obtain ⟨hs0, hs⟩ := validCells_size h1
  have h2' := inB_iff.1 h2
  have c1 := fun w' => l02Cells_any s w' (by unfold maxLen; omega)
  have c2 := fun w' => l00In_any cell 4 200 w'
  have c3 := fun w' => l02Ones_any s w' hs (fun k h => validCells_at h1 h)
  have hlc := chg_length_eq s 0 cell s.size
  have hlen := chg_length_le s cell s.size
  rw [hlc] at c3
  rw [h1] at c1
  rw [h2] at c2
  have HE := Lib.hid (show fluxOfVal s cell = if (chg s cell s.size).length = 0 then .none 6 else if 4000 < (chg s cell s.size).length then .none 5 else ⟨cell, (chg s cell s.size)[0]?.getD 0, gapsOf (chg s cell s.size) ((s.size : Int) * cell), 0⟩ by unfold fluxOfVal; rw [if_pos ⟨h1, h2⟩])
  have c4 := fun f w' => l02Flux_any s cell f w' hs (fun k h => validCells_at h1 h) h2'.1 h2'.2
  have C1 := Lib.hid c1; have C2 := Lib.hid c2; have C3 := Lib.hid c3; have C4 := Lib.hid c4
  have HV := Lib.hid (And.intro h1 h2)
  clear c1 c2 c3 c4 h1 h2 hlc
  generalize chg s cell s.size = ts at *
  obtain ⟨z0, z1, z2, y0, y1, y2⟩ := (ZeroAt.new w w.heap.size rfl).facts
  by_cases hl0 : ts.length = 0
  · have hb0 : ((ts.length : Int) == 0) = true := by rw [beq_iff_eq]; omega
    have HE2 := Lib.hid (HE.out.trans (if_pos hl0))
    clear hl0
    go_enter Try.func32, Try.ntmps32
    go_wp2_with (first | (go_at_call 52; refine (C1.out _).mono ?_; rintro e w1 ⟨rfl, rfl⟩) | (go_at_call 48; refine (C2.out _).mono ?_; rintro e w1 ⟨rfl, rfl⟩) | (go_at_call 59; refine (C3.out _).mono ?_; rintro e w1 ⟨rfl, rfl⟩))
    rw [HE2.out]
    refine bodyPost_ret (v := .tuple #[.agg #[.int .i64 0, .int .i64 0, .slice none 0 0], .int .i64 6]) (by simp [results, Try.results32, go_sem, z0, z1, z2]) rfl ⟨none, 0, rfl, .inl rfl, ?_⟩
    exact (Below.refl _ _).alloc (Nat.le_refl _) _
  · have hb0 : ((ts.length : Int) == 0) = false := by rw [beq_eq_false_iff_ne]; omega
    by_cases hl4 : 4000 < ts.length
    · have HE2 := Lib.hid ((HE.out.trans (if_neg hl0)).trans (if_pos hl4))
      clear hl0
      go_enter Try.func32, Try.ntmps32
      go_wp2_with (first | (go_at_call 52; refine (C1.out _).mono ?_; rintro e w1 ⟨rfl, rfl⟩) | (go_at_call 48; refine (C2.out _).mono ?_; rintro e w1 ⟨rfl, rfl⟩) | (go_at_call 59; refine (C3.out _).mono ?_; rintro e w1 ⟨rfl, rfl⟩))
      rw [HE2.out]
      refine bodyPost_ret (v := .tuple #[.agg #[.int .i64 0, .int .i64 0, .slice none 0 0], .int .i64 5]) (by simp [results, Try.results32, go_sem, z0, z1, z2]) rfl ⟨none, 0, rfl, .inl rfl, ?_⟩
      exact (Below.refl _ _).alloc (Nat.le_refl _) _
    · obtain ⟨f, hf⟩ := getOf (zs := ts) (k := 0) (by omega)
      have hff : ts[0]?.getD 0 = f := by rw [hf]; rfl
      have HE2 := Lib.hid ((HE.out.trans (if_neg hl0)).trans (if_neg hl4))
      rw [hff] at HE2
      have C5 := Lib.hid (fun w' => C4.out f w' hf)
      clear hl0 hf hff C4 HE
      go_enter Try.func32, Try.ntmps32
      go_wp2_with (first | (go_at_call 52; refine (C1.out _).mono ?_; rintro e w1 ⟨rfl, rfl⟩) | (go_at_call 48; refine (C2.out _).mono ?_; rintro e w1 ⟨rfl, rfl⟩) | (go_at_call 59; refine (C3.out _).mono ?_; rintro e w1 ⟨rfl, rfl⟩))
      refine (C5.out _).mono ?_
      rintro e w4 ⟨a4, c4, rfl, hso, hb4⟩
      clear z0 z1 z2 y0 y1 y2
      have hz4 := (ZeroAt.new w w.heap.size rfl).below hb4 (by simp)
      obtain ⟨z0, z1, z2, y0, y1, y2⟩ := hz4.facts
      have hbw4 : Below w.heap.size w w4 := Below.trans (by go_grown) (hb4.mono (by simp))
      have HR := Lib.hid (hso.mono (show w.heap.size + 1 ≤ _ by simp)); clear hso hb4 hz4
      go_wp2
      rw [HE2.out]
      refine bodyPost_ret (v := .tuple #[.agg #[.int .i64 cell, .int .i64 f, .slice a4 (gapsOf ts ((s.size : Int) * cell)).length c4], .int .i64 0]) (by simp [results, Try.results32, go_sem, z0, z1, z2]) rfl ⟨_, _, rfl, ?_, ?_⟩
      · exact (HR.out.set3 _ _ _ (by omega)).mono (by omega)
      · exact ((hbw4.setCell (by simp) _).setCell (by simp) _).setCell (by simp) _
theorem specFluxOf_any (s : ByteArray) (cell : Int) (w : World) (hs : s.size ≤ 1048576) :
    Calls Try.prog 32 #[.string s, .int .i64 cell] w (FluxRes (fluxOfVal s cell) w) := by
  by_cases hv : validCells s = true ∧ inB 4 200 cell = true
  · exact specFluxOf_yes s cell w hv.1 hv.2
  · have e : fluxOfVal s cell = .none 1 := by unfold fluxOfVal; rw [if_neg hv]
    rw [e]; exact specFluxOf_no s cell w hs hv
theorem fluxOf_any (s : ByteArray) (cell : Int) (w : World) (hs : s.size ≤ 1048576) :
    Calls Try.prog 33 #[.string s, .int .i64 cell] w (FluxRes (fluxOfVal s cell) w) := by
  by_cases hv : validCells s = true ∧ inB 4 200 cell = true
  · exact fluxOf_yes s cell w hv.1 hv.2
  · have e : fluxOfVal s cell = .none 1 := by unfold fluxOfVal; rw [if_neg hv]
    rw [e]; exact fluxOf_no s cell w hs hv
end Go.Proofs.Yteldnfamfjldpab
