/- spec.RotateFlux -/
import Derived.Test.YtjilcobagmelgaaRotVal
import Derived.Test.YtjilcobagmelgaaSpecTimes
import Derived.Test.YtjilcobagmelgaaSpecChanges
namespace Go.Proofs.Ytjilcobagmelgaa
open Go.RowKit
set_option linter.unusedVariables false
/-- The two cells at the start: the flux that came in, and the zero flux. -/
theorem specRot_start (w : World) (c f : Int) (a : Option Addr) (n cap : Nat) {w1 : World} {W : World} (hW : (w.alloc (.cells #[.int .i64 c, .int .i64 f, .slice a n cap] 26)).alloc (.cells #[.int .i64 0, .int .i64 0, .slice none 0 0] 26) = W) (hb1 : Below W.heap.size W w1) :
    ZeroAt w1 (w.heap.size + 1) ∧ FluxAt w1 w.heap.size c f a n cap ∧ Below w.heap.size w w1 := by
  subst hW
  refine ⟨(ZeroAt.new _ (w.heap.size + 1) (by simp)).below hb1 (by simp), ((FluxAt.new w c f a n cap 26 w.heap.size rfl).below (Below.alloc (Below.refl _ _) (Nat.le_refl _) _) (by simp)).below hb1 (by simp; omega), ?_⟩
  exact Below.trans (by go_grown) (hb1.mono (by simp; omega))
set_option maxHeartbeats 2000000 in
theorem specRotateFlux_no1 (c f : Int) (a : Option Addr) (cap : Nat) (zs : List Int) (b : Int) (hl : zs.length ≤ 1048576) (hv : fluxOk c f zs = false) (w : World) (h : SlA w a zs) :
    Calls Try.prog 5 #[.agg #[.int .i64 c, .int .i64 f, .slice a zs.length cap], .int .i64 b] w (FluxRes (.none 1) w) := by
  have c1 := fun w' (hb : Below w.heap.size w w') (hf : FluxAt w' w.heap.size c f a zs.length cap) => l02Ok_any w.heap.size c f a zs cap w' hl hf (h.below hb (Nat.le_refl _))
  rw [hv] at c1
  have C1 := Lib.hid c1; clear c1 h hv
  go_enter Try.func5, Try.ntmps5
  go_wp2_with fail
  refine (C1.out _ (by go_grown) ((FluxAt.new w c f a zs.length cap 26 w.heap.size rfl).below (Below.alloc (Below.refl _ _) (Nat.le_refl _) _) (by simp))).mono ?_
  rintro e w1 ⟨rfl, hb1⟩
  obtain ⟨hz, _, hb2⟩ := specRot_start w c f a zs.length cap rfl hb1
  obtain ⟨z0, z1, z2, y0, y1, y2⟩ := hz.facts
  clear hb1 hz
  go_wp2
  refine bodyPost_ret (v := .tuple #[.agg #[.int .i64 0, .int .i64 0, .slice none 0 0], .int .i64 1]) (by simp [results, Try.results5, go_sem, z0, z1, z2]) rfl ⟨none, 0, rfl, .inl rfl, below_set3 hb2 (by omega) _ _ _⟩
set_option maxHeartbeats 2000000 in
theorem specRotateFlux_no2 (c f : Int) (a : Option Addr) (cap : Nat) (zs : List Int) (b : Int) (hl : zs.length ≤ 1048576) (hv : fluxOk c f zs = true) (hn : inB 0 (zs.sum - 1) b = false) (w : World) (h : SlA w a zs) :
    Calls Try.prog 5 #[.agg #[.int .i64 c, .int .i64 f, .slice a zs.length cap], .int .i64 b] w (FluxRes (.none 2) w) := by
  have c1 := fun w' (hb : Below w.heap.size w w') (hf : FluxAt w' w.heap.size c f a zs.length cap) => l02Ok_any w.heap.size c f a zs cap w' hl hf (h.below hb (Nat.le_refl _))
  rw [hv] at c1
  obtain ⟨_, ⟨hz1, hz4⟩, hz, hsum, hf0, hf1⟩ := fluxOk_iff.1 hv
  have hsum0 : 0 ≤ zs.sum := by have := (sum_bd hz zs.length).1; rwa [List.take_length] at this
  have c4 := fun w' (hb : Below w.heap.size w w') (hf : FluxAt w' w.heap.size c f a zs.length cap) => l02Revolution_any w.heap.size c f a zs cap w' hl hz hf (h.below hb (Nat.le_refl _))
  have c2 := fun w' => l00In_any b 0 (zs.sum - 1) w'
  rw [hn] at c2
  have ew : wrap64 (zs.sum - 1) = zs.sum - 1 := by unfold wrap64; omega
  have C1 := Lib.hid c1; have C2 := Lib.hid c2; have C4 := Lib.hid c4; clear c1 c2 c4 h hv hz hn
  go_enter Try.func5, Try.ntmps5
  go_wp2_with fail
  refine (C1.out _ (by go_grown) ((FluxAt.new w c f a zs.length cap 26 w.heap.size rfl).below (Below.alloc (Below.refl _ _) (Nat.le_refl _) _) (by simp))).mono ?_
  rintro e w1 ⟨rfl, hb1⟩
  obtain ⟨hz, hf2, hb2⟩ := specRot_start w c f a zs.length cap rfl hb1
  obtain ⟨z0, z1, z2, y0, y1, y2⟩ := hz.facts
  clear hb1 hz
  have HF := Lib.hid hf2; clear hf2
  go_wp2_with fail
  refine (C4.out _ hb2 HF.out).mono ?_
  rintro e w2 ⟨rfl, rfl⟩
  go_wp2_with fail
  refine (C2.out _).mono ?_
  rintro e w2 ⟨rfl, rfl⟩
  go_wp2
  refine bodyPost_ret (v := .tuple #[.agg #[.int .i64 0, .int .i64 0, .slice none 0 0], .int .i64 2]) (by simp [results, Try.results5, go_sem, z0, z1, z2]) rfl ⟨none, 0, rfl, .inl rfl, below_set3 hb2 (by omega) _ _ _⟩
set_option maxHeartbeats 4000000 in
theorem specRotateFlux_yes (c f : Int) (a : Option Addr) (cap : Nat) (zs : List Int) (b : Int) (hl : zs.length ≤ 1048576) (hv : fluxOk c f zs = true) (hn : inB 0 (zs.sum - 1) b = true) (w : World) (h : SlA w a zs) :
    Calls Try.prog 5 #[.agg #[.int .i64 c, .int .i64 f, .slice a zs.length cap], .int .i64 b] w (FluxRes (rotVal c f zs b) w) := by
  have c1 := fun w' (hb : Below w.heap.size w w') (hf : FluxAt w' w.heap.size c f a zs.length cap) => l02Ok_any w.heap.size c f a zs cap w' hl hf (h.below hb (Nat.le_refl _))
  rw [hv] at c1
  obtain ⟨_, ⟨hz1, hz4⟩, hz, hsum, hf0, hf1⟩ := fluxOk_iff.1 hv
  have hn' := inB_iff.1 hn
  have hsum0 : 0 ≤ zs.sum := by have := (sum_bd hz zs.length).1; rwa [List.take_length] at this
  have c2 := fun w' => l00In_any b 0 (zs.sum - 1) w'
  rw [hn] at c2
  have c3 := fun w' (hb : Below w.heap.size w w') (hf : FluxAt w' w.heap.size c f a zs.length cap) => l02Changes_any w.heap.size c f a zs cap w' hz4 hz hf0 (last_bd hv) hf (h.below hb (Nat.le_refl _))
  have c4 := fun w' (hb : Below w.heap.size w w') (hf : FluxAt w' w.heap.size c f a zs.length cap) => l02Revolution_any w.heap.size c f a zs cap w' hl hz hf (h.below hb (Nat.le_refl _))
  have htl := timesOf_length f zs
  have htb : ∀ k, k ≤ zs.length → 0 ≤ tAt f zs k ∧ tAt f zs k ≤ 4000000 := by
    intro k hk
    have h1 := tAt_le (f := f) hz (Nat.zero_le k)
    have h2 := tAt_le (f := f) hz hk
    rw [tAt_zero] at h1
    rw [tAt_last] at h2
    have := last_bd hv
    omega
  have HE := Lib.hid (show rotVal c f zs b = ⟨c, rotFirst b f zs (rotStart b f zs), zs.drop (rotStart b f zs % zs.length) ++ zs.take (rotStart b f zs % zs.length), 0⟩ by unfold rotVal; rw [if_pos hv, if_pos hn])
  have ew : wrap64 (zs.sum - 1) = zs.sum - 1 := by unfold wrap64; omega
  have C1 := Lib.hid c1; have C2 := Lib.hid c2; have C3 := Lib.hid c3; have C4 := Lib.hid c4
  have HT := Lib.hid (And.intro htb (And.intro htl hz))
  clear c1 c2 c3 c4 h hv hn hz htb htl
  go_enter Try.func5, Try.ntmps5
  go_wp2_with fail
  refine (C1.out _ (by go_grown) ((FluxAt.new w c f a zs.length cap 26 w.heap.size rfl).below (Below.alloc (Below.refl _ _) (Nat.le_refl _) _) (by simp))).mono ?_
  rintro e A ⟨rfl, hb1⟩
  have HA := Lib.hid (specRot_start w c f a zs.length cap rfl hb1)
  have hsA : w.heap.size + 2 ≤ A.heap.size := by have := hb1.size; simp at this; omega
  clear hb1
  go_wp2_with fail
  refine (C4.out _ HA.out.2.2 HA.out.2.1).mono ?_
  rintro e w2 ⟨rfl, rfl⟩
  go_wp2_with fail
  refine (C2.out _).mono ?_
  rintro e w2 ⟨rfl, rfl⟩
  go_wp2_with fail
  refine (C3.out _ HA.out.2.2 HA.out.2.1).mono ?_
  rintro e w3 ⟨a3, cp3, rfl, hso, hb3⟩
  obtain ⟨g, rfl, hg, hgl⟩ : ∃ g, a3 = some ⟨g, 0, none⟩ ∧ A.heap.size ≤ g ∧ g < w3.heap.size := by
    rcases hso with h0 | ⟨g, rest, e, hg, hh⟩
    · have := HT.out.2.1; rw [h0] at this; simp at this; omega
    · exact ⟨g, e, hg, (Array.getElem?_eq_some_iff.1 hh).1⟩
  have hcells : ∀ k, k < zs.length → w3.cell? ⟨g, k, none⟩ = some (.int .i64 (tAt f zs k)) := by
    intro k hk
    obtain ⟨b', off, e, hc⟩ := hso.sl.cell (timesOf_at f zs k hk)
    cases e
    simpa using hc
  have hz3 := HA.out.1.below hb3 HA.out.1.lt
  have hx3 := HA.out.2.1.below hb3 HA.out.2.1.lt
  have hB3 : Below w.heap.size w w3 := HA.out.2.2.trans (hb3.mono HA.out.2.2.size)
  have hs3 : A.heap.size ≤ w3.heap.size := hb3.size
  have H3 := Lib.hid (And.intro hz3 (And.intro hx3 (And.intro hB3 hcells)))
  clear hz3 hx3 hB3 hcells hso hb3 C1 C2 C3 C4
  go_wp2
  go_loopw [8] (fun i wr => ∃ k : Nat, k ≤ zs.length ∧ i = .int .i64 (k : Int) ∧ Hid (∀ j, j < k → tAt f zs j < b) ∧ wr = w3) (fun i _ => zs.length - (intOf i).toNat)
  case atStart => exact ⟨0, Nat.zero_le _, rfl, by unfold Hid; intro j hj; omega, rfl⟩
  case round =>
    obtain ⟨k, hk, rfl, hbe, rfl⟩ := hrel
    by_cases hgo : k < zs.length ∧ tAt f zs k < b
    · have e1 : (k : Int) < (zs.length : Int) := by omega
      have hc := H3.out.2.2.2 k hgo.1
      have e2 := hgo.2
      have HG := Lib.hid hgo; clear hgo
      generalize ht : tAt f zs k = t at hc e2
      have HTT := Lib.hid ht; clear ht
      go_wp2
      go_roundw
      case rel =>
        refine ⟨k + 1, by have := HG.out.1; omega, by go_num, ?_, by first | rfl | trivial⟩
        unfold Hid
        intro j hj
        by_cases e : j = k
        · subst e; exact HG.out.2
        · exact hbe.out j (by omega)
      case measure => have := HG.out.1; simp [intOf]; omega
    · have his : IsStart b f zs k := ⟨hk, hbe.out, fun h => by have : ¬ tAt f zs k < b := fun h' => hgo ⟨h, h'⟩; omega⟩
      have hst := rotStart_eq his
      have hgaps := rot_gaps HT.out.2.2 (by omega) his
      have hfirst := rot_first HT.out.2.2 (by omega) his
      have HE2 := HE.out
      rw [hst, ← hgaps] at HE2
      have hlen := rotTimes_length b f zs.sum zs k
      have hmild : Mild (rotTimes b f zs.sum zs k) := by
        intro x hx
        unfold rotTimes at hx
        rw [List.mem_map] at hx
        obtain ⟨i, _, rfl⟩ := hx
        have hm := Nat.mod_lt (k + i) (show 0 < zs.length by omega)
        have := HT.out.1 ((k + i) % zs.length) (by omega)
        unfold rotAt
        split <;> omega
      have HR := Lib.hid (And.intro HE2 (And.intro hfirst (And.intro hlen (And.intro hmild his))))
      clear hst hgaps hfirst HE2 hlen hmild his HE
      have hcase : ¬ k < zs.length ∨ (k < zs.length ∧ ¬ tAt f zs k < b) := by
        by_cases h : k < zs.length
        · exact .inr ⟨h, fun h' => hgo ⟨h, h'⟩⟩
        · exact .inl h
      clear hgo
      obtain ⟨WO, rfl⟩ : ∃ WO, WO = wr := ⟨_, rfl⟩
      have hgS : w.heap.size + 2 ≤ WO.heap.size := by have := H3.out.2.2.1.size; omega
      rcases hcase with h | ⟨h, h'⟩
      · have e1 : ¬ (k : Int) < (zs.length : Int) := by omega
        go_wp2
        go_loopw [9, 10, 11] (fun out q _ wr => ∃ i : Nat, i ≤ zs.length ∧ q = .int .i64 (i : Int) ∧ OwnI wr WO.heap.size out ((rotTimes b f zs.sum zs k).take i) ∧ Below WO.heap.size WO wr) (fun _ q _ _ => zs.length - (intOf q).toNat)
        case atStart => exact ⟨0, Nat.zero_le _, rfl, OwnI.empty WO _ (Nat.le_refl _), (Below.refl _ WO).alloc (Nat.le_refl _) _⟩
        case round =>
          obtain ⟨i, hi, rfl, hown, hbw⟩ := hrel
          have hsw := hbw.size
          by_cases hlt : i < zs.length
          · have f1 : (i : Int) < (zs.length : Int) := by omega
            obtain ⟨m, hm⟩ : ∃ m, (k + i) % zs.length = m := ⟨_, rfl⟩
            have hml : m < zs.length := by rw [← hm]; exact Nat.mod_lt _ (by omega)
            have hmi : ((k : Int) + (i : Int)) % (zs.length : Int) = (m : Int) := by rw [← hm]; rfl
            have hmt : ((k : Int) + (i : Int)).tmod (zs.length : Int) = (m : Int) := by rw [Int.tmod_eq_emod_of_nonneg (by omega)]; exact hmi
            have hw1 : IntKind.i64.wrap ((k : Int) + (i : Int)) = (k : Int) + (i : Int) := IntWalk.i64_in _ (by omega)
            have hml2 : (m : Int) < (zs.length : Int) := by omega
            have hn0 : ((zs.length : Int) == 0) = false := by rw [beq_eq_false_iff_ne]; omega
            have hn0' : ¬ (zs.length : Int) = 0 := by omega
            have hcm := (hbw.cell (p := ⟨g, m, none⟩) hgl).trans (H3.out.2.2.2 m hml)
            have hb4 := HT.out.1 m (by omega)
            have htk : (rotTimes b f zs.sum zs k).take (i + 1) = (rotTimes b f zs.sum zs k).take i ++ [rotAt b f zs.sum zs m] := by rw [List.take_add_one, rotTimes_at _ _ _ _ _ _ hlt, hm]; rfl
            have hll : ((rotTimes b f zs.sum zs k).take i).length = i := by rw [List.length_take, rotTimes_length]; omega
            obtain ⟨t, ht⟩ : ∃ t, tAt f zs m = t := ⟨_, rfl⟩
            unfold rotAt at htk
            rw [ht] at hcm hb4 htk
            generalize (rotTimes b f zs.sum zs k).take i = l at hown htk hll
            have hw2 : IntKind.i64.wrap (t - b) = t - b := IntWalk.i64_in _ (by omega)
            have HM := Lib.hid (And.intro hm ht); clear hm ht
            by_cases hneg : t - b < 0
            · rw [if_pos hneg] at htk
              have hw3 : IntKind.i64.wrap (t - b + zs.sum) = t - b + zs.sum := IntWalk.i64_in _ (by omega)
              have HK := Lib.hid htk; clear htk
              go_wp2_with (at_builtin; refine wpList_appendI 22 Try.underlying22 rfl _ _ rfl rfl (hown.alloc _) (t - b + zs.sum) ⟨wr.heap.size, 0, none⟩ 1 rfl (World.news_of_block (cs := #[.int .i64 (t - b + zs.sum)]) (t := 2) (fr := (0, 0)) (heap_alloc_new wr _)) (by rw [hll]; omega) (by simp; omega) ?_; intro g6 cap6 w6 hown6 hb6 _)
              go_roundw
              case rel => exact ⟨i + 1, by omega, by go_num, by rw [HK.out]; rw [hll] at hown6; exact hown6, (hbw.alloc hsw _).trans (hb6.mono (by omega))⟩
              case measure => simp [intOf]; omega
            · rw [if_neg hneg] at htk
              have HK := Lib.hid htk; clear htk
              go_wp2_with (at_builtin; refine wpList_appendI 22 Try.underlying22 rfl _ _ rfl rfl (hown.alloc _) (t - b) ⟨wr.heap.size, 0, none⟩ 1 rfl (World.news_of_block (cs := #[.int .i64 (t - b)]) (t := 2) (fr := (0, 0)) (heap_alloc_new wr _)) (by rw [hll]; omega) (by simp; omega) ?_; intro g6 cap6 w6 hown6 hb6 _)
              go_roundw
              case rel => exact ⟨i + 1, by omega, by go_num, by rw [HK.out]; rw [hll] at hown6; exact hown6, (hbw.alloc hsw _).trans (hb6.mono (by omega))⟩
              case measure => simp [intOf]; omega
          · obtain rfl : i = zs.length := by omega
            have hfull : (rotTimes b f zs.sum zs k).take zs.length = (rotTimes b f zs.sum zs k) := List.take_of_length_le (by rw [rotTimes_length]; omega)
            rw [hfull] at hown
            obtain ⟨a', c', rfl, hsl⟩ := hown.slO
            have T1 := l02Times_any a' (rotTimes b f zs.sum zs k) c' zs.sum c (rotFirst b f zs k) wr (by rw [HR.out.2.2.1]; omega) HR.out.2.1 HR.out.2.2.2.1 (by omega) (by omega) hsl.sl
            have hL := HR.out.2.2.1
            rw [hL] at T1
            have T2 := Lib.hid T1
            have hx5 := H3.out.2.1.below hbw (Nat.lt_of_lt_of_le H3.out.2.1.lt (Nat.le_refl _))
            have hz5 := H3.out.1.below hbw (Nat.lt_of_lt_of_le H3.out.1.lt (Nat.le_refl _))
            have HW := Lib.hid (And.intro hz5 (And.intro hsl (H3.out.2.2.1.trans (hbw.mono H3.out.2.2.1.size))))
            have hzl := H3.out.1.lt
            clear T1 hz5 hsl hown hbw hfull
            obtain ⟨x0, x1, x2⟩ := hx5
            go_wp2_with fail
            refine T2.out.mono ?_
            rintro e w6 ⟨a7, cap7, rfl, hso7, hb7⟩
            obtain ⟨z0, z1, z2, y0, y1, y2⟩ := (HW.out.1.below hb7 HW.out.1.lt).facts
            have hb8 := HW.out.2.2.trans (hb7.mono HW.out.2.2.size)
            have hz8 := HW.out.1.lt
            have HS := Lib.hid hso7; clear hso7 hb7 x0 x1 x2
            go_wp2
            rw [HR.out.1]
            refine bodyPost_ret (v := .tuple #[.agg #[.int .i64 c, .int .i64 (rotFirst b f zs k), .slice a7 (gapsOf (rotTimes b f zs.sum zs k) zs.sum).length cap7], .int .i64 0]) (by simp [results, Try.results5, go_sem, z0, z1, z2]) rfl ⟨a7, cap7, rfl, (HS.out.set3 _ _ _ (by omega)).mono (by omega), below_set3 hb8 (by omega) _ _ _⟩
      · have e1 : (k : Int) < (zs.length : Int) := by omega
        have hc := H3.out.2.2.2 k h
        generalize tAt f zs k = tk at hc h'
        go_wp2
        go_loopw [9, 10, 11] (fun out q _ wr => ∃ i : Nat, i ≤ zs.length ∧ q = .int .i64 (i : Int) ∧ OwnI wr WO.heap.size out ((rotTimes b f zs.sum zs k).take i) ∧ Below WO.heap.size WO wr) (fun _ q _ _ => zs.length - (intOf q).toNat)
        case atStart => exact ⟨0, Nat.zero_le _, rfl, OwnI.empty WO _ (Nat.le_refl _), (Below.refl _ WO).alloc (Nat.le_refl _) _⟩
        case round =>
          obtain ⟨i, hi, rfl, hown, hbw⟩ := hrel
          have hsw := hbw.size
          by_cases hlt : i < zs.length
          · have f1 : (i : Int) < (zs.length : Int) := by omega
            obtain ⟨m, hm⟩ : ∃ m, (k + i) % zs.length = m := ⟨_, rfl⟩
            have hml : m < zs.length := by rw [← hm]; exact Nat.mod_lt _ (by omega)
            have hmi : ((k : Int) + (i : Int)) % (zs.length : Int) = (m : Int) := by rw [← hm]; rfl
            have hmt : ((k : Int) + (i : Int)).tmod (zs.length : Int) = (m : Int) := by rw [Int.tmod_eq_emod_of_nonneg (by omega)]; exact hmi
            have hw1 : IntKind.i64.wrap ((k : Int) + (i : Int)) = (k : Int) + (i : Int) := IntWalk.i64_in _ (by omega)
            have hml2 : (m : Int) < (zs.length : Int) := by omega
            have hn0 : ((zs.length : Int) == 0) = false := by rw [beq_eq_false_iff_ne]; omega
            have hn0' : ¬ (zs.length : Int) = 0 := by omega
            have hcm := (hbw.cell (p := ⟨g, m, none⟩) hgl).trans (H3.out.2.2.2 m hml)
            have hb4 := HT.out.1 m (by omega)
            have htk : (rotTimes b f zs.sum zs k).take (i + 1) = (rotTimes b f zs.sum zs k).take i ++ [rotAt b f zs.sum zs m] := by rw [List.take_add_one, rotTimes_at _ _ _ _ _ _ hlt, hm]; rfl
            have hll : ((rotTimes b f zs.sum zs k).take i).length = i := by rw [List.length_take, rotTimes_length]; omega
            obtain ⟨t, ht⟩ : ∃ t, tAt f zs m = t := ⟨_, rfl⟩
            unfold rotAt at htk
            rw [ht] at hcm hb4 htk
            generalize (rotTimes b f zs.sum zs k).take i = l at hown htk hll
            have hw2 : IntKind.i64.wrap (t - b) = t - b := IntWalk.i64_in _ (by omega)
            have HM := Lib.hid (And.intro hm ht); clear hm ht
            by_cases hneg : t - b < 0
            · rw [if_pos hneg] at htk
              have hw3 : IntKind.i64.wrap (t - b + zs.sum) = t - b + zs.sum := IntWalk.i64_in _ (by omega)
              have HK := Lib.hid htk; clear htk
              go_wp2_with (at_builtin; refine wpList_appendI 22 Try.underlying22 rfl _ _ rfl rfl (hown.alloc _) (t - b + zs.sum) ⟨wr.heap.size, 0, none⟩ 1 rfl (World.news_of_block (cs := #[.int .i64 (t - b + zs.sum)]) (t := 2) (fr := (0, 0)) (heap_alloc_new wr _)) (by rw [hll]; omega) (by simp; omega) ?_; intro g6 cap6 w6 hown6 hb6 _)
              go_roundw
              case rel => exact ⟨i + 1, by omega, by go_num, by rw [HK.out]; rw [hll] at hown6; exact hown6, (hbw.alloc hsw _).trans (hb6.mono (by omega))⟩
              case measure => simp [intOf]; omega
            · rw [if_neg hneg] at htk
              have HK := Lib.hid htk; clear htk
              go_wp2_with (at_builtin; refine wpList_appendI 22 Try.underlying22 rfl _ _ rfl rfl (hown.alloc _) (t - b) ⟨wr.heap.size, 0, none⟩ 1 rfl (World.news_of_block (cs := #[.int .i64 (t - b)]) (t := 2) (fr := (0, 0)) (heap_alloc_new wr _)) (by rw [hll]; omega) (by simp; omega) ?_; intro g6 cap6 w6 hown6 hb6 _)
              go_roundw
              case rel => exact ⟨i + 1, by omega, by go_num, by rw [HK.out]; rw [hll] at hown6; exact hown6, (hbw.alloc hsw _).trans (hb6.mono (by omega))⟩
              case measure => simp [intOf]; omega
          · obtain rfl : i = zs.length := by omega
            have hfull : (rotTimes b f zs.sum zs k).take zs.length = (rotTimes b f zs.sum zs k) := List.take_of_length_le (by rw [rotTimes_length]; omega)
            rw [hfull] at hown
            obtain ⟨a', c', rfl, hsl⟩ := hown.slO
            have T1 := l02Times_any a' (rotTimes b f zs.sum zs k) c' zs.sum c (rotFirst b f zs k) wr (by rw [HR.out.2.2.1]; omega) HR.out.2.1 HR.out.2.2.2.1 (by omega) (by omega) hsl.sl
            have hL := HR.out.2.2.1
            rw [hL] at T1
            have T2 := Lib.hid T1
            have hx5 := H3.out.2.1.below hbw (Nat.lt_of_lt_of_le H3.out.2.1.lt (Nat.le_refl _))
            have hz5 := H3.out.1.below hbw (Nat.lt_of_lt_of_le H3.out.1.lt (Nat.le_refl _))
            have HW := Lib.hid (And.intro hz5 (And.intro hsl (H3.out.2.2.1.trans (hbw.mono H3.out.2.2.1.size))))
            have hzl := H3.out.1.lt
            clear T1 hz5 hsl hown hbw hfull
            obtain ⟨x0, x1, x2⟩ := hx5
            go_wp2_with fail
            refine T2.out.mono ?_
            rintro e w6 ⟨a7, cap7, rfl, hso7, hb7⟩
            obtain ⟨z0, z1, z2, y0, y1, y2⟩ := (HW.out.1.below hb7 HW.out.1.lt).facts
            have hb8 := HW.out.2.2.trans (hb7.mono HW.out.2.2.size)
            have hz8 := HW.out.1.lt
            have HS := Lib.hid hso7; clear hso7 hb7 x0 x1 x2
            go_wp2
            rw [HR.out.1]
            refine bodyPost_ret (v := .tuple #[.agg #[.int .i64 c, .int .i64 (rotFirst b f zs k), .slice a7 (gapsOf (rotTimes b f zs.sum zs k) zs.sum).length cap7], .int .i64 0]) (by simp [results, Try.results5, go_sem, z0, z1, z2]) rfl ⟨a7, cap7, rfl, (HS.out.set3 _ _ _ (by omega)).mono (by omega), below_set3 hb8 (by omega) _ _ _⟩
end Go.Proofs.Ytjilcobagmelgaa
