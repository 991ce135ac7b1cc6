/- impl.GapCounts, spec.GapCounts -/
import Derived.Test.YtdoledckkbcihaaClkErr
namespace Go.Proofs.Ytdoledckkbcihaa
open Go.RowKit
set_option linter.unusedVariables false
set_option linter.unusedSimpArgs false
set_option maxRecDepth 20000
def gcI (n : Int) : Nat := if 8 < n then 0 else n.toNat
def gcStep (cs : List Int) (n : Int) : List Int := cs.set (gcI n) (cs.getD (gcI n) 0 + 1)
def gcTo (ns : List Int) (k : Nat) : List Int := (ns.take k).foldl gcStep (List.replicate 9 0)
theorem gcTo_succ {ns : List Int} {k : Nat} {x : Int} (h : ns[k]? = some x) : gcTo ns (k + 1) = gcStep (gcTo ns k) x := by
  unfold gcTo
  rw [List.take_add_one, h]
  simp
theorem gcTo_len (ns : List Int) : ∀ k, (gcTo ns k).length = 9
  | 0 => rfl
  | k + 1 => by
    cases h : ns[k]? with
    | none =>
      have : ns.take (k + 1) = ns.take k := by rw [List.take_add_one, h]; simp
      unfold gcTo
      rw [this]
      exact gcTo_len ns k
    | some x => rw [gcTo_succ h]; unfold gcStep; rw [List.length_set]; exact gcTo_len ns k
theorem gcTo_bd (ns : List Int) : ∀ k j, 0 ≤ (gcTo ns k).getD j 0 ∧ (gcTo ns k).getD j 0 ≤ k
  | 0, j => by
    have : (List.replicate 9 (0 : Int)).getD j 0 = 0 := by
      rw [List.getD_eq_getElem?_getD, List.getElem?_replicate]
      split <;> rfl
    show 0 ≤ (List.replicate 9 (0 : Int)).getD j 0 ∧ (List.replicate 9 (0 : Int)).getD j 0 ≤ ((0 : Nat) : Int)
    rw [this]; omega
  | k + 1, j => by
    have ih := gcTo_bd ns k
    cases h : ns[k]? with
    | none =>
      have e : gcTo ns (k + 1) = gcTo ns k := by unfold gcTo; rw [show ns.take (k + 1) = ns.take k by rw [List.take_add_one, h]; simp]
      rw [e]
      have := ih j
      omega
    | some x =>
      rw [gcTo_succ h]
      unfold gcStep
      have h1 := ih j
      have h2 := ih (gcI x)
      rw [List.getD_eq_getElem?_getD, List.getElem?_set]
      split
      · split
        · simp only [Option.getD_some]; omega
        · simp; omega
      · rw [← List.getD_eq_getElem?_getD]; omega
def gcV (cl f : Int) (zs : List Int) (c l h p s : Int) : List Int := if ckCode cl f zs c l h p s = 0 then gcTo (ckNs c l h p s f zs zs.length) zs.length else []
theorem gcV_len (cl f : Int) (zs : List Int) (c l h p s : Int) : (gcV cl f zs c l h p s).length ≤ 1048576 := by
  unfold gcV
  split
  · rw [gcTo_len]; omega
  · simp
theorem make9 (w : World) : (Instr.makeSlice 49 (.int .i64 9) (.int .i64 9)).run Try.prog w = .ok (.slice (some ⟨w.heap.size, 0, none⟩) 9 9) (w.alloc (.cells (madeCells #[.int .i64 0] 9) 2)) :=
  run_make_row' (P := Try.prog) 49 2 (.int .i64 0) 8 Try.underlying49 i64info rfl .i64 .i64 9 (by omega) (by omega) w
theorem row9 (w : World) (ns : List Int) : RowAt (w.alloc (.cells (madeCells #[.int .i64 0] 9) 2)) w.heap.size (gcTo ns 0) := by
  unfold RowAt
  rw [heap_alloc_new, made_rep]
  rfl
set_option maxHeartbeats 8000000 in
theorem gapCounts_any (cl f : Int) (a : Option Addr) (cap : Nat) (zs : List Int) (c l h p s : Int) (hl : zs.length ≤ 1048576) (w : World) (hs : SlA w a zs) :
    Calls Try.prog 36 #[.agg #[.int .i64 cl, .int .i64 f, .slice a zs.length cap], .agg #[.int .i64 c, .int .i64 l, .int .i64 h, .int .i64 p, .int .i64 s]] w (IntRes2 (gcV cl f zs c l h p s) (ckCode cl f zs c l h p s) w) := by
  have RG := Lib.hid (fun w' (hb : Below w.heap.size w w') => readGaps_any cl f a cap zs c l h p s hl w' (hs.below hb (Nat.le_refl _)))
  have HB0 := Lib.hid (show Below w.heap.size w ((w.alloc (.cells #[.int .i64 cl, .int .i64 f, .slice a zs.length cap] 57)).alloc (.cells #[.int .i64 c, .int .i64 l, .int .i64 h, .int .i64 p, .int .i64 s] 59)) from ((Below.refl _ _).alloc (Nat.le_refl _) _).alloc (by simp) _)
  unfold gcV
  by_cases h0 : ckCode cl f zs c l h p s = 0
  · have hres : ckRes cl f zs c l h p s = ckL c l h p s f zs := by unfold ckRes; rw [if_pos h0]
    have hl4 := ck_len h0
    have hpos : ∀ k, k < zs.length → 1 ≤ ckN c l h p s f zs k := fun k hk => by
      unfold ckCode at h0
      split at h0
      · next h1 =>
        rw [Bool.and_eq_true] at h1
        obtain ⟨_, _, hz, _, hf0, _⟩ := fluxOk_iff.1 h1.1
        have h9 := inB_iff.1 (List.all_eq_true.1 hz zs[k] (by simp))
        exact (ckN_bd h1.2 hf0 (show zs[k]? = some zs[k] by simp) h9.1 h9.2).1
      · omega
    rw [h0, hres] at RG
    rw [if_pos h0, h0]
    have hmk := fun w => make9 w
    have HLL := Lib.hid (ckL_len c l h p s f zs)
    have HAT := Lib.hid (fun k (hk : k < zs.length) => And.intro (ckL_at c l h p s f zs hk) (And.intro (ckNs_at c l h p s f zs hk) (hpos k hk)))
    generalize ckNs c l h p s f zs zs.length = NS at *
    generalize ckL c l h p s f zs = LL at *
    clear h0 hres hs hpos
    go_enter Try.func36, Try.ntmps36
    go_wp2_with fail
    refine (RG.out _ HB0.out).mono ?_
    rintro e w1 ⟨a1, c1, rfl, hso, hb1⟩
    rw [HLL.out]
    have hS := Lib.hid hso.within.sl
    have hz1 := hb1.size
    simp at hz1
    have HB1 := Lib.hid (HB0.out.trans (hb1.mono (by simp; omega)))
    clear hso hb1
    go_wp2
    clear hmk
    go_loopw [10, 23] (fun _ i wr => ∃ k : Nat, k ≤ zs.length ∧ i = .int .i64 k ∧ Hid (RowAt wr w1.heap.size (gcTo NS k)) ∧ Below w1.heap.size w1 wr ∧ w1.heap.size < wr.heap.size) (fun _ i _ => zs.length - (intOf i).toNat)
    case atStart => exact ⟨0, Nat.zero_le _, rfl, Lib.hid (row9 w1 NS), (Below.refl _ _).alloc (Nat.le_refl _) _, by simp⟩
    case round =>
      obtain ⟨k, hk, rfl, hR, hb, hgt⟩ := hrel
      by_cases hlt : k < zs.length
      · obtain ⟨hx, hy, hp1⟩ := HAT.out k hlt
        generalize ckN c l h p s f zs k = N at hx hy hp1
        generalize ckE c l h p s f zs k = E at hx
        obtain ⟨b, off, rfl, hbl, hc⟩ := (hS.out.below hb (Nat.le_refl _)).at rowGap_len hx
        have c0 : wr.cell? ⟨b, off + k * 2, none⟩ = some (.int .i64 N) := hc 0 _ rfl
        have c1 : wr.cell? ⟨b, off + k * 2 + 1, none⟩ = some (.int .i64 E) := hc 1 _ rfl
        have hlen := gcTo_len NS k
        have hbd := gcTo_bd NS k
        have hsu := gcTo_succ hy
        unfold gcStep at hsu
        have l1 : ¬ w1.heap.size = wr.heap.size := by omega
        have l2 : ¬ wr.heap.size = w1.heap.size := by omega
        by_cases h8 : 8 < N
        · have hi : gcI N = 0 := by unfold gcI; rw [if_pos h8]
          rw [hi] at hsu
          have hb0 := hbd 0
          have d0 : wr.cell? ⟨w1.heap.size, 0, none⟩ = some (.int .i64 ((gcTo NS k).getD 0 0)) := by rw [hR.out.cellk (by omega), List.getD_eq_getElem?_getD, List.getElem?_eq_getElem (by omega)]; rfl
          have z0 := hR.out.free (k := 0)
          generalize (gcTo NS k).getD 0 0 = V at *
          have hwV : IntKind.i64.wrap (V + 1) = V + 1 := IntWalk.i64_in _ (by omega)
          have HX := Lib.hid hsu
          clear hc hx hbl hbd hsu hlen hi
          go_wp2
          go_roundw
          case rel =>
            refine ⟨k + 1, by omega, by go_num, ?_, (hb.setCell (Nat.le_refl _) _).alloc (by simp; omega) _, by simp; omega⟩
            unfold Hid RowAt
            rw [Below.heap_alloc _ _ _ (by simp; omega), HX.out]
            exact hR.out.set 0 (V + 1)
          case measure => simp [intOf]; omega
        · obtain ⟨m, rfl⟩ : ∃ m : Nat, N = m := ⟨N.toNat, by omega⟩
          have hi : gcI (m : Int) = m := by unfold gcI; rw [if_neg h8]; rfl
          rw [hi] at hsu
          have hb0 := hbd m
          have hm8 : m < 9 := by omega
          have d0 : wr.cell? ⟨w1.heap.size, m, none⟩ = some (.int .i64 ((gcTo NS k).getD m 0)) := by rw [hR.out.cellk (by omega), List.getD_eq_getElem?_getD, List.getElem?_eq_getElem (by omega)]; rfl
          have z0 := hR.out.free (k := m)
          generalize (gcTo NS k).getD m 0 = V at *
          have hwV : IntKind.i64.wrap (V + 1) = V + 1 := IntWalk.i64_in _ (by omega)
          have HX := Lib.hid hsu
          clear hc hx hbl hbd hsu hlen hi
          go_wp2
          go_roundw
          case rel =>
            refine ⟨k + 1, by omega, by go_num, ?_, (hb.setCell (Nat.le_refl _) _).alloc (by simp; omega) _, by simp; omega⟩
            unfold Hid RowAt
            rw [Below.heap_alloc _ _ _ (by simp; omega), HX.out]
            exact hR.out.set m (V + 1)
          case measure => simp [intOf]; omega
      · obtain rfl : k = zs.length := by omega
        have hl9 := gcTo_len NS zs.length
        go_wp2
        go_ret2
        refine ⟨some ⟨w1.heap.size, 0, none⟩, 9, by rw [hl9]; rfl, .inr ⟨w1.heap.size, #[], rfl, by omega, ?_⟩, HB1.out.trans (hb.mono (by omega))⟩
        rw [hR.out]; simp
  · have hres : ckRes cl f zs c l h p s = [] := by unfold ckRes; rw [if_neg h0]
    rw [hres] at RG
    rw [if_neg h0]
    generalize ckCode cl f zs c l h p s = code at *
    have hcb : (code == 0) = false := by rw [beq_eq_false_iff_ne]; exact h0
    clear hres hs
    go_enter Try.func36, Try.ntmps36
    go_wp2_with fail
    refine (RG.out _ HB0.out).mono ?_
    rintro e w1 ⟨a1, c1, rfl, hso, hb1⟩
    have HB1 := Lib.hid (HB0.out.trans (hb1.mono (by simp; omega)))
    clear hso hb1
    go_wp2
    go_ret2
    exact ⟨none, 0, rfl, .inl rfl, HB1.out⟩
set_option maxHeartbeats 8000000 in
theorem specGapCounts_any (cl f : Int) (a : Option Addr) (cap : Nat) (zs : List Int) (c l h p s : Int) (hl : zs.length ≤ 1048576) (w : World) (hs : SlA w a zs) :
    Calls Try.prog 35 #[.agg #[.int .i64 cl, .int .i64 f, .slice a zs.length cap], .agg #[.int .i64 c, .int .i64 l, .int .i64 h, .int .i64 p, .int .i64 s]] w (IntRes2 (gcV cl f zs c l h p s) (ckCode cl f zs c l h p s) w) := by
  have KZ := Lib.hid (fun w' (hb : Below w.heap.size w w') => hs.below hb (Nat.le_refl _))
  have VC := Lib.hid (fun w' => l03Ok_any c l h p s w')
  have HB0 := Lib.hid (show Below w.heap.size w ((w.alloc (.cells #[.int .i64 cl, .int .i64 f, .slice a zs.length cap] 57)).alloc (.cells #[.int .i64 c, .int .i64 l, .int .i64 h, .int .i64 p, .int .i64 s] 59)) from ((Below.refl _ _).alloc (Nat.le_refl _) _).alloc (by simp) _)
  have HF0 := Lib.hid (show FluxAt ((w.alloc (.cells #[.int .i64 cl, .int .i64 f, .slice a zs.length cap] 57)).alloc (.cells #[.int .i64 c, .int .i64 l, .int .i64 h, .int .i64 p, .int .i64 s] 59)) w.heap.size cl f a zs.length cap from (FluxAt.new w cl f a zs.length cap 57 _ rfl).below ((Below.refl _ _).alloc (Nat.le_refl _) _) (by simp))
  have HC0 := Lib.hid (BoxAt.new (w.alloc (.cells #[.int .i64 cl, .int .i64 f, .slice a zs.length cap] 57)) #[.int .i64 c, .int .i64 l, .int .i64 h, .int .i64 p, .int .i64 s] 59 (w.heap.size + 1) (by simp))
  have VF := Lib.hid (fun w' (hb : Below w.heap.size w w') (hf : FluxAt w' w.heap.size cl f a zs.length cap) => l02Ok_any w.heap.size cl f a zs cap w' hl hf (hs.below hb (Nat.le_refl _)))
  clear hs
  unfold gcV
  cases h1 : fluxOk cl f zs with
  | false =>
    obtain ⟨e1, e2⟩ := ckCode_1 (cl := cl) (f := f) (zs := zs) (c := c) (l := l) (h := h) (p := p) (s := s) (by rw [h1]; rfl)
    rw [e1, if_neg (by omega)]
    rw [h1] at VF
    clear h1 e1 e2
    go_enter Try.func35, Try.ntmps35
    go_wp2_with fail
    refine (VF.out _ HB0.out HF0.out).mono ?_
    rintro e w1 ⟨rfl, hb1⟩
    go_wp2
    go_ret2
    exact ⟨_, 0, rfl, .inl rfl, (HB0.out.trans (hb1.mono (by simp; omega))).alloc (by have := hb1.size; simp at this; omega) _⟩
  | true =>
    rw [h1] at VF
    cases h2 : clockOk c l h p s with
    | false =>
      obtain ⟨e1, e2⟩ := ckCode_1 (cl := cl) (f := f) (zs := zs) (c := c) (l := l) (h := h) (p := p) (s := s) (by rw [h1, h2]; rfl)
      rw [e1, if_neg (by omega)]
      rw [h2] at VC
      clear h1 h2 e1 e2
      go_enter Try.func35, Try.ntmps35
      go_wp2_with fail
      refine (VF.out _ HB0.out HF0.out).mono ?_
      rintro e w1 ⟨rfl, hb1⟩
      have BC := Lib.hid (HC0.out.below hb1 (by simp))
      have b0 := BC.out 0 _ rfl
      have b1 := BC.out 1 _ rfl
      have b2 := BC.out 2 _ rfl
      have b3 := BC.out 3 _ rfl
      have b4 := BC.out 4 _ rfl
      have hz1 := hb1.size
      simp at hz1
      have HB1 := Lib.hid (HB0.out.trans (hb1.mono (by simp; omega)))
      clear hb1
      go_wp2_with fail
      refine (VC.out _).mono ?_
      rintro e w2 ⟨rfl, hb2⟩
      go_wp2
      go_ret2
      exact ⟨_, 0, rfl, .inl rfl, (HB1.out.trans (hb2.mono HB1.out.size)).alloc (by have := hb2.size; omega) _⟩
    | true =>
      rw [h2] at VC
      have LA := Lib.hid (fun w' (hb : Below w.heap.size w w') (hf : FluxAt w' w.heap.size cl f a zs.length cap) => l03All_0 w.heap.size cl f a cap zs c l h p s h1 h2 w' hf (KZ.out w' hb) _ rfl)
      have hl4 := (fluxOk_iff.1 h1).2.1.2
      have hf0 := (fluxOk_iff.1 h1).2.2.2.2.1
      have hz0 := (fluxOk_iff.1 h1).2.2.1
      have HPOS := Lib.hid (fun k (hk : k < zs.length) => (show 1 ≤ ckN c l h p s f zs k from (ckN_bd h2 hf0 (show zs[k]? = some zs[k] by simp) (inB_iff.1 (List.all_eq_true.1 hz0 zs[k] (by simp))).1 (inB_iff.1 (List.all_eq_true.1 hz0 zs[k] (by simp))).2).1))
      have hcc : (fluxOk cl f zs && clockOk c l h p s) = true := by rw [h1, h2]; rfl
      cases h3 : ckOk c l h p s f zs zs.length with
      | false =>
        obtain ⟨e1, e2⟩ := ckCode_10 (cl := cl) hcc h3
        rw [e1, if_neg (by omega)]
        simp only [h3, Bool.false_eq_true, if_false] at LA
        clear h1 h2 h3 e1 e2 hcc hz0
        go_enter Try.func35, Try.ntmps35
        go_wp2_with fail
        refine (VF.out _ HB0.out HF0.out).mono ?_
        rintro e w1 ⟨rfl, hb1⟩
        have BC := Lib.hid (fun w' (hb : Below (w.heap.size + 2) w1 w') => (HC0.out.below hb1 (by simp)).below hb (by omega))
        have BF := Lib.hid (fun w' (hb : Below (w.heap.size + 2) w1 w') => (HF0.out.below hb1 (by simp; omega)).below hb (by omega))
        have b0 := BC.out _ (Below.refl _ _) 0 _ rfl
        have b1 := BC.out _ (Below.refl _ _) 1 _ rfl
        have b2 := BC.out _ (Below.refl _ _) 2 _ rfl
        have b3 := BC.out _ (Below.refl _ _) 3 _ rfl
        have b4 := BC.out _ (Below.refl _ _) 4 _ rfl
        have hz1 := hb1.size
        simp at hz1
        have HB1 := Lib.hid (HB0.out.trans (hb1.mono (by simp; omega)))
        clear hb1
        go_wp2_with fail
        refine (VC.out _).mono ?_
        rintro e w2 ⟨rfl, hb2⟩
        clear b0 b1 b2 b3 b4
        have hq2 := hb2.mono hz1
        have b0 := BC.out _ hq2 0 _ rfl
        have b1 := BC.out _ hq2 1 _ rfl
        have b2 := BC.out _ hq2 2 _ rfl
        have b3 := BC.out _ hq2 3 _ rfl
        have b4 := BC.out _ hq2 4 _ rfl
        have hz2 := hb2.size
        have HF2 := Lib.hid (BF.out _ hq2)
        have HB2 := Lib.hid (HB1.out.trans (hb2.mono HB1.out.size))
        clear hb2 hq2
        go_wp2_with fail
        refine (LA.out _ HB2.out HF2.out).mono ?_
        rintro e w3 ⟨a1, c1, a2, c2, rfl, hs1, hs2, hb3⟩
        have HB3 := Lib.hid (HB2.out.trans (hb3.mono HB2.out.size))
        clear hb3 hs1 hs2
        go_wp2
        go_ret2
        exact ⟨_, 0, rfl, .inl rfl, HB3.out.alloc HB3.out.size _⟩
      | true =>
        obtain ⟨e1, e2⟩ := ckCode_0 (cl := cl) hcc h3
        rw [e1, if_pos rfl]
        simp only [h3, if_true] at LA
        have HNB := Lib.hid (ckOk_bd h3)
        have hNl := ckNs_len c l h p s f zs zs.length
        have hEl := ckEs_len c l h p s f zs zs.length
        have HAT := Lib.hid (fun k (hk : k < zs.length) => And.intro (ckNs_at c l h p s f zs hk) (ckEs_at c l h p s f zs hk))
        clear h1 h2 h3 e1 e2 hcc hz0
        go_enter Try.func35, Try.ntmps35
        go_wp2_with fail
        refine (VF.out _ HB0.out HF0.out).mono ?_
        rintro e w1 ⟨rfl, hb1⟩
        have BC := Lib.hid (fun w' (hb : Below (w.heap.size + 2) w1 w') => (HC0.out.below hb1 (by simp)).below hb (by omega))
        have BF := Lib.hid (fun w' (hb : Below (w.heap.size + 2) w1 w') => (HF0.out.below hb1 (by simp; omega)).below hb (by omega))
        have b0 := BC.out _ (Below.refl _ _) 0 _ rfl
        have b1 := BC.out _ (Below.refl _ _) 1 _ rfl
        have b2 := BC.out _ (Below.refl _ _) 2 _ rfl
        have b3 := BC.out _ (Below.refl _ _) 3 _ rfl
        have b4 := BC.out _ (Below.refl _ _) 4 _ rfl
        have hz1 := hb1.size
        simp at hz1
        have HB1 := Lib.hid (HB0.out.trans (hb1.mono (by simp; omega)))
        clear hb1
        go_wp2_with fail
        refine (VC.out _).mono ?_
        rintro e w2 ⟨rfl, hb2⟩
        clear b0 b1 b2 b3 b4
        have hq2 := hb2.mono hz1
        have b0 := BC.out _ hq2 0 _ rfl
        have b1 := BC.out _ hq2 1 _ rfl
        have b2 := BC.out _ hq2 2 _ rfl
        have b3 := BC.out _ hq2 3 _ rfl
        have b4 := BC.out _ hq2 4 _ rfl
        have hz2 := hb2.size
        have HF2 := Lib.hid (BF.out _ hq2)
        have HB2 := Lib.hid (HB1.out.trans (hb2.mono HB1.out.size))
        clear hb2 hq2
        go_wp2_with fail
        refine (LA.out _ HB2.out HF2.out).mono ?_
        rintro e w3 ⟨a1, c1, a2, c2, rfl, hs1, hs2, hb3⟩
        have HB3 := Lib.hid (HB2.out.trans (hb3.mono HB2.out.size))
        have hz3 := hb3.size
        clear hb3 b0 b1 b2 b3 b4
        have hmk := fun w => make9 w
        have HN := Lib.hid (SlO.sl hs1)
        clear hs2 hs1
        rw [hNl, hEl]
        generalize ckNs c l h p s f zs zs.length = NS at *
        go_wp2
        clear hmk
        go_loopw [10] (fun i wr => ∃ k : Nat, k ≤ zs.length ∧ i = .int .i64 k ∧ Hid (RowAt wr w3.heap.size (gcTo NS k)) ∧ Below w3.heap.size w3 wr ∧ w3.heap.size < wr.heap.size) (fun i _ => zs.length - (intOf i).toNat)
        case atStart => exact ⟨0, Nat.zero_le _, rfl, Lib.hid (row9 w3 NS), (Below.refl _ _).alloc (Nat.le_refl _) _, by simp⟩
        case round =>
          obtain ⟨k, hk, rfl, hR, hb, hgt⟩ := hrel
          by_cases hlt : k < zs.length
          · obtain ⟨hy, _⟩ := HAT.out k hlt
            have hp1 := HPOS.out k hlt
            generalize ckN c l h p s f zs k = N at hy hp1
            obtain ⟨b, off, rfl, hc⟩ := (HN.out.below hb (Nat.le_refl _)).cell hy
            have hlen := gcTo_len NS k
            have hbd := gcTo_bd NS k
            have hsu := gcTo_succ hy
            unfold gcStep at hsu
            by_cases h8 : 8 < N
            · have hi : gcI N = 0 := by unfold gcI; rw [if_pos h8]
              rw [hi] at hsu
              have hb0 := hbd 0
              have d0 : wr.cell? ⟨w3.heap.size, 0, none⟩ = some (.int .i64 ((gcTo NS k).getD 0 0)) := by rw [hR.out.cellk (by omega), List.getD_eq_getElem?_getD, List.getElem?_eq_getElem (by omega)]; rfl
              have z0 := hR.out.free (k := 0)
              generalize (gcTo NS k).getD 0 0 = V at *
              have hwV : IntKind.i64.wrap (V + 1) = V + 1 := IntWalk.i64_in _ (by omega)
              have HX := Lib.hid hsu
              clear hbd hsu hlen hi hy
              go_wp2
              go_roundw
              case rel =>
                refine ⟨k + 1, by omega, by go_num, ?_, hb.setCell (Nat.le_refl _) _, by simpa [World.setCell] using hgt⟩
                rw [HX.out]
                exact Lib.hid (hR.out.set 0 (V + 1))
              case measure => simp [intOf]; omega
            · obtain ⟨m, rfl⟩ : ∃ m : Nat, N = m := ⟨N.toNat, by omega⟩
              have hi : gcI (m : Int) = m := by unfold gcI; rw [if_neg h8]; rfl
              rw [hi] at hsu
              have hb0 := hbd m
              have hm8 : m < 9 := by omega
              have d0 : wr.cell? ⟨w3.heap.size, m, none⟩ = some (.int .i64 ((gcTo NS k).getD m 0)) := by rw [hR.out.cellk (by omega), List.getD_eq_getElem?_getD, List.getElem?_eq_getElem (by omega)]; rfl
              have z0 := hR.out.free (k := m)
              generalize (gcTo NS k).getD m 0 = V at *
              have hwV : IntKind.i64.wrap (V + 1) = V + 1 := IntWalk.i64_in _ (by omega)
              have HX := Lib.hid hsu
              clear hbd hsu hlen hi hy
              go_wp2
              go_roundw
              case rel =>
                refine ⟨k + 1, by omega, by go_num, ?_, hb.setCell (Nat.le_refl _) _, by simpa [World.setCell] using hgt⟩
                rw [HX.out]
                exact Lib.hid (hR.out.set m (V + 1))
              case measure => simp [intOf]; omega
          · obtain rfl : k = zs.length := by omega
            have hl9 := gcTo_len NS zs.length
            go_wp2
            go_ret2
            refine ⟨some ⟨w3.heap.size, 0, none⟩, 9, by rw [hl9]; rfl, .inr ⟨w3.heap.size, #[], rfl, by have := HB3.out.size; omega, ?_⟩, HB3.out.trans (hb.mono HB3.out.size)⟩
            rw [hR.out]; simp
end Go.Proofs.Ytdoledckkbcihaa
