/- impl.ClockErrors, spec.ClockErrors -/
import Derived.Test.YtdoledckkbcihaaReadGaps
import Derived.Test.YtdoledckkbcihaaL03All
namespace Go.Proofs.Ytdoledckkbcihaa
open Go.RowKit
set_option linter.unusedVariables false
set_option linter.unusedSimpArgs false
set_option maxRecDepth 20000
/-- Two results: a slice of the call's own, and a code. -/
def IntRes2 (l : List Int) (code : Int) (w : World) (e : Ending) (w' : World) : Prop :=
  ∃ a cap, e = .returned (.tuple #[.slice a l.length cap, .int .i64 code]) ∧ SlO w' w.heap.size a l ∧ Below w.heap.size w w'
def ceV (cl f : Int) (zs : List Int) (c l h p s : Int) : List Int := if ckCode cl f zs c l h p s = 0 then ckEs c l h p s f zs zs.length else []
theorem ck_len {cl f : Int} {zs : List Int} {c l h p s : Int} (h0 : ckCode cl f zs c l h p s = 0) : zs.length ≤ 4000 := by
  unfold ckCode at h0
  split at h0
  · next h1 =>
    rw [Bool.and_eq_true] at h1
    exact (fluxOk_iff.1 h1.1).2.1.2
  · omega
theorem ceV_len (cl f : Int) (zs : List Int) (c l h p s : Int) : (ceV cl f zs c l h p s).length ≤ 1048576 := by
  unfold ceV
  split
  · next h0 => rw [ckEs_len]; have := ck_len h0; omega
  · simp
theorem RowAt.set {w : World} {g : Nat} {zs : List Int} (h : RowAt w g zs) (i : Nat) (x : Int) : RowAt (w.setCell ⟨g, i, none⟩ (.int .i64 x)) g (zs.set i x) := by
  unfold RowAt at h ⊢
  rw [heap_setCell_same w g i _ _ _ h]
  simp [List.map_set]
/-- The first k of es, and zeros. -/
def fillTo (es : List Int) (k : Nat) : List Int := es.take k ++ List.replicate (es.length - k) 0
theorem fillTo_len (es : List Int) {k : Nat} (hk : k ≤ es.length) : (fillTo es k).length = es.length := by simp [fillTo]; omega
theorem fillTo_succ {es : List Int} {k : Nat} {x : Int} (h : es[k]? = some x) : (fillTo es k).set k x = fillTo es (k + 1) := by
  have hk : k < es.length := (List.getElem?_eq_some_iff.1 h).1
  unfold fillTo
  rw [List.set_append_right _ _ (by simp; omega), List.take_add_one, h]
  have e1 : k - (es.take k).length = 0 := by simp; omega
  rw [e1, show es.length - k = (es.length - (k + 1)) + 1 by omega, List.replicate_succ]
  simp
theorem fillTo_all (es : List Int) : fillTo es es.length = es := by simp [fillTo]
theorem RowAt.cellk {w : World} {g k : Nat} {zs : List Int} (h : RowAt w g zs) (hk : k < zs.length) : w.cell? ⟨g, k, none⟩ = some (.int .i64 zs[k]) := by
  unfold RowAt at h
  simp [World.cell?, h, hk]
theorem RowAt.free {w : World} {g k : Nat} {zs : List Int} (h : RowAt w g zs) : w.frozen? ⟨g, k, none⟩ = false := by
  unfold RowAt at h
  simp [World.frozen?, h]
theorem made_rep (v : Value) (n : Nat) : madeCells #[v] n = Array.replicate n v := by
  apply Array.ext
  · simp [madeCells]
  · intro i h1 h2
    simp [madeCells, Nat.mod_one]
theorem ckEs_at (c l h p s f : Int) (zs : List Int) {k n : Nat} (hk : k < n) : (ckEs c l h p s f zs n)[k]? = some (ckE c l h p s f zs k) := by simp [ckEs, hk]
theorem ckNs_at (c l h p s f : Int) (zs : List Int) {k n : Nat} (hk : k < n) : (ckNs c l h p s f zs n)[k]? = some (ckN c l h p s f zs k) := by simp [ckNs, hk]
set_option maxHeartbeats 8000000 in
theorem clockErrors_any (cl f : Int) (a : Option Addr) (cap : Nat) (zs : List Int) (c l h p s : Int) (hl : zs.length ≤ 1048576) (w : World) (hs : SlA w a zs) :
    Calls Try.prog 29 #[.agg #[.int .i64 cl, .int .i64 f, .slice a zs.length cap], .agg #[.int .i64 c, .int .i64 l, .int .i64 h, .int .i64 p, .int .i64 s]] w (IntRes2 (ceV cl f zs c l h p s) (ckCode cl f zs c l h p s) w) := by
  have RG := Lib.hid (fun w' (hb : Below w.heap.size w w') => readGaps_any cl f a cap zs c l h p s hl w' (hs.below hb (Nat.le_refl _)))
  have HB0 := Lib.hid (show Below w.heap.size w ((w.alloc (.cells #[.int .i64 cl, .int .i64 f, .slice a zs.length cap] 57)).alloc (.cells #[.int .i64 c, .int .i64 l, .int .i64 h, .int .i64 p, .int .i64 s] 59)) from ((Below.refl _ _).alloc (Nat.le_refl _) _).alloc (by simp) _)
  unfold ceV
  by_cases h0 : ckCode cl f zs c l h p s = 0
  · have hres : ckRes cl f zs c l h p s = ckL c l h p s f zs := by unfold ckRes; rw [if_pos h0]
    have hl4 := ck_len h0
    rw [h0, hres] at RG
    rw [if_pos h0, h0]
    have hEl := ckEs_len c l h p s f zs zs.length
    have hmk := fun w => run_make_row' (P := Try.prog) 49 2 (.int .i64 0) 8 Try.underlying49 i64info rfl .i64 .i64 zs.length (by omega) (by omega) w
    have HLL := Lib.hid (ckL_len c l h p s f zs)
    have HAT := Lib.hid (fun k (hk : k < zs.length) => And.intro (ckL_at c l h p s f zs hk) (ckEs_at c l h p s f zs hk))
    generalize ckEs c l h p s f zs zs.length = ES at *
    generalize ckL c l h p s f zs = LL at *
    clear h0 hres hs
    go_enter Try.func29, Try.ntmps29
    go_wp2_with fail
    refine (RG.out _ HB0.out).mono ?_
    rintro e w1 ⟨a1, c1, rfl, hso, hb1⟩
    rw [HLL.out]
    have hS := Lib.hid hso.within.sl
    have hz1 := hb1.size
    simp at hz1
    have HB1 := Lib.hid (HB0.out.trans (hb1.mono (by simp; omega)))
    clear hso hb1
    go_wp2
    clear hmk
    go_loopw [9, 10, 25] (fun _ _ i wr => ∃ k : Nat, k ≤ zs.length ∧ i = .int .i64 k ∧ Hid (RowAt wr w1.heap.size (fillTo ES k)) ∧ Below w1.heap.size w1 wr ∧ w1.heap.size < wr.heap.size) (fun _ _ i _ => zs.length - (intOf i).toNat)
    case atStart =>
      refine ⟨0, Nat.zero_le _, rfl, ?_, (Below.refl _ _).alloc (Nat.le_refl _) _, by simp⟩
      unfold Hid RowAt
      rw [heap_alloc_new]
      rw [made_rep]
      simp [fillTo, hEl]
    case round =>
      obtain ⟨k, hk, rfl, hR, hb, hgt⟩ := hrel
      by_cases hlt : k < zs.length
      · obtain ⟨hx, hy⟩ := HAT.out k hlt
        generalize ckN c l h p s f zs k = N at hx
        generalize ckE c l h p s f zs k = E at hx hy
        obtain ⟨b, off, rfl, hbl, hc⟩ := (hS.out.below hb (Nat.le_refl _)).at rowGap_len hx
        have c0 : wr.cell? ⟨b, off + k * 2, none⟩ = some (.int .i64 N) := hc 0 _ rfl
        have c1 : wr.cell? ⟨b, off + k * 2 + 1, none⟩ = some (.int .i64 E) := hc 1 _ rfl
        have d0 := hR.out.cellk (k := k) (by rw [fillTo_len _ (by omega), hEl]; exact hlt)
        have z0 := hR.out.free (k := k)
        have l1 : ¬ w1.heap.size = wr.heap.size := by omega
        have l2 : ¬ wr.heap.size = w1.heap.size := by omega
        clear hc hx hbl
        go_wp2
        go_roundw
        case rel =>
          refine ⟨k + 1, by omega, by go_num, ?_, ?_, ?_⟩
          · unfold Hid RowAt
            rw [Below.heap_alloc _ _ _ (by simp; omega), ← fillTo_succ hy]
            exact hR.out.set k E
          · exact (hb.setCell (Nat.le_refl _) _).alloc (by simp; omega) _
          · simp; omega
        case measure => simp [intOf]; omega
      · obtain rfl : k = zs.length := by omega
        rw [← hEl, fillTo_all] at hR
        go_wp2
        go_ret2
        refine ⟨some ⟨w1.heap.size, 0, none⟩, zs.length, by rw [hEl]; rfl, .inr ⟨w1.heap.size, #[], rfl, by omega, ?_⟩, HB1.out.trans (hb.mono (by omega))⟩
        rw [hR.out]; simp
  · have hres : ckRes cl f zs c l h p s = [] := by unfold ckRes; rw [if_neg h0]
    rw [hres] at RG
    rw [if_neg h0]
    generalize ckCode cl f zs c l h p s = code at *
    have hcb : (code == 0) = false := by rw [beq_eq_false_iff_ne]; exact h0
    clear hres hs
    go_enter Try.func29, Try.ntmps29
    go_wp2_with fail
    refine (RG.out _ HB0.out).mono ?_
    rintro e w1 ⟨a1, c1, rfl, hso, hb1⟩
    have HB1 := Lib.hid (HB0.out.trans (hb1.mono (by simp; omega)))
    clear hso hb1
    go_wp2
    go_ret2
    exact ⟨none, 0, rfl, .inl rfl, HB1.out⟩
set_option maxHeartbeats 8000000 in
theorem specClockErrors_any (cl f : Int) (a : Option Addr) (cap : Nat) (zs : List Int) (c l h p s : Int) (hl : zs.length ≤ 1048576) (w : World) (hs : SlA w a zs) :
    Calls Try.prog 26 #[.agg #[.int .i64 cl, .int .i64 f, .slice a zs.length cap], .agg #[.int .i64 c, .int .i64 l, .int .i64 h, .int .i64 p, .int .i64 s]] w (IntRes2 (ceV cl f zs c l h p s) (ckCode cl f zs c l h p s) w) := by
  have KZ := Lib.hid (fun w' (hb : Below w.heap.size w w') => hs.below hb (Nat.le_refl _))
  have VC := Lib.hid (fun w' => l03Ok_any c l h p s w')
  have HB0 := Lib.hid (show Below w.heap.size w ((w.alloc (.cells #[.int .i64 cl, .int .i64 f, .slice a zs.length cap] 57)).alloc (.cells #[.int .i64 c, .int .i64 l, .int .i64 h, .int .i64 p, .int .i64 s] 59)) from ((Below.refl _ _).alloc (Nat.le_refl _) _).alloc (by simp) _)
  have HF0 := Lib.hid (show FluxAt ((w.alloc (.cells #[.int .i64 cl, .int .i64 f, .slice a zs.length cap] 57)).alloc (.cells #[.int .i64 c, .int .i64 l, .int .i64 h, .int .i64 p, .int .i64 s] 59)) w.heap.size cl f a zs.length cap from (FluxAt.new w cl f a zs.length cap 57 _ rfl).below ((Below.refl _ _).alloc (Nat.le_refl _) _) (by simp))
  have HC0 := Lib.hid (BoxAt.new (w.alloc (.cells #[.int .i64 cl, .int .i64 f, .slice a zs.length cap] 57)) #[.int .i64 c, .int .i64 l, .int .i64 h, .int .i64 p, .int .i64 s] 59 (w.heap.size + 1) (by simp))
  have VF := Lib.hid (fun w' (hb : Below w.heap.size w w') (hf : FluxAt w' w.heap.size cl f a zs.length cap) => l02Ok_any w.heap.size cl f a zs cap w' hl hf (hs.below hb (Nat.le_refl _)))
  clear hs
  unfold ceV
  cases h1 : fluxOk cl f zs with
  | false =>
    obtain ⟨e1, e2⟩ := ckCode_1 (cl := cl) (f := f) (zs := zs) (c := c) (l := l) (h := h) (p := p) (s := s) (by rw [h1]; rfl)
    rw [e1, if_neg (by omega)]
    rw [h1] at VF
    clear h1 e1 e2
    go_enter Try.func26, Try.ntmps26
    go_wp2_with fail
    refine (VF.out _ HB0.out HF0.out).mono ?_
    rintro e w1 ⟨rfl, hb1⟩
    go_wp2
    go_ret2
    exact ⟨_, 0, rfl, .inl rfl, (HB0.out.trans (hb1.mono (by simp; omega))).alloc (by have := hb1.size; simp at this; omega) _⟩
  | true =>
    rw [h1] at VF
    cases h2 : clockOk c l h p s with
    | false =>
      obtain ⟨e1, e2⟩ := ckCode_1 (cl := cl) (f := f) (zs := zs) (c := c) (l := l) (h := h) (p := p) (s := s) (by rw [h1, h2]; rfl)
      rw [e1, if_neg (by omega)]
      rw [h2] at VC
      clear h1 h2 e1 e2
      go_enter Try.func26, Try.ntmps26
      go_wp2_with fail
      refine (VF.out _ HB0.out HF0.out).mono ?_
      rintro e w1 ⟨rfl, hb1⟩
      have BC := Lib.hid (HC0.out.below hb1 (by simp))
      have b0 := BC.out 0 _ rfl
      have b1 := BC.out 1 _ rfl
      have b2 := BC.out 2 _ rfl
      have b3 := BC.out 3 _ rfl
      have b4 := BC.out 4 _ rfl
      have hz1 := hb1.size
      simp at hz1
      have HB1 := Lib.hid (HB0.out.trans (hb1.mono (by simp; omega)))
      clear hb1
      go_wp2_with fail
      refine (VC.out _).mono ?_
      rintro e w2 ⟨rfl, hb2⟩
      go_wp2
      go_ret2
      exact ⟨_, 0, rfl, .inl rfl, (HB1.out.trans (hb2.mono HB1.out.size)).alloc (by have := hb2.size; omega) _⟩
    | true =>
      rw [h2] at VC
      have LA := Lib.hid (fun w' (hb : Below w.heap.size w w') (hf : FluxAt w' w.heap.size cl f a zs.length cap) => l03All_0 w.heap.size cl f a cap zs c l h p s h1 h2 w' hf (KZ.out w' hb) _ rfl)
      have hl4 := (fluxOk_iff.1 h1).2.1.2
      have hf0 := (fluxOk_iff.1 h1).2.2.2.2.1
      have hz0 := (fluxOk_iff.1 h1).2.2.1
      have HPOS := Lib.hid (fun k (hk : k < zs.length) => (show 1 ≤ ckN c l h p s f zs k from (ckN_bd h2 hf0 (show zs[k]? = some zs[k] by simp) (inB_iff.1 (List.all_eq_true.1 hz0 zs[k] (by simp))).1 (inB_iff.1 (List.all_eq_true.1 hz0 zs[k] (by simp))).2).1))
      have hcc : (fluxOk cl f zs && clockOk c l h p s) = true := by rw [h1, h2]; rfl
      cases h3 : ckOk c l h p s f zs zs.length with
      | false =>
        obtain ⟨e1, e2⟩ := ckCode_10 (cl := cl) hcc h3
        rw [e1, if_neg (by omega)]
        simp only [h3, Bool.false_eq_true, if_false] at LA
        clear h1 h2 h3 e1 e2 hcc hz0
        go_enter Try.func26, Try.ntmps26
        go_wp2_with fail
        refine (VF.out _ HB0.out HF0.out).mono ?_
        rintro e w1 ⟨rfl, hb1⟩
        have BC := Lib.hid (fun w' (hb : Below (w.heap.size + 2) w1 w') => (HC0.out.below hb1 (by simp)).below hb (by omega))
        have BF := Lib.hid (fun w' (hb : Below (w.heap.size + 2) w1 w') => (HF0.out.below hb1 (by simp; omega)).below hb (by omega))
        have b0 := BC.out _ (Below.refl _ _) 0 _ rfl
        have b1 := BC.out _ (Below.refl _ _) 1 _ rfl
        have b2 := BC.out _ (Below.refl _ _) 2 _ rfl
        have b3 := BC.out _ (Below.refl _ _) 3 _ rfl
        have b4 := BC.out _ (Below.refl _ _) 4 _ rfl
        have hz1 := hb1.size
        simp at hz1
        have HB1 := Lib.hid (HB0.out.trans (hb1.mono (by simp; omega)))
        clear hb1
        go_wp2_with fail
        refine (VC.out _).mono ?_
        rintro e w2 ⟨rfl, hb2⟩
        clear b0 b1 b2 b3 b4
        have hq2 := hb2.mono hz1
        have b0 := BC.out _ hq2 0 _ rfl
        have b1 := BC.out _ hq2 1 _ rfl
        have b2 := BC.out _ hq2 2 _ rfl
        have b3 := BC.out _ hq2 3 _ rfl
        have b4 := BC.out _ hq2 4 _ rfl
        have hz2 := hb2.size
        have HF2 := Lib.hid (BF.out _ hq2)
        have HB2 := Lib.hid (HB1.out.trans (hb2.mono HB1.out.size))
        clear hb2 hq2
        go_wp2_with fail
        refine (LA.out _ HB2.out HF2.out).mono ?_
        rintro e w3 ⟨a1, c1, a2, c2, rfl, hs1, hs2, hb3⟩
        have HB3 := Lib.hid (HB2.out.trans (hb3.mono HB2.out.size))
        clear hb3 hs1 hs2
        go_wp2
        go_ret2
        exact ⟨_, 0, rfl, .inl rfl, HB3.out.alloc HB3.out.size _⟩
      | true =>
        obtain ⟨e1, e2⟩ := ckCode_0 (cl := cl) hcc h3
        rw [e1, if_pos rfl]
        simp only [h3, if_true] at LA
        have HNB := Lib.hid (ckOk_bd h3)
        have hNl := ckNs_len c l h p s f zs zs.length
        have hEl := ckEs_len c l h p s f zs zs.length
        have HAT := Lib.hid (fun k (hk : k < zs.length) => And.intro (ckNs_at c l h p s f zs hk) (ckEs_at c l h p s f zs hk))
        clear h1 h2 h3 e1 e2 hcc hz0
        go_enter Try.func26, Try.ntmps26
        go_wp2_with fail
        refine (VF.out _ HB0.out HF0.out).mono ?_
        rintro e w1 ⟨rfl, hb1⟩
        have BC := Lib.hid (fun w' (hb : Below (w.heap.size + 2) w1 w') => (HC0.out.below hb1 (by simp)).below hb (by omega))
        have BF := Lib.hid (fun w' (hb : Below (w.heap.size + 2) w1 w') => (HF0.out.below hb1 (by simp; omega)).below hb (by omega))
        have b0 := BC.out _ (Below.refl _ _) 0 _ rfl
        have b1 := BC.out _ (Below.refl _ _) 1 _ rfl
        have b2 := BC.out _ (Below.refl _ _) 2 _ rfl
        have b3 := BC.out _ (Below.refl _ _) 3 _ rfl
        have b4 := BC.out _ (Below.refl _ _) 4 _ rfl
        have hz1 := hb1.size
        simp at hz1
        have HB1 := Lib.hid (HB0.out.trans (hb1.mono (by simp; omega)))
        clear hb1
        go_wp2_with fail
        refine (VC.out _).mono ?_
        rintro e w2 ⟨rfl, hb2⟩
        clear b0 b1 b2 b3 b4
        have hq2 := hb2.mono hz1
        have b0 := BC.out _ hq2 0 _ rfl
        have b1 := BC.out _ hq2 1 _ rfl
        have b2 := BC.out _ hq2 2 _ rfl
        have b3 := BC.out _ hq2 3 _ rfl
        have b4 := BC.out _ hq2 4 _ rfl
        have hz2 := hb2.size
        have HF2 := Lib.hid (BF.out _ hq2)
        have HB2 := Lib.hid (HB1.out.trans (hb2.mono HB1.out.size))
        clear hb2 hq2
        go_wp2_with fail
        refine (LA.out _ HB2.out HF2.out).mono ?_
        rintro e w3 ⟨a1, c1, a2, c2, rfl, hs1, hs2, hb3⟩
        have HB3 := Lib.hid (HB2.out.trans (hb3.mono HB2.out.size))
        have hz3 := hb3.size
        clear hb3 b0 b1 b2 b3 b4
        go_wp2
        go_ret2
        exact ⟨a2, c2, by (first | rfl | (rw [hEl]; rfl)), hs2.mono (by omega), HB3.out⟩
end Go.Proofs.Ytdoledckkbcihaa
