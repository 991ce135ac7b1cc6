/- impl.NewDevice -/
import Derived.Test.YtllcbiafghhcmaaPkFnDeviceOrderOrdCol
namespace Go.Proofs.Ytllcbiafghhcmaa
open Go.RowKit
set_option linter.unusedVariables false
set_option linter.unusedSimpArgs false
set_option maxRecDepth 20000
theorem OwnBlkI.prefix {w : World} {B g : Nat} {l l2 : List Int} (h : OwnBlkI w B g (l ++ l2)) : OwnBlkI w B g l := by
  obtain ⟨rest, hB, hh⟩ := h
  refine ⟨(l2.map (Value.int .i64)).toArray ++ rest, hB, ?_⟩
  rw [hh, List.map_append]
  congr 2
  apply Array.ext'
  simp
theorem BoxF.putAt {w : World} {p : Nat} {vs : Array Value} (h : BoxF w p vs) (i : Nat) (v : Value) (hi : i < vs.size) : BoxF (w.setCell ⟨p, i, none⟩ v) p (vs.setIfInBounds i v) := by
  intro j u hu
  by_cases e : j = i
  · subst e
    rw [Array.getElem?_setIfInBounds_self_of_lt hi] at hu
    cases hu
    exact ⟨World.cell?_setCell_same _ _ v (h j vs[j] (Array.getElem?_eq_getElem hi)).1, by rw [World.frozen?_setCell]; exact (h j vs[j] (Array.getElem?_eq_getElem hi)).2⟩
  · rw [Array.getElem?_setIfInBounds_ne (Ne.symm e)] at hu
    obtain ⟨h1, h2⟩ := h j u hu
    exact ⟨by rw [World.cell?_setCell_other (h := fun e' => e (by cases e'; rfl))]; exact h1, by rw [World.frozen?_setCell]; exact h2⟩
theorem ordL_split (c sk n m : Nat) (h : m ≤ n) : ∃ l2, ordL c sk n = ordL c sk m ++ l2 := by
  obtain ⟨d, rfl⟩ : ∃ d, n = m + d := ⟨n - m, by omega⟩
  refine ⟨((List.range d).map fun k => m + k).map fun k => ((ordAt c sk k : Nat) : Int), ?_⟩
  unfold ordL
  rw [List.range_add, List.map_append]
/-- A disc's numbers. -/
theorem disc_nums {f0 f1 f2 f3 : Int} {es : List SectorV} (h : discB ⟨f0, f1, f2, f3, es⟩ = true) : ∃ T C : Nat, f2 = (C : Int) ∧ f0 * f1 = (T : Int) ∧ es.length = T * C ∧ 1 ≤ es.length ∧ es.length ≤ 128 ∧ geoB f0 f1 f2 f3 = true := by
  have hl := discB_len h
  unfold discB at h
  simp only [Bool.and_eq_true, decide_eq_true_eq] at h
  obtain ⟨hg, hln, _⟩ := h
  obtain ⟨g0, g1, g2, g3⟩ := geoB_iff.1 hg
  have hm := mul_bound g0 g1 g2
  refine ⟨(f0 * f1).toNat, f2.toNat, by omega, by omega, ?_, by omega, hl, hg⟩
  have e : ((es.length : Nat) : Int) = (((f0 * f1).toNat * f2.toNat : Nat) : Int) := by
    push_cast
    rw [Int.toNat_of_nonneg (by omega), Int.toNat_of_nonneg (by omega)]
    exact hln
  exact Int.ofNat.inj e
set_option maxHeartbeats 8000000 in
theorem newDevice_any (x : DiscV) (a : Option Addr) (c : Nat) (sk sp : Int) (hm : x.f4.length ≤ 1048576) (hs : ∀ e ∈ x.f4, e.f0.size ≤ 1048576) (w : World) (h : SlS rowSector w a x.f4) :
    Calls Try.prog 8 #[.agg #[.int .i64 x.f0, .int .i64 x.f1, .int .i64 x.f2, .int .i64 x.f3, .slice a x.f4.length c], .int .i64 sk, .int .i64 sp] w (DevRes (ndV x sk sp) (ndC x sk sp) w) := by
  have hsx : ∀ e ∈ x.f4, e.f0.size ≤ maxLen := fun e he => by have := hs e he; unfold maxLen; omega
  have VA := Lib.hid (fun w' (hb : Below w.heap.size w w') => validDisc_any x a c w' hm hsx (h.below hb (Nat.le_refl _)))
  have HR0 : BoxF (((w.alloc (.cells #[.int .i64 x.f0, .int .i64 x.f1, .int .i64 x.f2, .int .i64 x.f3, .slice a x.f4.length c] 26)).alloc (.cells #[.int .i64 0, .int .i64 0, .int .i64 0, .int .i64 0, .slice none 0 0, .int .i64 0, .int .i64 0, .slice none 0 0] 31)).alloc (.cells #[.int .i64 x.f0, .int .i64 x.f1, .int .i64 x.f2, .int .i64 x.f3, .slice a x.f4.length c, .int .i64 sk, .int .i64 sp, .slice none 0 0] 31)) (w.heap.size + 1) #[.int .i64 0, .int .i64 0, .int .i64 0, .int .i64 0, .slice none 0 0, .int .i64 0, .int .i64 0, .slice none 0 0] := (BoxF.new _ _ _ _ (by simp)).below ((Below.refl _ _).alloc (Nat.le_refl _) _) (by simp)
  have HD0 : BoxF (((w.alloc (.cells #[.int .i64 x.f0, .int .i64 x.f1, .int .i64 x.f2, .int .i64 x.f3, .slice a x.f4.length c] 26)).alloc (.cells #[.int .i64 0, .int .i64 0, .int .i64 0, .int .i64 0, .slice none 0 0, .int .i64 0, .int .i64 0, .slice none 0 0] 31)).alloc (.cells #[.int .i64 x.f0, .int .i64 x.f1, .int .i64 x.f2, .int .i64 x.f3, .slice a x.f4.length c, .int .i64 sk, .int .i64 sp, .slice none 0 0] 31)) (w.heap.size + 2) #[.int .i64 x.f0, .int .i64 x.f1, .int .i64 x.f2, .int .i64 x.f3, .slice a x.f4.length c, .int .i64 sk, .int .i64 sp, .slice none 0 0] := BoxF.new _ _ _ _ (by simp)
  replace HR0 := Lib.hid HR0; replace HD0 := Lib.hid HD0
  by_cases hdv : discB x = true
  case neg =>
    have hc : ndC x sk sp = 1 := by unfold ndC; rw [if_neg hdv]
    have hv : ndV x sk sp = devZ := by unfold ndV; rw [hc]; rfl
    rw [hc, hv]
    have hd0 : discB x = false := by simpa using hdv
    rw [hd0] at VA
    clear hc hv hd0 hdv h hs hsx HD0
    go_enter Try.func8, Try.ntmps8
    go_wp2_with fail
    refine (VA.out _ (by go_grown)).mono ?_
    rintro e w1 ⟨rfl, hb1⟩
    have R := Lib.hid (HR0.out.below hb1 (by simp))
    have FB := Lib.hid (show Below w.heap.size w w1 from Below.trans (by go_grown) (hb1.mono (by simp <;> omega)))
    clear hb1 HR0
    obtain ⟨r0, y0⟩ := R.out 0 _ rfl; obtain ⟨r1, y1⟩ := R.out 1 _ rfl; obtain ⟨r2, y2⟩ := R.out 2 _ rfl; obtain ⟨r3, y3⟩ := R.out 3 _ rfl; obtain ⟨r4, y4⟩ := R.out 4 _ rfl; obtain ⟨r5, y5⟩ := R.out 5 _ rfl; obtain ⟨r6, y6⟩ := R.out 6 _ rfl; obtain ⟨r7, y7⟩ := R.out 7 _ rfl
    go_wp2
    exact bodyPost_ret (v := .tuple #[.agg #[.int .i64 0, .int .i64 0, .int .i64 0, .int .i64 0, .slice none 0 0, .int .i64 0, .int .i64 0, .slice none 0 0], .int .i64 1]) (by simp [results, Try.results8, go_sem, r0, y0, r1, y1, r2, y2, r3, y3, r4, y4, r5, y5, r6, y6, r7, y7]) rfl ⟨none, none, 0, 0, rfl, devZ_own _ _ _, ((((((((FB.out).setCell (by simp <;> omega) _).setCell (by simp <;> omega) _).setCell (by simp <;> omega) _).setCell (by simp <;> omega) _).setCell (by simp <;> omega) _).setCell (by simp <;> omega) _).setCell (by simp <;> omega) _).setCell (by simp <;> omega) _⟩
  rw [hdv] at VA
  obtain ⟨f0, f1, f2, f3, es⟩ := x
  obtain ⟨T, C, rfl, hT, hN, hN1, hN8, hg⟩ := disc_nums hdv
  dsimp only at hm hs hsx h VA HR0 HD0 ⊢
  have SH := Lib.hid (fun w => shape_any ⟨⟨f0, f1, (C : Int), f3, es⟩, sk, sp, []⟩ a none c 0 w)
  have DV := Lib.hid (fun w => isDevice_any f0 f1 (C : Int) f3 sk sp w hg)
  have hln : f0 * f1 * (C : Int) = (es.length : Int) := by rw [hT, hN]; push_cast; rfl
  rw [hln] at DV
  obtain ⟨q, hq⟩ : ∃ q, (inB 0 7 sk && inB 0 ((es.length : Int) - 1) sp) = q := ⟨_, rfl⟩
  rw [hq] at DV
  cases q with
  | false =>
    have hc : ndC ⟨f0, f1, (C : Int), f3, es⟩ sk sp = 2 := by unfold ndC; rw [if_pos hdv, hq]; rfl
    have hv : ndV ⟨f0, f1, (C : Int), f3, es⟩ sk sp = devZ := by unfold ndV; rw [hc]; rfl
    rw [hc, hv]
    clear hc hv hdv h hs hsx hT hN hg hln hq
    go_enter Try.func8, Try.ntmps8
    go_wp2_with fail
    refine (VA.out _ (by go_grown)).mono ?_
    rintro e w1 ⟨rfl, hb1⟩
    have R := Lib.hid (HR0.out.below hb1 (by simp))
    have A := Lib.hid (HD0.out.below hb1 (by simp))
    have FB := Lib.hid (show Below w.heap.size w w1 from Below.trans (by go_grown) (hb1.mono (by simp <;> omega)))
    have hz1 : w.heap.size + 2 < w1.heap.size := Nat.lt_of_lt_of_le (by simp) hb1.size
    clear hb1 HR0 HD0
    obtain ⟨a0, z0⟩ := A.out 0 _ rfl; obtain ⟨a1, z1⟩ := A.out 1 _ rfl; obtain ⟨a2, z2⟩ := A.out 2 _ rfl; obtain ⟨a3, z3⟩ := A.out 3 _ rfl; obtain ⟨a4, z4⟩ := A.out 4 _ rfl; obtain ⟨a5, z5⟩ := A.out 5 _ rfl; obtain ⟨a6, z6⟩ := A.out 6 _ rfl; obtain ⟨a7, z7⟩ := A.out 7 _ rfl
    go_wp2_with fail
    refine (SH.out _).mono ?_
    rintro e w2 ⟨rfl, hb2⟩
    clear a0 z0 a1 z1 a2 z2 a3 z3 a4 z4 a5 z5 a6 z6 a7 z7
    replace R := Lib.hid (R.out.below hb2 (by omega))
    replace FB := Lib.hid (FB.out.trans (hb2.mono FB.out.size))
    have hz2 : w.heap.size + 2 < w2.heap.size := Nat.lt_of_lt_of_le hz1 hb2.size
    clear hb2
    go_wp2_with fail
    refine (DV.out _).mono ?_
    rintro e w3 ⟨rfl, hb3⟩
    replace R := Lib.hid (R.out.below hb3 (by omega))
    replace FB := Lib.hid (FB.out.trans (hb3.mono FB.out.size))
    clear hb3
    obtain ⟨r0, y0⟩ := R.out 0 _ rfl; obtain ⟨r1, y1⟩ := R.out 1 _ rfl; obtain ⟨r2, y2⟩ := R.out 2 _ rfl; obtain ⟨r3, y3⟩ := R.out 3 _ rfl; obtain ⟨r4, y4⟩ := R.out 4 _ rfl; obtain ⟨r5, y5⟩ := R.out 5 _ rfl; obtain ⟨r6, y6⟩ := R.out 6 _ rfl; obtain ⟨r7, y7⟩ := R.out 7 _ rfl
    go_wp2
    exact bodyPost_ret (v := .tuple #[.agg #[.int .i64 0, .int .i64 0, .int .i64 0, .int .i64 0, .slice none 0 0, .int .i64 0, .int .i64 0, .slice none 0 0], .int .i64 2]) (by simp [results, Try.results8, go_sem, r0, y0, r1, y1, r2, y2, r3, y3, r4, y4, r5, y5, r6, y6, r7, y7]) rfl ⟨none, none, 0, 0, rfl, devZ_own _ _ _, ((((((((FB.out).setCell (by simp <;> omega) _).setCell (by simp <;> omega) _).setCell (by simp <;> omega) _).setCell (by simp <;> omega) _).setCell (by simp <;> omega) _).setCell (by simp <;> omega) _).setCell (by simp <;> omega) _).setCell (by simp <;> omega) _⟩
  | true =>
    have hq2 := hq
    rw [Bool.and_eq_true] at hq2
    obtain ⟨s0, s1⟩ := inB_iff.1 hq2.1
    obtain ⟨t0, t1⟩ := inB_iff.1 hq2.2
    obtain ⟨S, rfl⟩ : ∃ S : Nat, sk = (S : Int) := ⟨sk.toNat, by omega⟩
    obtain ⟨P, rfl⟩ : ∃ P : Nat, sp = (P : Int) := ⟨sp.toNat, by omega⟩
    obtain ⟨m, hmm⟩ : ∃ m, es.length - P = m := ⟨_, rfl⟩
    have hm1 : 1 ≤ m := by omega
    have hmN : m ≤ es.length := by omega
    have hc : ndC ⟨f0, f1, (C : Int), f3, es⟩ (S : Int) (P : Int) = 0 := by unfold ndC; rw [if_pos hdv, hq]; rfl
    have hv : ndV ⟨f0, f1, (C : Int), f3, es⟩ (S : Int) (P : Int) = ⟨⟨f0, f1, (C : Int), f3, es⟩, S, P, ordL C S m⟩ := by unfold ndV; rw [if_pos hc]; simp only [Int.toNat_natCast, hmm]
    rw [hc, hv]
    have BK := Lib.hid (fun w => blocks_any f0 f1 (C : Int) f3 (S : Int) (P : Int) w hg (by omega) (by omega))
    rw [hln, show (es.length : Int) - (P : Int) = (m : Int) by omega] at BK
    have OR := Lib.hid (fun w => (order_any f0 f1 f3 (P : Int) C S w).mono (fun e w' ⟨he, hw⟩ => (show ∃ b, e = Ending.returned (.func (.func 71) #[] #[.pointer (some ⟨b, 0, none⟩)]) ∧ cellsO w' b (shC f0 f1 f3 (P : Int) C S) 72 ∧ Below w.heap.size w w' from ⟨w.heap.size, he, by rw [hw]; exact heap_alloc_new w _, by rw [hw]; exact (Below.refl _ _).alloc (Nat.le_refl _) _⟩)))
    have CO := Lib.hid (fun Bs w' hBs => collectOrd_any Bs f0 f1 f3 (P : Int) T C S es.length hg hT hN (by omega) hN1 hN8 w' hBs)
    have hne : es ≠ [] := fun e => by rw [e] at hN1; simp at hN1
    have hmne : ordL C S m ≠ [] := fun e => by have := ordL_len C S m; rw [e] at this; simp at this; omega
    have CL := Lib.hid (fun w' g cap (hb : Below w.heap.size w w') (hz : SlA w' (some ⟨g, 0, none⟩) (ordL C S m)) => (show Calls Try.prog 38 #[.agg #[.int .i64 f0, .int .i64 f1, .int .i64 (C : Int), .int .i64 f3, .slice a es.length c, .int .i64 (S : Int), .int .i64 (P : Int), .slice (some ⟨g, 0, none⟩) m cap]] w' (DevOwn ⟨⟨f0, f1, (C : Int), f3, es⟩, S, P, ordL C S m⟩ w') from by
      have h0 := cloneDev_any ⟨⟨f0, f1, (C : Int), f3, es⟩, S, P, ordL C S m⟩ a (some ⟨g, 0, none⟩) c cap w' ⟨hm, by show (ordL C S m).length ≤ _; rw [ordL_len]; omega⟩ hne hmne ⟨h.below hb (Nat.le_refl _), hz⟩
      dsimp only at h0
      rw [ordL_len] at h0
      exact h0))
    obtain ⟨l2, hl2⟩ := ordL_split C S es.length m hmN
    have HL2 := Lib.hid hl2
    clear hc hv hdv h hs hsx hT hN hg hln hq hq2 hne hl2 s0 s1 t0 t1
    go_enter Try.func8, Try.ntmps8
    go_wp2_with fail
    refine (VA.out _ (by go_grown)).mono ?_
    rintro e w1 ⟨rfl, hb1⟩
    have R := Lib.hid (HR0.out.below hb1 (by simp))
    have A := Lib.hid (HD0.out.below hb1 (by simp))
    have FB := Lib.hid (show Below w.heap.size w w1 from Below.trans (by go_grown) (hb1.mono (by simp <;> omega)))
    have hz1 : w.heap.size + 2 < w1.heap.size := Nat.lt_of_lt_of_le (by simp) hb1.size
    clear hb1 HR0 HD0
    obtain ⟨a0, z0⟩ := A.out 0 _ rfl; obtain ⟨a1, z1⟩ := A.out 1 _ rfl; obtain ⟨a2, z2⟩ := A.out 2 _ rfl; obtain ⟨a3, z3⟩ := A.out 3 _ rfl; obtain ⟨a4, z4⟩ := A.out 4 _ rfl; obtain ⟨a5, z5⟩ := A.out 5 _ rfl; obtain ⟨a6, z6⟩ := A.out 6 _ rfl; obtain ⟨a7, z7⟩ := A.out 7 _ rfl
    go_wp2_with fail
    refine (SH.out _).mono ?_
    rintro e w2 ⟨rfl, hb2⟩
    clear a0 z0 a1 z1 a2 z2 a3 z3 a4 z4 a5 z5 a6 z6 a7 z7
    replace R := Lib.hid (R.out.below hb2 (by omega))
    replace A := Lib.hid (A.out.below hb2 hz1)
    replace FB := Lib.hid (FB.out.trans (hb2.mono FB.out.size))
    have hz2 : w.heap.size + 2 < w2.heap.size := Nat.lt_of_lt_of_le hz1 hb2.size
    clear hb2
    go_wp2_with fail
    refine (DV.out _).mono ?_
    rintro e w3 ⟨rfl, hb3⟩
    replace R := Lib.hid (R.out.below hb3 (by omega))
    replace A := Lib.hid (A.out.below hb3 hz2)
    replace FB := Lib.hid (FB.out.trans (hb3.mono FB.out.size))
    have hz3 : w.heap.size + 2 < w3.heap.size := Nat.lt_of_lt_of_le hz2 hb3.size
    clear hb3
    go_upto_region 6 with (fail)
    have HBX := Lib.hid (fun w' (hb : Below w3.heap.size w3 w') => A.out.below hb hz3)
    have HC := Lib.hid (show Below w3.heap.size w3 w3.drew from (Below.refl _ _).drew)
    have hcM : ∀ cap : Nat, (ordL C S es.length).length ≤ cap → es.length ≤ cap := fun cap hcp => by rw [ordL_len] at hcp; exact hcp
    have HCM := Lib.hid hcM; clear hcM
    refine wp_region_held_drew (S := (fun _ => True)) (by kernel_rfl) trivial (fun hHeld => ?_)
    refine wpAnyH_ready (rs := [0, 4]) (by kernel_rfl) (by simp) ?_
    refine AllReadyH.cons (o := { dst := some 24, op := Op.load 31 (Operand.tmp 8), type := 31, pos := "l15_blocks.go:161", after := #[], guard := none }) rfl (fun K hK => ?_) (AllReadyH.cons (o := { dst := some 28, op := Op.load 31 (Operand.tmp 8), type := 31, pos := "l15_blocks.go:161", after := #[], guard := none }) rfl (fun K hK => ?_) AllReadyH.nil)
    · have LD := Lib.hid (HBX.out _ HC.out)
      obtain ⟨a0, z0⟩ := LD.out 0 _ rfl; obtain ⟨a1, z1⟩ := LD.out 1 _ rfl; obtain ⟨a2, z2⟩ := LD.out 2 _ rfl; obtain ⟨a3, z3⟩ := LD.out 3 _ rfl; obtain ⟨a4, z4⟩ := LD.out 4 _ rfl; obtain ⟨a5, z5⟩ := LD.out 5 _ rfl; obtain ⟨a6, z6⟩ := LD.out 6 _ rfl; obtain ⟨a7, z7⟩ := LD.out 7 _ rfl
      go_simp
      clear LD a0 z0 a1 z1 a2 z2 a3 z3 a4 z4 a5 z5 a6 z6 a7 z7
      go_wp2_with fail
      refine hK.out _ _ trivial (fun hHeld => ?_)
      clear hK K
      try simp only [Act.put, List.setIfInBounds_toArray, List.set_cons_zero, List.set_cons_succ]
      refine wpAnyH_ready (rs := [1, 4]) (by kernel_rfl) (by simp) ?_
      refine AllReadyH.cons (o := { dst := some 25, op := Op.call { callee := Callee.value (Operand.func 33), args := #[Operand.tmp 24], argTypes := #[31] }, type := 72, pos := "l15_blocks.go:161", after := #[{ on := 0, ground := Ground.data }], guard := none }) rfl (fun K hK => ?_) (AllReadyH.cons (o := { dst := some 28, op := Op.load 31 (Operand.tmp 8), type := 31, pos := "l15_blocks.go:161", after := #[], guard := none }) rfl (fun K hK => ?_) AllReadyH.nil)
      · go_simp
        go_at_call 33; refine (SH.out _).mono ?_; rintro e wk1 ⟨rfl, hb1⟩; replace HC := Lib.hid (HC.out.trans (hb1.mono HC.out.size)); clear hb1
        go_wp2_with fail
        refine hK.out _ _ trivial (fun hHeld => ?_)
        clear hK K
        try simp only [Act.put, List.setIfInBounds_toArray, List.set_cons_zero, List.set_cons_succ]
        refine wpAnyH_ready (rs := [2, 4]) (by kernel_rfl) (by simp) ?_
        refine AllReadyH.cons (o := { dst := some 26, op := Op.call { callee := Callee.value (Operand.func 36), args := #[Operand.tmp 25], argTypes := #[72] }, type := 77, pos := "l15_blocks.go:161", after := #[{ on := 1, ground := Ground.data }, { on := 1, ground := Ground.chain }], guard := none }) rfl (fun K hK => ?_) (AllReadyH.cons (o := { dst := some 28, op := Op.load 31 (Operand.tmp 8), type := 31, pos := "l15_blocks.go:161", after := #[], guard := none }) rfl (fun K hK => ?_) AllReadyH.nil)
        · go_simp
          go_at_call 36; refine (OR.out _).mono ?_; rintro e wk2 ⟨bs, rfl, hbs, hb2⟩; replace HC := Lib.hid (HC.out.trans (hb2.mono HC.out.size)); clear hb2
          go_wp2_with fail
          refine hK.out _ _ trivial (fun hHeld => ?_)
          clear hK K
          try simp only [Act.put, List.setIfInBounds_toArray, List.set_cons_zero, List.set_cons_succ]
          refine wpAnyH_ready (rs := [3, 4]) (by kernel_rfl) (by simp) ?_
          refine AllReadyH.cons (o := { dst := some 27, op := Op.call { callee := Callee.value (Operand.func 35), args := #[Operand.tmp 26], argTypes := #[77] }, type := 29, pos := "l15_blocks.go:161", after := #[{ on := 2, ground := Ground.data }, { on := 2, ground := Ground.chain }], guard := none }) rfl (fun K hK => ?_) (AllReadyH.cons (o := { dst := some 28, op := Op.load 31 (Operand.tmp 8), type := 31, pos := "l15_blocks.go:161", after := #[], guard := none }) rfl (fun K hK => ?_) AllReadyH.nil)
          · go_simp
            go_at_call 35; refine (CO.out _ _ hbs).mono ?_; rintro e wk3 ⟨g, cap, rfl, hcp, hcx, hog, hb3⟩; have hz23 := HC.out.size; replace HC := Lib.hid (HC.out.trans (hb3.mono HC.out.size)); clear hb3 hbs
            go_wp2_with fail
            refine hK.out _ _ trivial (fun hHeld => ?_)
            clear hK K
            try simp only [Act.put, List.setIfInBounds_toArray, List.set_cons_zero, List.set_cons_succ]
            refine wpAnyH_ready (rs := [4]) (by kernel_rfl) (by simp) ?_
            refine AllReadyH.cons (o := { dst := some 28, op := Op.load 31 (Operand.tmp 8), type := 31, pos := "l15_blocks.go:161", after := #[], guard := none }) rfl (fun K hK => ?_) AllReadyH.nil
            have LD := Lib.hid (HBX.out _ HC.out)
            obtain ⟨a0, z0⟩ := LD.out 0 _ rfl; obtain ⟨a1, z1⟩ := LD.out 1 _ rfl; obtain ⟨a2, z2⟩ := LD.out 2 _ rfl; obtain ⟨a3, z3⟩ := LD.out 3 _ rfl; obtain ⟨a4, z4⟩ := LD.out 4 _ rfl; obtain ⟨a5, z5⟩ := LD.out 5 _ rfl; obtain ⟨a6, z6⟩ := LD.out 6 _ rfl; obtain ⟨a7, z7⟩ := LD.out 7 _ rfl
            go_simp
            clear LD a0 z0 a1 z1 a2 z2 a3 z3 a4 z4 a5 z5 a6 z6 a7 z7
            go_wp2_with fail
            refine hK.out _ _ trivial (fun hHeld => ?_)
            clear hK K
            try simp only [Act.put, List.setIfInBounds_toArray, List.set_cons_zero, List.set_cons_succ]
            refine wpAnyH_ready (rs := [5]) (by kernel_rfl) (by simp) ?_
            refine AllReadyH.cons (o := { dst := some 29, op := Op.call { callee := Callee.value (Operand.func 33), args := #[Operand.tmp 28], argTypes := #[31] }, type := 72, pos := "l15_blocks.go:161", after := #[{ on := 4, ground := Ground.data }, { on := 3, ground := Ground.chain }], guard := none }) rfl (fun K hK => ?_) AllReadyH.nil
            go_simp
            go_at_call 33; refine (SH.out _).mono ?_; rintro e wk4 ⟨rfl, hb4⟩; replace HC := Lib.hid (HC.out.trans (hb4.mono HC.out.size)); have hog4 := hog.below hb4 hog.lt; clear hb4 hog
            go_wp2_with fail
            refine hK.out _ _ trivial (fun hHeld => ?_)
            clear hK K
            try simp only [Act.put, List.setIfInBounds_toArray, List.set_cons_zero, List.set_cons_succ]
            refine wpAnyH_ready (rs := [6]) (by kernel_rfl) (by simp) ?_
            refine AllReadyH.cons (o := { dst := some 30, op := Op.call { callee := Callee.value (Operand.func 37), args := #[Operand.tmp 29], argTypes := #[72] }, type := 2, pos := "l15_blocks.go:161", after := #[{ on := 5, ground := Ground.data }, { on := 5, ground := Ground.chain }], guard := none }) rfl (fun K hK => ?_) AllReadyH.nil
            go_simp
            go_at_call 37; refine (BK.out _).mono ?_; rintro e wk5 ⟨rfl, hb5⟩; replace HC := Lib.hid (HC.out.trans (hb5.mono HC.out.size)); have hog5 := hog4.below hb5 hog4.lt; have hcq := HCM.out _ hcp; have hmc : m ≤ cap := Nat.le_trans hmN hcq; clear hb5 hog4
            go_wp2_with fail
            refine hK.out _ _ trivial (fun hHeld => ?_)
            clear hK K
            try simp only [Act.put, List.setIfInBounds_toArray, List.set_cons_zero, List.set_cons_succ]
            refine wpAnyH_take (i := 7) (oi := { dst := some 31, op := Op.slice 29 (Operand.tmp 27) none (some (Operand.tmp 30)) none, type := 29, pos := "l15_blocks.go:161", after := #[{ on := 3, ground := Ground.data }, { on := 6, ground := Ground.data }], guard := none }) (v := ?_) rfl (by kernel_rfl) (by kernel_rfl) (by kernel_rfl) (fun _ _ _ h => h) (Or.inl ⟨by rfl, ?hy⟩) hHeld ?_
            case hy => (intro w' hSw; (try dsimp only at hSw); go_simp; try with_reducible rfl)
            simp only [Act.put, List.setIfInBounds_toArray, List.set_cons_zero, List.set_cons_succ]
            refine wpAnyH_take (i := 8) (oi := { dst := some 32, op := Op.fieldAddr 31 (Operand.tmp 8) 3, type := 0, pos := "l15_blocks.go:161", after := #[{ on := 0, ground := Ground.phase }, { on := 1, ground := Ground.phase }, { on := 2, ground := Ground.phase }, { on := 3, ground := Ground.phase }, { on := 4, ground := Ground.phase }, { on := 5, ground := Ground.phase }, { on := 6, ground := Ground.phase }, { on := 7, ground := Ground.phase }], guard := none }) (v := ?_) rfl (by kernel_rfl) (by kernel_rfl) (by kernel_rfl) (fun _ _ _ h => h) (Or.inl ⟨by rfl, ?hy⟩) hHeld ?_
            case hy => (intro w' hSw; (try dsimp only at hSw); go_simp; try with_reducible rfl)
            simp only [Act.put, List.setIfInBounds_toArray, List.set_cons_zero, List.set_cons_succ]
            refine wpAnyH_ready (rs := [9]) (by kernel_rfl) (by simp) ?_
            refine AllReadyH.cons (o := { dst := none, op := Op.store 29 (Operand.tmp 32) (Operand.tmp 31), type := 0, pos := "l15_blocks.go:161", after := #[{ on := 8, ground := Ground.data }, { on := 7, ground := Ground.data }, { on := 6, ground := Ground.chain }, { on := 0, ground := Ground.phase }, { on := 1, ground := Ground.phase }, { on := 2, ground := Ground.phase }, { on := 3, ground := Ground.phase }, { on := 4, ground := Ground.phase }, { on := 5, ground := Ground.phase }, { on := 6, ground := Ground.phase }, { on := 7, ground := Ground.phase }], guard := none }) rfl (fun K hK => ?_) AllReadyH.nil
            have LD := Lib.hid (HBX.out _ HC.out)
            obtain ⟨a0, z0⟩ := LD.out 0 _ rfl; obtain ⟨a1, z1⟩ := LD.out 1 _ rfl; obtain ⟨a2, z2⟩ := LD.out 2 _ rfl; obtain ⟨a3, z3⟩ := LD.out 3 _ rfl; obtain ⟨a4, z4⟩ := LD.out 4 _ rfl; obtain ⟨a5, z5⟩ := LD.out 5 _ rfl; obtain ⟨a6, z6⟩ := LD.out 6 _ rfl; obtain ⟨a7, z7⟩ := LD.out 7 _ rfl
            go_simp
            refine hK.out _ _ trivial (fun hHeld => ?_)
            clear hK K
            try simp only [Act.put, List.setIfInBounds_toArray, List.set_cons_zero, List.set_cons_succ]
            refine wpAnyH_done (by kernel_rfl) ?_ _
            replace FB := Lib.hid (FB.out.trans (HC.out.mono FB.out.size))
            have hzk := HC.out.size
            replace R := Lib.hid (R.out.below HC.out (by omega))
            have hA2 : BoxF (wk5.setCell ⟨w.heap.size + 1 + 1, 7, none⟩ (.slice (some ⟨g, 0, none⟩) m cap)) (w.heap.size + 2) #[.int .i64 f0, .int .i64 f1, .int .i64 (C : Int), .int .i64 f3, .slice a es.length c, .int .i64 (S : Int), .int .i64 (P : Int), .slice (some ⟨g, 0, none⟩) m cap] := LD.out.putAt 7 (.slice (some ⟨g, 0, none⟩) m cap) (by simp)
            have hgg : wk2.heap.size ≤ g := hog5.choose_spec.1
            have hglt := hog5.lt
            have hog6 : OwnBlkI (wk5.setCell ⟨w.heap.size + 1 + 1, 7, none⟩ (.slice (some ⟨g, 0, none⟩) m cap)) wk2.heap.size g (ordL C S es.length) := hog5.keep (Below.heap_setCell _ _ _ _ (by simp; omega))
            rw [HL2.out] at hog6
            have hog7 := (OwnBlkI.prefix hog6).sli.sl
            replace FB := Lib.hid (FB.out.setCell (p := ⟨w.heap.size + 1 + 1, 7, none⟩) (show w.heap.size ≤ w.heap.size + 1 + 1 by omega) (.slice (some ⟨g, 0, none⟩) m cap))
            have hR2 : BoxF (wk5.setCell ⟨w.heap.size + 1 + 1, 7, none⟩ (.slice (some ⟨g, 0, none⟩) m cap)) (w.heap.size + 1) #[.int .i64 0, .int .i64 0, .int .i64 0, .int .i64 0, .slice none 0 0, .int .i64 0, .int .i64 0, .slice none 0 0] := R.out.keep (Below.heap_setCell _ _ _ _ (by simp))
            have hzs : (wk5.setCell ⟨w.heap.size + 1 + 1, 7, none⟩ (.slice (some ⟨g, 0, none⟩) m cap)).heap.size = wk5.heap.size := by simp [World.setCell]
            have HZS := Lib.hid hzs
            replace R := Lib.hid hR2
            replace A := Lib.hid hA2
            have HOG := Lib.hid hog7
            clear LD a0 z0 a1 z1 a2 z2 a3 z3 a4 z4 a5 z5 a6 z6 a7 z7 hA2 hR2 hog5 hog6 hog7 hHeld HC HBX hzs HL2
            generalize wk5.setCell ⟨w.heap.size + 1 + 1, 7, none⟩ (.slice (some ⟨g, 0, none⟩) m cap) = W2 at *
            have hz2 : w.heap.size + 2 < W2.heap.size := by have := HZS.out; omega
            obtain ⟨a0, z0⟩ := A.out 0 _ rfl; obtain ⟨a1, z1⟩ := A.out 1 _ rfl; obtain ⟨a2, z2⟩ := A.out 2 _ rfl; obtain ⟨a3, z3⟩ := A.out 3 _ rfl; obtain ⟨a4, z4⟩ := A.out 4 _ rfl; obtain ⟨a5, z5⟩ := A.out 5 _ rfl; obtain ⟨a6, z6⟩ := A.out 6 _ rfl; obtain ⟨a7, z7⟩ := A.out 7 _ rfl
            go_wp2_with fail
            refine (CL.out _ g cap FB.out HOG.out).mono ?_
            rintro e wk6 ⟨g0, g1, d0, d1, rfl, ho0, ho1, hb6⟩
            clear a0 z0 a1 z1 a2 z2 a3 z3 a4 z4 a5 z5 a6 z6 a7 z7
            have hg0 : W2.heap.size ≤ g0 := ho0.choose_spec.1
            have hg1 : W2.heap.size ≤ g1 := ho1.choose_spec.1
            replace R := Lib.hid (R.out.below hb6 (by omega))
            replace FB := Lib.hid (FB.out.trans (hb6.mono FB.out.size))
            have HO0 := Lib.hid ho0
            have HO1 := Lib.hid ho1
            clear ho0 ho1 hb6 HOG A HZS
            obtain ⟨r0, y0⟩ := R.out 0 _ rfl; obtain ⟨r1, y1⟩ := R.out 1 _ rfl; obtain ⟨r2, y2⟩ := R.out 2 _ rfl; obtain ⟨r3, y3⟩ := R.out 3 _ rfl; obtain ⟨r4, y4⟩ := R.out 4 _ rfl; obtain ⟨r5, y5⟩ := R.out 5 _ rfl; obtain ⟨r6, y6⟩ := R.out 6 _ rfl; obtain ⟨r7, y7⟩ := R.out 7 _ rfl
            go_wp2
            refine bodyPost_ret (v := .tuple #[.agg #[.int .i64 f0, .int .i64 f1, .int .i64 (C : Int), .int .i64 f3, .slice (some ⟨g0, 0, none⟩) es.length d0, .int .i64 (S : Int), .int .i64 (P : Int), .slice (some ⟨g1, 0, none⟩) (ordL C S m).length d1], .int .i64 0]) (by simp [results, Try.results8, go_sem, r0, y0, r1, y1, r2, y2, r3, y3, r4, y4, r5, y5, r6, y6, r7, y7]) rfl ⟨some ⟨g0, 0, none⟩, some ⟨g1, 0, none⟩, d0, d1, rfl, ⟨?_, ?_⟩, ((((((((FB.out).setCell (by simp <;> omega) _).setCell (by simp <;> omega) _).setCell (by simp <;> omega) _).setCell (by simp <;> omega) _).setCell (by simp <;> omega) _).setCell (by simp <;> omega) _).setCell (by simp <;> omega) _).setCell (by simp <;> omega) _⟩
            · refine SlSI.mono (OwnBlk.sli (g := g0) (B := W2.heap.size) (HO0.out.keep ?_)) (by have := FB.out.size; omega) (Nat.le_refl _)
              simp only [World.setCell, Array.getElem?_modify]
              rw [if_neg (by omega), if_neg (by omega), if_neg (by omega), if_neg (by omega), if_neg (by omega), if_neg (by omega), if_neg (by omega), if_neg (by omega)]
            · refine SlI.mono (OwnBlkI.sli (g := g1) (B := W2.heap.size) (HO1.out.keep ?_)) (by have := FB.out.size; omega) (Nat.le_refl _)
              simp only [World.setCell, Array.getElem?_modify]
              rw [if_neg (by omega), if_neg (by omega), if_neg (by omega), if_neg (by omega), if_neg (by omega), if_neg (by omega), if_neg (by omega), if_neg (by omega)]
          · have LD := Lib.hid (HBX.out _ HC.out)
            obtain ⟨a0, z0⟩ := LD.out 0 _ rfl; obtain ⟨a1, z1⟩ := LD.out 1 _ rfl; obtain ⟨a2, z2⟩ := LD.out 2 _ rfl; obtain ⟨a3, z3⟩ := LD.out 3 _ rfl; obtain ⟨a4, z4⟩ := LD.out 4 _ rfl; obtain ⟨a5, z5⟩ := LD.out 5 _ rfl; obtain ⟨a6, z6⟩ := LD.out 6 _ rfl; obtain ⟨a7, z7⟩ := LD.out 7 _ rfl
            go_simp
            clear LD a0 z0 a1 z1 a2 z2 a3 z3 a4 z4 a5 z5 a6 z6 a7 z7
            go_wp2_with fail
            refine hK.out _ _ trivial (fun hHeld => ?_)
            clear hK K
            try simp only [Act.put, List.setIfInBounds_toArray, List.set_cons_zero, List.set_cons_succ]
            refine wpAnyH_ready (rs := [3]) (by kernel_rfl) (by simp) ?_
            refine AllReadyH.cons (o := { dst := some 27, op := Op.call { callee := Callee.value (Operand.func 35), args := #[Operand.tmp 26], argTypes := #[77] }, type := 29, pos := "l15_blocks.go:161", after := #[{ on := 2, ground := Ground.data }, { on := 2, ground := Ground.chain }], guard := none }) rfl (fun K hK => ?_) AllReadyH.nil
            go_simp
            go_at_call 35; refine (CO.out _ _ hbs).mono ?_; rintro e wk3 ⟨g, cap, rfl, hcp, hcx, hog, hb3⟩; have hz23 := HC.out.size; replace HC := Lib.hid (HC.out.trans (hb3.mono HC.out.size)); clear hb3 hbs
            go_wp2_with fail
            refine hK.out _ _ trivial (fun hHeld => ?_)
            clear hK K
            try simp only [Act.put, List.setIfInBounds_toArray, List.set_cons_zero, List.set_cons_succ]
            refine wpAnyH_ready (rs := [5]) (by kernel_rfl) (by simp) ?_
            refine AllReadyH.cons (o := { dst := some 29, op := Op.call { callee := Callee.value (Operand.func 33), args := #[Operand.tmp 28], argTypes := #[31] }, type := 72, pos := "l15_blocks.go:161", after := #[{ on := 4, ground := Ground.data }, { on := 3, ground := Ground.chain }], guard := none }) rfl (fun K hK => ?_) AllReadyH.nil
            go_simp
            go_at_call 33; refine (SH.out _).mono ?_; rintro e wk4 ⟨rfl, hb4⟩; replace HC := Lib.hid (HC.out.trans (hb4.mono HC.out.size)); have hog4 := hog.below hb4 hog.lt; clear hb4 hog
            go_wp2_with fail
            refine hK.out _ _ trivial (fun hHeld => ?_)
            clear hK K
            try simp only [Act.put, List.setIfInBounds_toArray, List.set_cons_zero, List.set_cons_succ]
            refine wpAnyH_ready (rs := [6]) (by kernel_rfl) (by simp) ?_
            refine AllReadyH.cons (o := { dst := some 30, op := Op.call { callee := Callee.value (Operand.func 37), args := #[Operand.tmp 29], argTypes := #[72] }, type := 2, pos := "l15_blocks.go:161", after := #[{ on := 5, ground := Ground.data }, { on := 5, ground := Ground.chain }], guard := none }) rfl (fun K hK => ?_) AllReadyH.nil
            go_simp
            go_at_call 37; refine (BK.out _).mono ?_; rintro e wk5 ⟨rfl, hb5⟩; replace HC := Lib.hid (HC.out.trans (hb5.mono HC.out.size)); have hog5 := hog4.below hb5 hog4.lt; have hcq := HCM.out _ hcp; have hmc : m ≤ cap := Nat.le_trans hmN hcq; clear hb5 hog4
            go_wp2_with fail
            refine hK.out _ _ trivial (fun hHeld => ?_)
            clear hK K
            try simp only [Act.put, List.setIfInBounds_toArray, List.set_cons_zero, List.set_cons_succ]
            refine wpAnyH_take (i := 7) (oi := { dst := some 31, op := Op.slice 29 (Operand.tmp 27) none (some (Operand.tmp 30)) none, type := 29, pos := "l15_blocks.go:161", after := #[{ on := 3, ground := Ground.data }, { on := 6, ground := Ground.data }], guard := none }) (v := ?_) rfl (by kernel_rfl) (by kernel_rfl) (by kernel_rfl) (fun _ _ _ h => h) (Or.inl ⟨by rfl, ?hy⟩) hHeld ?_
            case hy => (intro w' hSw; (try dsimp only at hSw); go_simp; try with_reducible rfl)
            simp only [Act.put, List.setIfInBounds_toArray, List.set_cons_zero, List.set_cons_succ]
            refine wpAnyH_take (i := 8) (oi := { dst := some 32, op := Op.fieldAddr 31 (Operand.tmp 8) 3, type := 0, pos := "l15_blocks.go:161", after := #[{ on := 0, ground := Ground.phase }, { on := 1, ground := Ground.phase }, { on := 2, ground := Ground.phase }, { on := 3, ground := Ground.phase }, { on := 4, ground := Ground.phase }, { on := 5, ground := Ground.phase }, { on := 6, ground := Ground.phase }, { on := 7, ground := Ground.phase }], guard := none }) (v := ?_) rfl (by kernel_rfl) (by kernel_rfl) (by kernel_rfl) (fun _ _ _ h => h) (Or.inl ⟨by rfl, ?hy⟩) hHeld ?_
            case hy => (intro w' hSw; (try dsimp only at hSw); go_simp; try with_reducible rfl)
            simp only [Act.put, List.setIfInBounds_toArray, List.set_cons_zero, List.set_cons_succ]
            refine wpAnyH_ready (rs := [9]) (by kernel_rfl) (by simp) ?_
            refine AllReadyH.cons (o := { dst := none, op := Op.store 29 (Operand.tmp 32) (Operand.tmp 31), type := 0, pos := "l15_blocks.go:161", after := #[{ on := 8, ground := Ground.data }, { on := 7, ground := Ground.data }, { on := 6, ground := Ground.chain }, { on := 0, ground := Ground.phase }, { on := 1, ground := Ground.phase }, { on := 2, ground := Ground.phase }, { on := 3, ground := Ground.phase }, { on := 4, ground := Ground.phase }, { on := 5, ground := Ground.phase }, { on := 6, ground := Ground.phase }, { on := 7, ground := Ground.phase }], guard := none }) rfl (fun K hK => ?_) AllReadyH.nil
            have LD := Lib.hid (HBX.out _ HC.out)
            obtain ⟨a0, z0⟩ := LD.out 0 _ rfl; obtain ⟨a1, z1⟩ := LD.out 1 _ rfl; obtain ⟨a2, z2⟩ := LD.out 2 _ rfl; obtain ⟨a3, z3⟩ := LD.out 3 _ rfl; obtain ⟨a4, z4⟩ := LD.out 4 _ rfl; obtain ⟨a5, z5⟩ := LD.out 5 _ rfl; obtain ⟨a6, z6⟩ := LD.out 6 _ rfl; obtain ⟨a7, z7⟩ := LD.out 7 _ rfl
            go_simp
            refine hK.out _ _ trivial (fun hHeld => ?_)
            clear hK K
            try simp only [Act.put, List.setIfInBounds_toArray, List.set_cons_zero, List.set_cons_succ]
            refine wpAnyH_done (by kernel_rfl) ?_ _
            replace FB := Lib.hid (FB.out.trans (HC.out.mono FB.out.size))
            have hzk := HC.out.size
            replace R := Lib.hid (R.out.below HC.out (by omega))
            have hA2 : BoxF (wk5.setCell ⟨w.heap.size + 1 + 1, 7, none⟩ (.slice (some ⟨g, 0, none⟩) m cap)) (w.heap.size + 2) #[.int .i64 f0, .int .i64 f1, .int .i64 (C : Int), .int .i64 f3, .slice a es.length c, .int .i64 (S : Int), .int .i64 (P : Int), .slice (some ⟨g, 0, none⟩) m cap] := LD.out.putAt 7 (.slice (some ⟨g, 0, none⟩) m cap) (by simp)
            have hgg : wk2.heap.size ≤ g := hog5.choose_spec.1
            have hglt := hog5.lt
            have hog6 : OwnBlkI (wk5.setCell ⟨w.heap.size + 1 + 1, 7, none⟩ (.slice (some ⟨g, 0, none⟩) m cap)) wk2.heap.size g (ordL C S es.length) := hog5.keep (Below.heap_setCell _ _ _ _ (by simp; omega))
            rw [HL2.out] at hog6
            have hog7 := (OwnBlkI.prefix hog6).sli.sl
            replace FB := Lib.hid (FB.out.setCell (p := ⟨w.heap.size + 1 + 1, 7, none⟩) (show w.heap.size ≤ w.heap.size + 1 + 1 by omega) (.slice (some ⟨g, 0, none⟩) m cap))
            have hR2 : BoxF (wk5.setCell ⟨w.heap.size + 1 + 1, 7, none⟩ (.slice (some ⟨g, 0, none⟩) m cap)) (w.heap.size + 1) #[.int .i64 0, .int .i64 0, .int .i64 0, .int .i64 0, .slice none 0 0, .int .i64 0, .int .i64 0, .slice none 0 0] := R.out.keep (Below.heap_setCell _ _ _ _ (by simp))
            have hzs : (wk5.setCell ⟨w.heap.size + 1 + 1, 7, none⟩ (.slice (some ⟨g, 0, none⟩) m cap)).heap.size = wk5.heap.size := by simp [World.setCell]
            have HZS := Lib.hid hzs
            replace R := Lib.hid hR2
            replace A := Lib.hid hA2
            have HOG := Lib.hid hog7
            clear LD a0 z0 a1 z1 a2 z2 a3 z3 a4 z4 a5 z5 a6 z6 a7 z7 hA2 hR2 hog5 hog6 hog7 hHeld HC HBX hzs HL2
            generalize wk5.setCell ⟨w.heap.size + 1 + 1, 7, none⟩ (.slice (some ⟨g, 0, none⟩) m cap) = W2 at *
            have hz2 : w.heap.size + 2 < W2.heap.size := by have := HZS.out; omega
            obtain ⟨a0, z0⟩ := A.out 0 _ rfl; obtain ⟨a1, z1⟩ := A.out 1 _ rfl; obtain ⟨a2, z2⟩ := A.out 2 _ rfl; obtain ⟨a3, z3⟩ := A.out 3 _ rfl; obtain ⟨a4, z4⟩ := A.out 4 _ rfl; obtain ⟨a5, z5⟩ := A.out 5 _ rfl; obtain ⟨a6, z6⟩ := A.out 6 _ rfl; obtain ⟨a7, z7⟩ := A.out 7 _ rfl
            go_wp2_with fail
            refine (CL.out _ g cap FB.out HOG.out).mono ?_
            rintro e wk6 ⟨g0, g1, d0, d1, rfl, ho0, ho1, hb6⟩
            clear a0 z0 a1 z1 a2 z2 a3 z3 a4 z4 a5 z5 a6 z6 a7 z7
            have hg0 : W2.heap.size ≤ g0 := ho0.choose_spec.1
            have hg1 : W2.heap.size ≤ g1 := ho1.choose_spec.1
            replace R := Lib.hid (R.out.below hb6 (by omega))
            replace FB := Lib.hid (FB.out.trans (hb6.mono FB.out.size))
            have HO0 := Lib.hid ho0
            have HO1 := Lib.hid ho1
            clear ho0 ho1 hb6 HOG A HZS
            obtain ⟨r0, y0⟩ := R.out 0 _ rfl; obtain ⟨r1, y1⟩ := R.out 1 _ rfl; obtain ⟨r2, y2⟩ := R.out 2 _ rfl; obtain ⟨r3, y3⟩ := R.out 3 _ rfl; obtain ⟨r4, y4⟩ := R.out 4 _ rfl; obtain ⟨r5, y5⟩ := R.out 5 _ rfl; obtain ⟨r6, y6⟩ := R.out 6 _ rfl; obtain ⟨r7, y7⟩ := R.out 7 _ rfl
            go_wp2
            refine bodyPost_ret (v := .tuple #[.agg #[.int .i64 f0, .int .i64 f1, .int .i64 (C : Int), .int .i64 f3, .slice (some ⟨g0, 0, none⟩) es.length d0, .int .i64 (S : Int), .int .i64 (P : Int), .slice (some ⟨g1, 0, none⟩) (ordL C S m).length d1], .int .i64 0]) (by simp [results, Try.results8, go_sem, r0, y0, r1, y1, r2, y2, r3, y3, r4, y4, r5, y5, r6, y6, r7, y7]) rfl ⟨some ⟨g0, 0, none⟩, some ⟨g1, 0, none⟩, d0, d1, rfl, ⟨?_, ?_⟩, ((((((((FB.out).setCell (by simp <;> omega) _).setCell (by simp <;> omega) _).setCell (by simp <;> omega) _).setCell (by simp <;> omega) _).setCell (by simp <;> omega) _).setCell (by simp <;> omega) _).setCell (by simp <;> omega) _).setCell (by simp <;> omega) _⟩
            · refine SlSI.mono (OwnBlk.sli (g := g0) (B := W2.heap.size) (HO0.out.keep ?_)) (by have := FB.out.size; omega) (Nat.le_refl _)
              simp only [World.setCell, Array.getElem?_modify]
              rw [if_neg (by omega), if_neg (by omega), if_neg (by omega), if_neg (by omega), if_neg (by omega), if_neg (by omega), if_neg (by omega), if_neg (by omega)]
            · refine SlI.mono (OwnBlkI.sli (g := g1) (B := W2.heap.size) (HO1.out.keep ?_)) (by have := FB.out.size; omega) (Nat.le_refl _)
              simp only [World.setCell, Array.getElem?_modify]
              rw [if_neg (by omega), if_neg (by omega), if_neg (by omega), if_neg (by omega), if_neg (by omega), if_neg (by omega), if_neg (by omega), if_neg (by omega)]
        · have LD := Lib.hid (HBX.out _ HC.out)
          obtain ⟨a0, z0⟩ := LD.out 0 _ rfl; obtain ⟨a1, z1⟩ := LD.out 1 _ rfl; obtain ⟨a2, z2⟩ := LD.out 2 _ rfl; obtain ⟨a3, z3⟩ := LD.out 3 _ rfl; obtain ⟨a4, z4⟩ := LD.out 4 _ rfl; obtain ⟨a5, z5⟩ := LD.out 5 _ rfl; obtain ⟨a6, z6⟩ := LD.out 6 _ rfl; obtain ⟨a7, z7⟩ := LD.out 7 _ rfl
          go_simp
          clear LD a0 z0 a1 z1 a2 z2 a3 z3 a4 z4 a5 z5 a6 z6 a7 z7
          go_wp2_with fail
          refine hK.out _ _ trivial (fun hHeld => ?_)
          clear hK K
          try simp only [Act.put, List.setIfInBounds_toArray, List.set_cons_zero, List.set_cons_succ]
          refine wpAnyH_ready (rs := [2]) (by kernel_rfl) (by simp) ?_
          refine AllReadyH.cons (o := { dst := some 26, op := Op.call { callee := Callee.value (Operand.func 36), args := #[Operand.tmp 25], argTypes := #[72] }, type := 77, pos := "l15_blocks.go:161", after := #[{ on := 1, ground := Ground.data }, { on := 1, ground := Ground.chain }], guard := none }) rfl (fun K hK => ?_) AllReadyH.nil
          go_simp
          go_at_call 36; refine (OR.out _).mono ?_; rintro e wk2 ⟨bs, rfl, hbs, hb2⟩; replace HC := Lib.hid (HC.out.trans (hb2.mono HC.out.size)); clear hb2
          go_wp2_with fail
          refine hK.out _ _ trivial (fun hHeld => ?_)
          clear hK K
          try simp only [Act.put, List.setIfInBounds_toArray, List.set_cons_zero, List.set_cons_succ]
          refine wpAnyH_ready (rs := [3]) (by kernel_rfl) (by simp) ?_
          refine AllReadyH.cons (o := { dst := some 27, op := Op.call { callee := Callee.value (Operand.func 35), args := #[Operand.tmp 26], argTypes := #[77] }, type := 29, pos := "l15_blocks.go:161", after := #[{ on := 2, ground := Ground.data }, { on := 2, ground := Ground.chain }], guard := none }) rfl (fun K hK => ?_) AllReadyH.nil
          go_simp
          go_at_call 35; refine (CO.out _ _ hbs).mono ?_; rintro e wk3 ⟨g, cap, rfl, hcp, hcx, hog, hb3⟩; have hz23 := HC.out.size; replace HC := Lib.hid (HC.out.trans (hb3.mono HC.out.size)); clear hb3 hbs
          go_wp2_with fail
          refine hK.out _ _ trivial (fun hHeld => ?_)
          clear hK K
          try simp only [Act.put, List.setIfInBounds_toArray, List.set_cons_zero, List.set_cons_succ]
          refine wpAnyH_ready (rs := [5]) (by kernel_rfl) (by simp) ?_
          refine AllReadyH.cons (o := { dst := some 29, op := Op.call { callee := Callee.value (Operand.func 33), args := #[Operand.tmp 28], argTypes := #[31] }, type := 72, pos := "l15_blocks.go:161", after := #[{ on := 4, ground := Ground.data }, { on := 3, ground := Ground.chain }], guard := none }) rfl (fun K hK => ?_) AllReadyH.nil
          go_simp
          go_at_call 33; refine (SH.out _).mono ?_; rintro e wk4 ⟨rfl, hb4⟩; replace HC := Lib.hid (HC.out.trans (hb4.mono HC.out.size)); have hog4 := hog.below hb4 hog.lt; clear hb4 hog
          go_wp2_with fail
          refine hK.out _ _ trivial (fun hHeld => ?_)
          clear hK K
          try simp only [Act.put, List.setIfInBounds_toArray, List.set_cons_zero, List.set_cons_succ]
          refine wpAnyH_ready (rs := [6]) (by kernel_rfl) (by simp) ?_
          refine AllReadyH.cons (o := { dst := some 30, op := Op.call { callee := Callee.value (Operand.func 37), args := #[Operand.tmp 29], argTypes := #[72] }, type := 2, pos := "l15_blocks.go:161", after := #[{ on := 5, ground := Ground.data }, { on := 5, ground := Ground.chain }], guard := none }) rfl (fun K hK => ?_) AllReadyH.nil
          go_simp
          go_at_call 37; refine (BK.out _).mono ?_; rintro e wk5 ⟨rfl, hb5⟩; replace HC := Lib.hid (HC.out.trans (hb5.mono HC.out.size)); have hog5 := hog4.below hb5 hog4.lt; have hcq := HCM.out _ hcp; have hmc : m ≤ cap := Nat.le_trans hmN hcq; clear hb5 hog4
          go_wp2_with fail
          refine hK.out _ _ trivial (fun hHeld => ?_)
          clear hK K
          try simp only [Act.put, List.setIfInBounds_toArray, List.set_cons_zero, List.set_cons_succ]
          refine wpAnyH_take (i := 7) (oi := { dst := some 31, op := Op.slice 29 (Operand.tmp 27) none (some (Operand.tmp 30)) none, type := 29, pos := "l15_blocks.go:161", after := #[{ on := 3, ground := Ground.data }, { on := 6, ground := Ground.data }], guard := none }) (v := ?_) rfl (by kernel_rfl) (by kernel_rfl) (by kernel_rfl) (fun _ _ _ h => h) (Or.inl ⟨by rfl, ?hy⟩) hHeld ?_
          case hy => (intro w' hSw; (try dsimp only at hSw); go_simp; try with_reducible rfl)
          simp only [Act.put, List.setIfInBounds_toArray, List.set_cons_zero, List.set_cons_succ]
          refine wpAnyH_take (i := 8) (oi := { dst := some 32, op := Op.fieldAddr 31 (Operand.tmp 8) 3, type := 0, pos := "l15_blocks.go:161", after := #[{ on := 0, ground := Ground.phase }, { on := 1, ground := Ground.phase }, { on := 2, ground := Ground.phase }, { on := 3, ground := Ground.phase }, { on := 4, ground := Ground.phase }, { on := 5, ground := Ground.phase }, { on := 6, ground := Ground.phase }, { on := 7, ground := Ground.phase }], guard := none }) (v := ?_) rfl (by kernel_rfl) (by kernel_rfl) (by kernel_rfl) (fun _ _ _ h => h) (Or.inl ⟨by rfl, ?hy⟩) hHeld ?_
          case hy => (intro w' hSw; (try dsimp only at hSw); go_simp; try with_reducible rfl)
          simp only [Act.put, List.setIfInBounds_toArray, List.set_cons_zero, List.set_cons_succ]
          refine wpAnyH_ready (rs := [9]) (by kernel_rfl) (by simp) ?_
          refine AllReadyH.cons (o := { dst := none, op := Op.store 29 (Operand.tmp 32) (Operand.tmp 31), type := 0, pos := "l15_blocks.go:161", after := #[{ on := 8, ground := Ground.data }, { on := 7, ground := Ground.data }, { on := 6, ground := Ground.chain }, { on := 0, ground := Ground.phase }, { on := 1, ground := Ground.phase }, { on := 2, ground := Ground.phase }, { on := 3, ground := Ground.phase }, { on := 4, ground := Ground.phase }, { on := 5, ground := Ground.phase }, { on := 6, ground := Ground.phase }, { on := 7, ground := Ground.phase }], guard := none }) rfl (fun K hK => ?_) AllReadyH.nil
          have LD := Lib.hid (HBX.out _ HC.out)
          obtain ⟨a0, z0⟩ := LD.out 0 _ rfl; obtain ⟨a1, z1⟩ := LD.out 1 _ rfl; obtain ⟨a2, z2⟩ := LD.out 2 _ rfl; obtain ⟨a3, z3⟩ := LD.out 3 _ rfl; obtain ⟨a4, z4⟩ := LD.out 4 _ rfl; obtain ⟨a5, z5⟩ := LD.out 5 _ rfl; obtain ⟨a6, z6⟩ := LD.out 6 _ rfl; obtain ⟨a7, z7⟩ := LD.out 7 _ rfl
          go_simp
          refine hK.out _ _ trivial (fun hHeld => ?_)
          clear hK K
          try simp only [Act.put, List.setIfInBounds_toArray, List.set_cons_zero, List.set_cons_succ]
          refine wpAnyH_done (by kernel_rfl) ?_ _
          replace FB := Lib.hid (FB.out.trans (HC.out.mono FB.out.size))
          have hzk := HC.out.size
          replace R := Lib.hid (R.out.below HC.out (by omega))
          have hA2 : BoxF (wk5.setCell ⟨w.heap.size + 1 + 1, 7, none⟩ (.slice (some ⟨g, 0, none⟩) m cap)) (w.heap.size + 2) #[.int .i64 f0, .int .i64 f1, .int .i64 (C : Int), .int .i64 f3, .slice a es.length c, .int .i64 (S : Int), .int .i64 (P : Int), .slice (some ⟨g, 0, none⟩) m cap] := LD.out.putAt 7 (.slice (some ⟨g, 0, none⟩) m cap) (by simp)
          have hgg : wk2.heap.size ≤ g := hog5.choose_spec.1
          have hglt := hog5.lt
          have hog6 : OwnBlkI (wk5.setCell ⟨w.heap.size + 1 + 1, 7, none⟩ (.slice (some ⟨g, 0, none⟩) m cap)) wk2.heap.size g (ordL C S es.length) := hog5.keep (Below.heap_setCell _ _ _ _ (by simp; omega))
          rw [HL2.out] at hog6
          have hog7 := (OwnBlkI.prefix hog6).sli.sl
          replace FB := Lib.hid (FB.out.setCell (p := ⟨w.heap.size + 1 + 1, 7, none⟩) (show w.heap.size ≤ w.heap.size + 1 + 1 by omega) (.slice (some ⟨g, 0, none⟩) m cap))
          have hR2 : BoxF (wk5.setCell ⟨w.heap.size + 1 + 1, 7, none⟩ (.slice (some ⟨g, 0, none⟩) m cap)) (w.heap.size + 1) #[.int .i64 0, .int .i64 0, .int .i64 0, .int .i64 0, .slice none 0 0, .int .i64 0, .int .i64 0, .slice none 0 0] := R.out.keep (Below.heap_setCell _ _ _ _ (by simp))
          have hzs : (wk5.setCell ⟨w.heap.size + 1 + 1, 7, none⟩ (.slice (some ⟨g, 0, none⟩) m cap)).heap.size = wk5.heap.size := by simp [World.setCell]
          have HZS := Lib.hid hzs
          replace R := Lib.hid hR2
          replace A := Lib.hid hA2
          have HOG := Lib.hid hog7
          clear LD a0 z0 a1 z1 a2 z2 a3 z3 a4 z4 a5 z5 a6 z6 a7 z7 hA2 hR2 hog5 hog6 hog7 hHeld HC HBX hzs HL2
          generalize wk5.setCell ⟨w.heap.size + 1 + 1, 7, none⟩ (.slice (some ⟨g, 0, none⟩) m cap) = W2 at *
          have hz2 : w.heap.size + 2 < W2.heap.size := by have := HZS.out; omega
          obtain ⟨a0, z0⟩ := A.out 0 _ rfl; obtain ⟨a1, z1⟩ := A.out 1 _ rfl; obtain ⟨a2, z2⟩ := A.out 2 _ rfl; obtain ⟨a3, z3⟩ := A.out 3 _ rfl; obtain ⟨a4, z4⟩ := A.out 4 _ rfl; obtain ⟨a5, z5⟩ := A.out 5 _ rfl; obtain ⟨a6, z6⟩ := A.out 6 _ rfl; obtain ⟨a7, z7⟩ := A.out 7 _ rfl
          go_wp2_with fail
          refine (CL.out _ g cap FB.out HOG.out).mono ?_
          rintro e wk6 ⟨g0, g1, d0, d1, rfl, ho0, ho1, hb6⟩
          clear a0 z0 a1 z1 a2 z2 a3 z3 a4 z4 a5 z5 a6 z6 a7 z7
          have hg0 : W2.heap.size ≤ g0 := ho0.choose_spec.1
          have hg1 : W2.heap.size ≤ g1 := ho1.choose_spec.1
          replace R := Lib.hid (R.out.below hb6 (by omega))
          replace FB := Lib.hid (FB.out.trans (hb6.mono FB.out.size))
          have HO0 := Lib.hid ho0
          have HO1 := Lib.hid ho1
          clear ho0 ho1 hb6 HOG A HZS
          obtain ⟨r0, y0⟩ := R.out 0 _ rfl; obtain ⟨r1, y1⟩ := R.out 1 _ rfl; obtain ⟨r2, y2⟩ := R.out 2 _ rfl; obtain ⟨r3, y3⟩ := R.out 3 _ rfl; obtain ⟨r4, y4⟩ := R.out 4 _ rfl; obtain ⟨r5, y5⟩ := R.out 5 _ rfl; obtain ⟨r6, y6⟩ := R.out 6 _ rfl; obtain ⟨r7, y7⟩ := R.out 7 _ rfl
          go_wp2
          refine bodyPost_ret (v := .tuple #[.agg #[.int .i64 f0, .int .i64 f1, .int .i64 (C : Int), .int .i64 f3, .slice (some ⟨g0, 0, none⟩) es.length d0, .int .i64 (S : Int), .int .i64 (P : Int), .slice (some ⟨g1, 0, none⟩) (ordL C S m).length d1], .int .i64 0]) (by simp [results, Try.results8, go_sem, r0, y0, r1, y1, r2, y2, r3, y3, r4, y4, r5, y5, r6, y6, r7, y7]) rfl ⟨some ⟨g0, 0, none⟩, some ⟨g1, 0, none⟩, d0, d1, rfl, ⟨?_, ?_⟩, ((((((((FB.out).setCell (by simp <;> omega) _).setCell (by simp <;> omega) _).setCell (by simp <;> omega) _).setCell (by simp <;> omega) _).setCell (by simp <;> omega) _).setCell (by simp <;> omega) _).setCell (by simp <;> omega) _).setCell (by simp <;> omega) _⟩
          · refine SlSI.mono (OwnBlk.sli (g := g0) (B := W2.heap.size) (HO0.out.keep ?_)) (by have := FB.out.size; omega) (Nat.le_refl _)
            simp only [World.setCell, Array.getElem?_modify]
            rw [if_neg (by omega), if_neg (by omega), if_neg (by omega), if_neg (by omega), if_neg (by omega), if_neg (by omega), if_neg (by omega), if_neg (by omega)]
          · refine SlI.mono (OwnBlkI.sli (g := g1) (B := W2.heap.size) (HO1.out.keep ?_)) (by have := FB.out.size; omega) (Nat.le_refl _)
            simp only [World.setCell, Array.getElem?_modify]
            rw [if_neg (by omega), if_neg (by omega), if_neg (by omega), if_neg (by omega), if_neg (by omega), if_neg (by omega), if_neg (by omega), if_neg (by omega)]
      · have LD := Lib.hid (HBX.out _ HC.out)
        obtain ⟨a0, z0⟩ := LD.out 0 _ rfl; obtain ⟨a1, z1⟩ := LD.out 1 _ rfl; obtain ⟨a2, z2⟩ := LD.out 2 _ rfl; obtain ⟨a3, z3⟩ := LD.out 3 _ rfl; obtain ⟨a4, z4⟩ := LD.out 4 _ rfl; obtain ⟨a5, z5⟩ := LD.out 5 _ rfl; obtain ⟨a6, z6⟩ := LD.out 6 _ rfl; obtain ⟨a7, z7⟩ := LD.out 7 _ rfl
        go_simp
        clear LD a0 z0 a1 z1 a2 z2 a3 z3 a4 z4 a5 z5 a6 z6 a7 z7
        go_wp2_with fail
        refine hK.out _ _ trivial (fun hHeld => ?_)
        clear hK K
        try simp only [Act.put, List.setIfInBounds_toArray, List.set_cons_zero, List.set_cons_succ]
        refine wpAnyH_ready (rs := [1]) (by kernel_rfl) (by simp) ?_
        refine AllReadyH.cons (o := { dst := some 25, op := Op.call { callee := Callee.value (Operand.func 33), args := #[Operand.tmp 24], argTypes := #[31] }, type := 72, pos := "l15_blocks.go:161", after := #[{ on := 0, ground := Ground.data }], guard := none }) rfl (fun K hK => ?_) AllReadyH.nil
        go_simp
        go_at_call 33; refine (SH.out _).mono ?_; rintro e wk1 ⟨rfl, hb1⟩; replace HC := Lib.hid (HC.out.trans (hb1.mono HC.out.size)); clear hb1
        go_wp2_with fail
        refine hK.out _ _ trivial (fun hHeld => ?_)
        clear hK K
        try simp only [Act.put, List.setIfInBounds_toArray, List.set_cons_zero, List.set_cons_succ]
        refine wpAnyH_ready (rs := [2]) (by kernel_rfl) (by simp) ?_
        refine AllReadyH.cons (o := { dst := some 26, op := Op.call { callee := Callee.value (Operand.func 36), args := #[Operand.tmp 25], argTypes := #[72] }, type := 77, pos := "l15_blocks.go:161", after := #[{ on := 1, ground := Ground.data }, { on := 1, ground := Ground.chain }], guard := none }) rfl (fun K hK => ?_) AllReadyH.nil
        go_simp
        go_at_call 36; refine (OR.out _).mono ?_; rintro e wk2 ⟨bs, rfl, hbs, hb2⟩; replace HC := Lib.hid (HC.out.trans (hb2.mono HC.out.size)); clear hb2
        go_wp2_with fail
        refine hK.out _ _ trivial (fun hHeld => ?_)
        clear hK K
        try simp only [Act.put, List.setIfInBounds_toArray, List.set_cons_zero, List.set_cons_succ]
        refine wpAnyH_ready (rs := [3]) (by kernel_rfl) (by simp) ?_
        refine AllReadyH.cons (o := { dst := some 27, op := Op.call { callee := Callee.value (Operand.func 35), args := #[Operand.tmp 26], argTypes := #[77] }, type := 29, pos := "l15_blocks.go:161", after := #[{ on := 2, ground := Ground.data }, { on := 2, ground := Ground.chain }], guard := none }) rfl (fun K hK => ?_) AllReadyH.nil
        go_simp
        go_at_call 35; refine (CO.out _ _ hbs).mono ?_; rintro e wk3 ⟨g, cap, rfl, hcp, hcx, hog, hb3⟩; have hz23 := HC.out.size; replace HC := Lib.hid (HC.out.trans (hb3.mono HC.out.size)); clear hb3 hbs
        go_wp2_with fail
        refine hK.out _ _ trivial (fun hHeld => ?_)
        clear hK K
        try simp only [Act.put, List.setIfInBounds_toArray, List.set_cons_zero, List.set_cons_succ]
        refine wpAnyH_ready (rs := [5]) (by kernel_rfl) (by simp) ?_
        refine AllReadyH.cons (o := { dst := some 29, op := Op.call { callee := Callee.value (Operand.func 33), args := #[Operand.tmp 28], argTypes := #[31] }, type := 72, pos := "l15_blocks.go:161", after := #[{ on := 4, ground := Ground.data }, { on := 3, ground := Ground.chain }], guard := none }) rfl (fun K hK => ?_) AllReadyH.nil
        go_simp
        go_at_call 33; refine (SH.out _).mono ?_; rintro e wk4 ⟨rfl, hb4⟩; replace HC := Lib.hid (HC.out.trans (hb4.mono HC.out.size)); have hog4 := hog.below hb4 hog.lt; clear hb4 hog
        go_wp2_with fail
        refine hK.out _ _ trivial (fun hHeld => ?_)
        clear hK K
        try simp only [Act.put, List.setIfInBounds_toArray, List.set_cons_zero, List.set_cons_succ]
        refine wpAnyH_ready (rs := [6]) (by kernel_rfl) (by simp) ?_
        refine AllReadyH.cons (o := { dst := some 30, op := Op.call { callee := Callee.value (Operand.func 37), args := #[Operand.tmp 29], argTypes := #[72] }, type := 2, pos := "l15_blocks.go:161", after := #[{ on := 5, ground := Ground.data }, { on := 5, ground := Ground.chain }], guard := none }) rfl (fun K hK => ?_) AllReadyH.nil
        go_simp
        go_at_call 37; refine (BK.out _).mono ?_; rintro e wk5 ⟨rfl, hb5⟩; replace HC := Lib.hid (HC.out.trans (hb5.mono HC.out.size)); have hog5 := hog4.below hb5 hog4.lt; have hcq := HCM.out _ hcp; have hmc : m ≤ cap := Nat.le_trans hmN hcq; clear hb5 hog4
        go_wp2_with fail
        refine hK.out _ _ trivial (fun hHeld => ?_)
        clear hK K
        try simp only [Act.put, List.setIfInBounds_toArray, List.set_cons_zero, List.set_cons_succ]
        refine wpAnyH_take (i := 7) (oi := { dst := some 31, op := Op.slice 29 (Operand.tmp 27) none (some (Operand.tmp 30)) none, type := 29, pos := "l15_blocks.go:161", after := #[{ on := 3, ground := Ground.data }, { on := 6, ground := Ground.data }], guard := none }) (v := ?_) rfl (by kernel_rfl) (by kernel_rfl) (by kernel_rfl) (fun _ _ _ h => h) (Or.inl ⟨by rfl, ?hy⟩) hHeld ?_
        case hy => (intro w' hSw; (try dsimp only at hSw); go_simp; try with_reducible rfl)
        simp only [Act.put, List.setIfInBounds_toArray, List.set_cons_zero, List.set_cons_succ]
        refine wpAnyH_take (i := 8) (oi := { dst := some 32, op := Op.fieldAddr 31 (Operand.tmp 8) 3, type := 0, pos := "l15_blocks.go:161", after := #[{ on := 0, ground := Ground.phase }, { on := 1, ground := Ground.phase }, { on := 2, ground := Ground.phase }, { on := 3, ground := Ground.phase }, { on := 4, ground := Ground.phase }, { on := 5, ground := Ground.phase }, { on := 6, ground := Ground.phase }, { on := 7, ground := Ground.phase }], guard := none }) (v := ?_) rfl (by kernel_rfl) (by kernel_rfl) (by kernel_rfl) (fun _ _ _ h => h) (Or.inl ⟨by rfl, ?hy⟩) hHeld ?_
        case hy => (intro w' hSw; (try dsimp only at hSw); go_simp; try with_reducible rfl)
        simp only [Act.put, List.setIfInBounds_toArray, List.set_cons_zero, List.set_cons_succ]
        refine wpAnyH_ready (rs := [9]) (by kernel_rfl) (by simp) ?_
        refine AllReadyH.cons (o := { dst := none, op := Op.store 29 (Operand.tmp 32) (Operand.tmp 31), type := 0, pos := "l15_blocks.go:161", after := #[{ on := 8, ground := Ground.data }, { on := 7, ground := Ground.data }, { on := 6, ground := Ground.chain }, { on := 0, ground := Ground.phase }, { on := 1, ground := Ground.phase }, { on := 2, ground := Ground.phase }, { on := 3, ground := Ground.phase }, { on := 4, ground := Ground.phase }, { on := 5, ground := Ground.phase }, { on := 6, ground := Ground.phase }, { on := 7, ground := Ground.phase }], guard := none }) rfl (fun K hK => ?_) AllReadyH.nil
        have LD := Lib.hid (HBX.out _ HC.out)
        obtain ⟨a0, z0⟩ := LD.out 0 _ rfl; obtain ⟨a1, z1⟩ := LD.out 1 _ rfl; obtain ⟨a2, z2⟩ := LD.out 2 _ rfl; obtain ⟨a3, z3⟩ := LD.out 3 _ rfl; obtain ⟨a4, z4⟩ := LD.out 4 _ rfl; obtain ⟨a5, z5⟩ := LD.out 5 _ rfl; obtain ⟨a6, z6⟩ := LD.out 6 _ rfl; obtain ⟨a7, z7⟩ := LD.out 7 _ rfl
        go_simp
        refine hK.out _ _ trivial (fun hHeld => ?_)
        clear hK K
        try simp only [Act.put, List.setIfInBounds_toArray, List.set_cons_zero, List.set_cons_succ]
        refine wpAnyH_done (by kernel_rfl) ?_ _
        replace FB := Lib.hid (FB.out.trans (HC.out.mono FB.out.size))
        have hzk := HC.out.size
        replace R := Lib.hid (R.out.below HC.out (by omega))
        have hA2 : BoxF (wk5.setCell ⟨w.heap.size + 1 + 1, 7, none⟩ (.slice (some ⟨g, 0, none⟩) m cap)) (w.heap.size + 2) #[.int .i64 f0, .int .i64 f1, .int .i64 (C : Int), .int .i64 f3, .slice a es.length c, .int .i64 (S : Int), .int .i64 (P : Int), .slice (some ⟨g, 0, none⟩) m cap] := LD.out.putAt 7 (.slice (some ⟨g, 0, none⟩) m cap) (by simp)
        have hgg : wk2.heap.size ≤ g := hog5.choose_spec.1
        have hglt := hog5.lt
        have hog6 : OwnBlkI (wk5.setCell ⟨w.heap.size + 1 + 1, 7, none⟩ (.slice (some ⟨g, 0, none⟩) m cap)) wk2.heap.size g (ordL C S es.length) := hog5.keep (Below.heap_setCell _ _ _ _ (by simp; omega))
        rw [HL2.out] at hog6
        have hog7 := (OwnBlkI.prefix hog6).sli.sl
        replace FB := Lib.hid (FB.out.setCell (p := ⟨w.heap.size + 1 + 1, 7, none⟩) (show w.heap.size ≤ w.heap.size + 1 + 1 by omega) (.slice (some ⟨g, 0, none⟩) m cap))
        have hR2 : BoxF (wk5.setCell ⟨w.heap.size + 1 + 1, 7, none⟩ (.slice (some ⟨g, 0, none⟩) m cap)) (w.heap.size + 1) #[.int .i64 0, .int .i64 0, .int .i64 0, .int .i64 0, .slice none 0 0, .int .i64 0, .int .i64 0, .slice none 0 0] := R.out.keep (Below.heap_setCell _ _ _ _ (by simp))
        have hzs : (wk5.setCell ⟨w.heap.size + 1 + 1, 7, none⟩ (.slice (some ⟨g, 0, none⟩) m cap)).heap.size = wk5.heap.size := by simp [World.setCell]
        have HZS := Lib.hid hzs
        replace R := Lib.hid hR2
        replace A := Lib.hid hA2
        have HOG := Lib.hid hog7
        clear LD a0 z0 a1 z1 a2 z2 a3 z3 a4 z4 a5 z5 a6 z6 a7 z7 hA2 hR2 hog5 hog6 hog7 hHeld HC HBX hzs HL2
        generalize wk5.setCell ⟨w.heap.size + 1 + 1, 7, none⟩ (.slice (some ⟨g, 0, none⟩) m cap) = W2 at *
        have hz2 : w.heap.size + 2 < W2.heap.size := by have := HZS.out; omega
        obtain ⟨a0, z0⟩ := A.out 0 _ rfl; obtain ⟨a1, z1⟩ := A.out 1 _ rfl; obtain ⟨a2, z2⟩ := A.out 2 _ rfl; obtain ⟨a3, z3⟩ := A.out 3 _ rfl; obtain ⟨a4, z4⟩ := A.out 4 _ rfl; obtain ⟨a5, z5⟩ := A.out 5 _ rfl; obtain ⟨a6, z6⟩ := A.out 6 _ rfl; obtain ⟨a7, z7⟩ := A.out 7 _ rfl
        go_wp2_with fail
        refine (CL.out _ g cap FB.out HOG.out).mono ?_
        rintro e wk6 ⟨g0, g1, d0, d1, rfl, ho0, ho1, hb6⟩
        clear a0 z0 a1 z1 a2 z2 a3 z3 a4 z4 a5 z5 a6 z6 a7 z7
        have hg0 : W2.heap.size ≤ g0 := ho0.choose_spec.1
        have hg1 : W2.heap.size ≤ g1 := ho1.choose_spec.1
        replace R := Lib.hid (R.out.below hb6 (by omega))
        replace FB := Lib.hid (FB.out.trans (hb6.mono FB.out.size))
        have HO0 := Lib.hid ho0
        have HO1 := Lib.hid ho1
        clear ho0 ho1 hb6 HOG A HZS
        obtain ⟨r0, y0⟩ := R.out 0 _ rfl; obtain ⟨r1, y1⟩ := R.out 1 _ rfl; obtain ⟨r2, y2⟩ := R.out 2 _ rfl; obtain ⟨r3, y3⟩ := R.out 3 _ rfl; obtain ⟨r4, y4⟩ := R.out 4 _ rfl; obtain ⟨r5, y5⟩ := R.out 5 _ rfl; obtain ⟨r6, y6⟩ := R.out 6 _ rfl; obtain ⟨r7, y7⟩ := R.out 7 _ rfl
        go_wp2
        refine bodyPost_ret (v := .tuple #[.agg #[.int .i64 f0, .int .i64 f1, .int .i64 (C : Int), .int .i64 f3, .slice (some ⟨g0, 0, none⟩) es.length d0, .int .i64 (S : Int), .int .i64 (P : Int), .slice (some ⟨g1, 0, none⟩) (ordL C S m).length d1], .int .i64 0]) (by simp [results, Try.results8, go_sem, r0, y0, r1, y1, r2, y2, r3, y3, r4, y4, r5, y5, r6, y6, r7, y7]) rfl ⟨some ⟨g0, 0, none⟩, some ⟨g1, 0, none⟩, d0, d1, rfl, ⟨?_, ?_⟩, ((((((((FB.out).setCell (by simp <;> omega) _).setCell (by simp <;> omega) _).setCell (by simp <;> omega) _).setCell (by simp <;> omega) _).setCell (by simp <;> omega) _).setCell (by simp <;> omega) _).setCell (by simp <;> omega) _).setCell (by simp <;> omega) _⟩
        · refine SlSI.mono (OwnBlk.sli (g := g0) (B := W2.heap.size) (HO0.out.keep ?_)) (by have := FB.out.size; omega) (Nat.le_refl _)
          simp only [World.setCell, Array.getElem?_modify]
          rw [if_neg (by omega), if_neg (by omega), if_neg (by omega), if_neg (by omega), if_neg (by omega), if_neg (by omega), if_neg (by omega), if_neg (by omega)]
        · refine SlI.mono (OwnBlkI.sli (g := g1) (B := W2.heap.size) (HO1.out.keep ?_)) (by have := FB.out.size; omega) (Nat.le_refl _)
          simp only [World.setCell, Array.getElem?_modify]
          rw [if_neg (by omega), if_neg (by omega), if_neg (by omega), if_neg (by omega), if_neg (by omega), if_neg (by omega), if_neg (by omega), if_neg (by omega)]
    · have LD := Lib.hid (HBX.out _ HC.out)
      obtain ⟨a0, z0⟩ := LD.out 0 _ rfl; obtain ⟨a1, z1⟩ := LD.out 1 _ rfl; obtain ⟨a2, z2⟩ := LD.out 2 _ rfl; obtain ⟨a3, z3⟩ := LD.out 3 _ rfl; obtain ⟨a4, z4⟩ := LD.out 4 _ rfl; obtain ⟨a5, z5⟩ := LD.out 5 _ rfl; obtain ⟨a6, z6⟩ := LD.out 6 _ rfl; obtain ⟨a7, z7⟩ := LD.out 7 _ rfl
      go_simp
      clear LD a0 z0 a1 z1 a2 z2 a3 z3 a4 z4 a5 z5 a6 z6 a7 z7
      go_wp2_with fail
      refine hK.out _ _ trivial (fun hHeld => ?_)
      clear hK K
      try simp only [Act.put, List.setIfInBounds_toArray, List.set_cons_zero, List.set_cons_succ]
      refine wpAnyH_ready (rs := [0]) (by kernel_rfl) (by simp) ?_
      refine AllReadyH.cons (o := { dst := some 24, op := Op.load 31 (Operand.tmp 8), type := 31, pos := "l15_blocks.go:161", after := #[], guard := none }) rfl (fun K hK => ?_) AllReadyH.nil
      have LD := Lib.hid (HBX.out _ HC.out)
      obtain ⟨a0, z0⟩ := LD.out 0 _ rfl; obtain ⟨a1, z1⟩ := LD.out 1 _ rfl; obtain ⟨a2, z2⟩ := LD.out 2 _ rfl; obtain ⟨a3, z3⟩ := LD.out 3 _ rfl; obtain ⟨a4, z4⟩ := LD.out 4 _ rfl; obtain ⟨a5, z5⟩ := LD.out 5 _ rfl; obtain ⟨a6, z6⟩ := LD.out 6 _ rfl; obtain ⟨a7, z7⟩ := LD.out 7 _ rfl
      go_simp
      clear LD a0 z0 a1 z1 a2 z2 a3 z3 a4 z4 a5 z5 a6 z6 a7 z7
      go_wp2_with fail
      refine hK.out _ _ trivial (fun hHeld => ?_)
      clear hK K
      try simp only [Act.put, List.setIfInBounds_toArray, List.set_cons_zero, List.set_cons_succ]
      refine wpAnyH_ready (rs := [1]) (by kernel_rfl) (by simp) ?_
      refine AllReadyH.cons (o := { dst := some 25, op := Op.call { callee := Callee.value (Operand.func 33), args := #[Operand.tmp 24], argTypes := #[31] }, type := 72, pos := "l15_blocks.go:161", after := #[{ on := 0, ground := Ground.data }], guard := none }) rfl (fun K hK => ?_) AllReadyH.nil
      go_simp
      go_at_call 33; refine (SH.out _).mono ?_; rintro e wk1 ⟨rfl, hb1⟩; replace HC := Lib.hid (HC.out.trans (hb1.mono HC.out.size)); clear hb1
      go_wp2_with fail
      refine hK.out _ _ trivial (fun hHeld => ?_)
      clear hK K
      try simp only [Act.put, List.setIfInBounds_toArray, List.set_cons_zero, List.set_cons_succ]
      refine wpAnyH_ready (rs := [2]) (by kernel_rfl) (by simp) ?_
      refine AllReadyH.cons (o := { dst := some 26, op := Op.call { callee := Callee.value (Operand.func 36), args := #[Operand.tmp 25], argTypes := #[72] }, type := 77, pos := "l15_blocks.go:161", after := #[{ on := 1, ground := Ground.data }, { on := 1, ground := Ground.chain }], guard := none }) rfl (fun K hK => ?_) AllReadyH.nil
      go_simp
      go_at_call 36; refine (OR.out _).mono ?_; rintro e wk2 ⟨bs, rfl, hbs, hb2⟩; replace HC := Lib.hid (HC.out.trans (hb2.mono HC.out.size)); clear hb2
      go_wp2_with fail
      refine hK.out _ _ trivial (fun hHeld => ?_)
      clear hK K
      try simp only [Act.put, List.setIfInBounds_toArray, List.set_cons_zero, List.set_cons_succ]
      refine wpAnyH_ready (rs := [3]) (by kernel_rfl) (by simp) ?_
      refine AllReadyH.cons (o := { dst := some 27, op := Op.call { callee := Callee.value (Operand.func 35), args := #[Operand.tmp 26], argTypes := #[77] }, type := 29, pos := "l15_blocks.go:161", after := #[{ on := 2, ground := Ground.data }, { on := 2, ground := Ground.chain }], guard := none }) rfl (fun K hK => ?_) AllReadyH.nil
      go_simp
      go_at_call 35; refine (CO.out _ _ hbs).mono ?_; rintro e wk3 ⟨g, cap, rfl, hcp, hcx, hog, hb3⟩; have hz23 := HC.out.size; replace HC := Lib.hid (HC.out.trans (hb3.mono HC.out.size)); clear hb3 hbs
      go_wp2_with fail
      refine hK.out _ _ trivial (fun hHeld => ?_)
      clear hK K
      try simp only [Act.put, List.setIfInBounds_toArray, List.set_cons_zero, List.set_cons_succ]
      refine wpAnyH_ready (rs := [5]) (by kernel_rfl) (by simp) ?_
      refine AllReadyH.cons (o := { dst := some 29, op := Op.call { callee := Callee.value (Operand.func 33), args := #[Operand.tmp 28], argTypes := #[31] }, type := 72, pos := "l15_blocks.go:161", after := #[{ on := 4, ground := Ground.data }, { on := 3, ground := Ground.chain }], guard := none }) rfl (fun K hK => ?_) AllReadyH.nil
      go_simp
      go_at_call 33; refine (SH.out _).mono ?_; rintro e wk4 ⟨rfl, hb4⟩; replace HC := Lib.hid (HC.out.trans (hb4.mono HC.out.size)); have hog4 := hog.below hb4 hog.lt; clear hb4 hog
      go_wp2_with fail
      refine hK.out _ _ trivial (fun hHeld => ?_)
      clear hK K
      try simp only [Act.put, List.setIfInBounds_toArray, List.set_cons_zero, List.set_cons_succ]
      refine wpAnyH_ready (rs := [6]) (by kernel_rfl) (by simp) ?_
      refine AllReadyH.cons (o := { dst := some 30, op := Op.call { callee := Callee.value (Operand.func 37), args := #[Operand.tmp 29], argTypes := #[72] }, type := 2, pos := "l15_blocks.go:161", after := #[{ on := 5, ground := Ground.data }, { on := 5, ground := Ground.chain }], guard := none }) rfl (fun K hK => ?_) AllReadyH.nil
      go_simp
      go_at_call 37; refine (BK.out _).mono ?_; rintro e wk5 ⟨rfl, hb5⟩; replace HC := Lib.hid (HC.out.trans (hb5.mono HC.out.size)); have hog5 := hog4.below hb5 hog4.lt; have hcq := HCM.out _ hcp; have hmc : m ≤ cap := Nat.le_trans hmN hcq; clear hb5 hog4
      go_wp2_with fail
      refine hK.out _ _ trivial (fun hHeld => ?_)
      clear hK K
      try simp only [Act.put, List.setIfInBounds_toArray, List.set_cons_zero, List.set_cons_succ]
      refine wpAnyH_take (i := 7) (oi := { dst := some 31, op := Op.slice 29 (Operand.tmp 27) none (some (Operand.tmp 30)) none, type := 29, pos := "l15_blocks.go:161", after := #[{ on := 3, ground := Ground.data }, { on := 6, ground := Ground.data }], guard := none }) (v := ?_) rfl (by kernel_rfl) (by kernel_rfl) (by kernel_rfl) (fun _ _ _ h => h) (Or.inl ⟨by rfl, ?hy⟩) hHeld ?_
      case hy => (intro w' hSw; (try dsimp only at hSw); go_simp; try with_reducible rfl)
      simp only [Act.put, List.setIfInBounds_toArray, List.set_cons_zero, List.set_cons_succ]
      refine wpAnyH_take (i := 8) (oi := { dst := some 32, op := Op.fieldAddr 31 (Operand.tmp 8) 3, type := 0, pos := "l15_blocks.go:161", after := #[{ on := 0, ground := Ground.phase }, { on := 1, ground := Ground.phase }, { on := 2, ground := Ground.phase }, { on := 3, ground := Ground.phase }, { on := 4, ground := Ground.phase }, { on := 5, ground := Ground.phase }, { on := 6, ground := Ground.phase }, { on := 7, ground := Ground.phase }], guard := none }) (v := ?_) rfl (by kernel_rfl) (by kernel_rfl) (by kernel_rfl) (fun _ _ _ h => h) (Or.inl ⟨by rfl, ?hy⟩) hHeld ?_
      case hy => (intro w' hSw; (try dsimp only at hSw); go_simp; try with_reducible rfl)
      simp only [Act.put, List.setIfInBounds_toArray, List.set_cons_zero, List.set_cons_succ]
      refine wpAnyH_ready (rs := [9]) (by kernel_rfl) (by simp) ?_
      refine AllReadyH.cons (o := { dst := none, op := Op.store 29 (Operand.tmp 32) (Operand.tmp 31), type := 0, pos := "l15_blocks.go:161", after := #[{ on := 8, ground := Ground.data }, { on := 7, ground := Ground.data }, { on := 6, ground := Ground.chain }, { on := 0, ground := Ground.phase }, { on := 1, ground := Ground.phase }, { on := 2, ground := Ground.phase }, { on := 3, ground := Ground.phase }, { on := 4, ground := Ground.phase }, { on := 5, ground := Ground.phase }, { on := 6, ground := Ground.phase }, { on := 7, ground := Ground.phase }], guard := none }) rfl (fun K hK => ?_) AllReadyH.nil
      have LD := Lib.hid (HBX.out _ HC.out)
      obtain ⟨a0, z0⟩ := LD.out 0 _ rfl; obtain ⟨a1, z1⟩ := LD.out 1 _ rfl; obtain ⟨a2, z2⟩ := LD.out 2 _ rfl; obtain ⟨a3, z3⟩ := LD.out 3 _ rfl; obtain ⟨a4, z4⟩ := LD.out 4 _ rfl; obtain ⟨a5, z5⟩ := LD.out 5 _ rfl; obtain ⟨a6, z6⟩ := LD.out 6 _ rfl; obtain ⟨a7, z7⟩ := LD.out 7 _ rfl
      go_simp
      refine hK.out _ _ trivial (fun hHeld => ?_)
      clear hK K
      try simp only [Act.put, List.setIfInBounds_toArray, List.set_cons_zero, List.set_cons_succ]
      refine wpAnyH_done (by kernel_rfl) ?_ _
      replace FB := Lib.hid (FB.out.trans (HC.out.mono FB.out.size))
      have hzk := HC.out.size
      replace R := Lib.hid (R.out.below HC.out (by omega))
      have hA2 : BoxF (wk5.setCell ⟨w.heap.size + 1 + 1, 7, none⟩ (.slice (some ⟨g, 0, none⟩) m cap)) (w.heap.size + 2) #[.int .i64 f0, .int .i64 f1, .int .i64 (C : Int), .int .i64 f3, .slice a es.length c, .int .i64 (S : Int), .int .i64 (P : Int), .slice (some ⟨g, 0, none⟩) m cap] := LD.out.putAt 7 (.slice (some ⟨g, 0, none⟩) m cap) (by simp)
      have hgg : wk2.heap.size ≤ g := hog5.choose_spec.1
      have hglt := hog5.lt
      have hog6 : OwnBlkI (wk5.setCell ⟨w.heap.size + 1 + 1, 7, none⟩ (.slice (some ⟨g, 0, none⟩) m cap)) wk2.heap.size g (ordL C S es.length) := hog5.keep (Below.heap_setCell _ _ _ _ (by simp; omega))
      rw [HL2.out] at hog6
      have hog7 := (OwnBlkI.prefix hog6).sli.sl
      replace FB := Lib.hid (FB.out.setCell (p := ⟨w.heap.size + 1 + 1, 7, none⟩) (show w.heap.size ≤ w.heap.size + 1 + 1 by omega) (.slice (some ⟨g, 0, none⟩) m cap))
      have hR2 : BoxF (wk5.setCell ⟨w.heap.size + 1 + 1, 7, none⟩ (.slice (some ⟨g, 0, none⟩) m cap)) (w.heap.size + 1) #[.int .i64 0, .int .i64 0, .int .i64 0, .int .i64 0, .slice none 0 0, .int .i64 0, .int .i64 0, .slice none 0 0] := R.out.keep (Below.heap_setCell _ _ _ _ (by simp))
      have hzs : (wk5.setCell ⟨w.heap.size + 1 + 1, 7, none⟩ (.slice (some ⟨g, 0, none⟩) m cap)).heap.size = wk5.heap.size := by simp [World.setCell]
      have HZS := Lib.hid hzs
      replace R := Lib.hid hR2
      replace A := Lib.hid hA2
      have HOG := Lib.hid hog7
      clear LD a0 z0 a1 z1 a2 z2 a3 z3 a4 z4 a5 z5 a6 z6 a7 z7 hA2 hR2 hog5 hog6 hog7 hHeld HC HBX hzs HL2
      generalize wk5.setCell ⟨w.heap.size + 1 + 1, 7, none⟩ (.slice (some ⟨g, 0, none⟩) m cap) = W2 at *
      have hz2 : w.heap.size + 2 < W2.heap.size := by have := HZS.out; omega
      obtain ⟨a0, z0⟩ := A.out 0 _ rfl; obtain ⟨a1, z1⟩ := A.out 1 _ rfl; obtain ⟨a2, z2⟩ := A.out 2 _ rfl; obtain ⟨a3, z3⟩ := A.out 3 _ rfl; obtain ⟨a4, z4⟩ := A.out 4 _ rfl; obtain ⟨a5, z5⟩ := A.out 5 _ rfl; obtain ⟨a6, z6⟩ := A.out 6 _ rfl; obtain ⟨a7, z7⟩ := A.out 7 _ rfl
      go_wp2_with fail
      refine (CL.out _ g cap FB.out HOG.out).mono ?_
      rintro e wk6 ⟨g0, g1, d0, d1, rfl, ho0, ho1, hb6⟩
      clear a0 z0 a1 z1 a2 z2 a3 z3 a4 z4 a5 z5 a6 z6 a7 z7
      have hg0 : W2.heap.size ≤ g0 := ho0.choose_spec.1
      have hg1 : W2.heap.size ≤ g1 := ho1.choose_spec.1
      replace R := Lib.hid (R.out.below hb6 (by omega))
      replace FB := Lib.hid (FB.out.trans (hb6.mono FB.out.size))
      have HO0 := Lib.hid ho0
      have HO1 := Lib.hid ho1
      clear ho0 ho1 hb6 HOG A HZS
      obtain ⟨r0, y0⟩ := R.out 0 _ rfl; obtain ⟨r1, y1⟩ := R.out 1 _ rfl; obtain ⟨r2, y2⟩ := R.out 2 _ rfl; obtain ⟨r3, y3⟩ := R.out 3 _ rfl; obtain ⟨r4, y4⟩ := R.out 4 _ rfl; obtain ⟨r5, y5⟩ := R.out 5 _ rfl; obtain ⟨r6, y6⟩ := R.out 6 _ rfl; obtain ⟨r7, y7⟩ := R.out 7 _ rfl
      go_wp2
      refine bodyPost_ret (v := .tuple #[.agg #[.int .i64 f0, .int .i64 f1, .int .i64 (C : Int), .int .i64 f3, .slice (some ⟨g0, 0, none⟩) es.length d0, .int .i64 (S : Int), .int .i64 (P : Int), .slice (some ⟨g1, 0, none⟩) (ordL C S m).length d1], .int .i64 0]) (by simp [results, Try.results8, go_sem, r0, y0, r1, y1, r2, y2, r3, y3, r4, y4, r5, y5, r6, y6, r7, y7]) rfl ⟨some ⟨g0, 0, none⟩, some ⟨g1, 0, none⟩, d0, d1, rfl, ⟨?_, ?_⟩, ((((((((FB.out).setCell (by simp <;> omega) _).setCell (by simp <;> omega) _).setCell (by simp <;> omega) _).setCell (by simp <;> omega) _).setCell (by simp <;> omega) _).setCell (by simp <;> omega) _).setCell (by simp <;> omega) _).setCell (by simp <;> omega) _⟩
      · refine SlSI.mono (OwnBlk.sli (g := g0) (B := W2.heap.size) (HO0.out.keep ?_)) (by have := FB.out.size; omega) (Nat.le_refl _)
        simp only [World.setCell, Array.getElem?_modify]
        rw [if_neg (by omega), if_neg (by omega), if_neg (by omega), if_neg (by omega), if_neg (by omega), if_neg (by omega), if_neg (by omega), if_neg (by omega)]
      · refine SlI.mono (OwnBlkI.sli (g := g1) (B := W2.heap.size) (HO1.out.keep ?_)) (by have := FB.out.size; omega) (Nat.le_refl _)
        simp only [World.setCell, Array.getElem?_modify]
        rw [if_neg (by omega), if_neg (by omega), if_neg (by omega), if_neg (by omega), if_neg (by omega), if_neg (by omega), if_neg (by omega), if_neg (by omega)]
end Go.Proofs.Ytllcbiafghhcmaa
