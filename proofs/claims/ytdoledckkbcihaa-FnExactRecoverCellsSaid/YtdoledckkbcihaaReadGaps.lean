/- impl.readGaps -/
import Derived.Test.YtdoledckkbcihaaClkRun
import Derived.Test.YtdoledckkbcihaaOwnR
import Derived.Test.YtdoledckkbcihaaFluxVal
namespace Go.Proofs.Ytdoledckkbcihaa
open Go.RowKit
set_option linter.unusedVariables false
set_option linter.unusedSimpArgs false
set_option maxRecDepth 20000
def rowGap (e : Int × Int) : List Value := [.int .i64 e.1, .int .i64 e.2]
theorem rowGap_len (e : Int × Int) : (rowGap e).length = 2 := rfl
def zeroGap : List Value := [.int .i64 0, .int .i64 0]
theorem infoGap : (Try.prog.info? 127).map (fun i => (i.zero, i.size, i.bytes)) = some (some (.agg zeroGap.toArray), 2, 16) := by kernel_rfl
def ckL (c l h p s f : Int) (zs : List Int) : List (Int × Int) := (List.range zs.length).map fun k => (ckN c l h p s f zs k, ckE c l h p s f zs k)
theorem ckL_len (c l h p s f : Int) (zs : List Int) : (ckL c l h p s f zs).length = zs.length := by simp [ckL]
theorem ckL_at (c l h p s f : Int) (zs : List Int) {k : Nat} (hk : k < zs.length) : (ckL c l h p s f zs)[k]? = some (ckN c l h p s f zs k, ckE c l h p s f zs k) := by simp [ckL, hk]
def ckGood (cl f : Int) (zs : List Int) (c l h p s : Int) : Bool := fluxOk cl f zs && (clockOk c l h p s && ckOk c l h p s f zs zs.length)
def ckCode (cl f : Int) (zs : List Int) (c l h p s : Int) : Int := if (fluxOk cl f zs && clockOk c l h p s) = true then (if ckOk c l h p s f zs zs.length = true then 0 else 10) else 1
def ckRes (cl f : Int) (zs : List Int) (c l h p s : Int) : List (Int × Int) := if ckCode cl f zs c l h p s = 0 then ckL c l h p s f zs else []
theorem ckCode_1 {cl f : Int} {zs : List Int} {c l h p s : Int} (h0 : (fluxOk cl f zs && clockOk c l h p s) = false) : ckCode cl f zs c l h p s = 1 ∧ ckRes cl f zs c l h p s = [] := by simp [ckRes, ckCode, h0]
theorem ckCode_10 {cl f : Int} {zs : List Int} {c l h p s : Int} (h0 : (fluxOk cl f zs && clockOk c l h p s) = true) (h1 : ckOk c l h p s f zs zs.length = false) : ckCode cl f zs c l h p s = 10 ∧ ckRes cl f zs c l h p s = [] := by simp [ckRes, ckCode, h0, h1]
theorem ckCode_0 {cl f : Int} {zs : List Int} {c l h p s : Int} (h0 : (fluxOk cl f zs && clockOk c l h p s) = true) (h1 : ckOk c l h p s f zs zs.length = true) : ckCode cl f zs c l h p s = 0 ∧ ckRes cl f zs c l h p s = ckL c l h p s f zs := by simp [ckRes, ckCode, h0, h1]
/-- Two results: a slice of structs of the call's own, as long as its capacity, and a code. -/
def RecRes2L {E : Type} (row : E → List Value) (T : TypeId) (es : List E) (code : Int) (w : World) (e : Ending) (w' : World) : Prop :=
  ∃ a, e = .returned (.tuple #[.slice a es.length es.length, .int .i64 code]) ∧ SlSO row T w' w.heap.size a es ∧ Below w.heap.size w w'
theorem readGaps_bad (cl f : Int) (a : Option Addr) (cap : Nat) (zs : List Int) (c l h p s : Int) (hl : zs.length ≤ 1048576) (hbad : (fluxOk cl f zs && clockOk c l h p s) = false) (w : World) (hs : SlA w a zs) :
    Calls Try.prog 79 #[.agg #[.int .i64 cl, .int .i64 f, .slice a zs.length cap], .agg #[.int .i64 c, .int .i64 l, .int .i64 h, .int .i64 p, .int .i64 s]] w (RecRes2L rowGap 127 [] 1 w) := by
  have VF := Lib.hid (fun w' (hb : Below w.heap.size w w') => validFlux_any cl f a zs cap w' hl (hs.below hb (Nat.le_refl _)))
  have VC := Lib.hid (fun w' => validClock_any c l h p s w')
  clear hs
  cases h1 : fluxOk cl f zs with
  | false =>
    rw [h1] at VF
    clear hbad h1
    go_enter Try.func79, Try.ntmps79
    go_wp2_with fail
    refine (VF.out _ (((Below.refl _ _).alloc (Nat.le_refl _) _).alloc (by simp) _)).mono ?_
    rintro e w1 ⟨rfl, hb1⟩
    go_wp2
    go_ret2
    exact ⟨none, rfl, .inl rfl, Below.trans (((Below.refl _ _).alloc (Nat.le_refl _) _).alloc (by simp) _) (hb1.mono (by simp; omega))⟩
  | true =>
    rw [h1, Bool.true_and] at hbad
    rw [h1] at VF
    rw [hbad] at VC
    clear hbad h1
    go_enter Try.func79, Try.ntmps79
    go_wp2_with fail
    refine (VF.out _ (((Below.refl _ _).alloc (Nat.le_refl _) _).alloc (by simp) _)).mono ?_
    rintro e w1 ⟨rfl, hb1⟩
    have BC := Lib.hid ((BoxAt.new (w.alloc (.cells #[.int .i64 cl, .int .i64 f, .slice a zs.length cap] 57)) #[.int .i64 c, .int .i64 l, .int .i64 h, .int .i64 p, .int .i64 s] 59 (w.heap.size + 1) (by simp)).below hb1 (by simp))
    have b0 := BC.out 0 _ rfl
    have b1 := BC.out 1 _ rfl
    have b2 := BC.out 2 _ rfl
    have b3 := BC.out 3 _ rfl
    have b4 := BC.out 4 _ rfl
    have HB := Lib.hid (show Below w.heap.size w w1 from Below.trans (((Below.refl _ _).alloc (Nat.le_refl _) _).alloc (by simp) _) (hb1.mono (by simp; omega)))
    clear hb1
    go_wp2_with fail
    refine (VC.out _).mono ?_
    rintro e w2 ⟨rfl, hb2⟩
    go_wp2
    go_ret2
    exact ⟨none, rfl, .inl rfl, HB.out.trans (hb2.mono HB.out.size)⟩
set_option maxHeartbeats 16000000 in
theorem readGaps_good (cl f : Int) (a : Option Addr) (cap : Nat) (zs : List Int) (c l h p s : Int) (hv : fluxOk cl f zs = true) (hcl : clockOk c l h p s = true) (w : World) (hs : SlA w a zs) :
    Calls Try.prog 79 #[.agg #[.int .i64 cl, .int .i64 f, .slice a zs.length cap], .agg #[.int .i64 c, .int .i64 l, .int .i64 h, .int .i64 p, .int .i64 s]] w (RecRes2L rowGap 127 (ckRes cl f zs c l h p s) (ckCode cl f zs c l h p s) w) := by
  obtain ⟨_, ⟨hn1, hn2⟩, hz, hsum, hf0, hf1⟩ := fluxOk_iff.1 hv
  have hf2 : f ≤ 2000000 := by
    obtain ⟨x, hx⟩ := getOf (zs := zs) (k := zs.length - 1) (by omega)
    have h9 := inB_iff.1 (List.all_eq_true.1 hz x (List.mem_of_getElem? hx))
    rw [hx] at hf1
    simp at hf1
    omega
  have hl : zs.length ≤ 1048576 := by omega
  have vf := fun w' (hb : Below w.heap.size w w') => validFlux_any cl f a zs cap w' hl (hs.below hb (Nat.le_refl _))
  have vc := fun w' => validClock_any c l h p s w'
  rw [hv] at vf
  rw [hcl] at vc
  have VF := Lib.hid vf; have VC := Lib.hid vc; clear vf vc
  have ST := Lib.hid (fun w' => started_any c l h p s f w' hcl hf0 hf2)
  have RU := Lib.hid (fun w' => running_any c l h p s (c * 64) (off0 c p f) w')
  unfold runV at RU
  obtain ⟨a1, a2, a3, a4, a5⟩ := clockOk_iff.1 hcl
  have hmk := fun w => run_make_recs (P := Try.prog) 123 127 zeroGap 2 16 Try.underlying123 infoGap rfl (by omega) .i64 .i64 zs.length (by omega) (by omega) w
  have HCK := Lib.hid (And.intro hv (And.intro hcl hz))
  have hfc : (fluxOk cl f zs && clockOk c l h p s) = true := by rw [hv, hcl]; rfl
  have R0 := Lib.hid (fun h1 => ckCode_0 (cl := cl) (f := f) (zs := zs) hfc h1)
  have R10 := Lib.hid (fun h1 => ckCode_10 (cl := cl) (f := f) (zs := zs) hfc h1)
  generalize ckCode cl f zs c l h p s = code at R0 R10 ⊢
  generalize ckRes cl f zs c l h p s = res at R0 R10 ⊢
  clear hv hcl hz hsum hfc hf1
  go_enter Try.func79, Try.ntmps79
  go_wp2_with fail
  refine (VF.out _ (((Below.refl _ _).alloc (Nat.le_refl _) _).alloc (by simp) _)).mono ?_
  rintro e w1 ⟨rfl, hb1⟩
  have hz1 := hb1.size
  simp at hz1
  have KC := Lib.hid (fun w' (hb : Below (w.heap.size + 2) w1 w') => (((BoxAt.new (w.alloc (.cells #[.int .i64 cl, .int .i64 f, .slice a zs.length cap] 57)) #[.int .i64 c, .int .i64 l, .int .i64 h, .int .i64 p, .int .i64 s] 59 (w.heap.size + 1) (by simp)).below hb1 (by simp)).below hb (by omega)))
  have KF := Lib.hid (fun w' (hb : Below (w.heap.size + 2) w1 w') => ((((BoxAt.new w #[.int .i64 cl, .int .i64 f, .slice a zs.length cap] 57 _ rfl).below ((Below.refl _ _).alloc (Nat.le_refl _) (Obj.cells #[.int .i64 c, .int .i64 l, .int .i64 h, .int .i64 p, .int .i64 s] 59)) (by simp)).below hb1 (by simp; omega)).below hb (by omega)))
  have KZ := Lib.hid (fun w' (hb : Below w.heap.size w w') => hs.below hb (Nat.le_refl _))
  have HB1 := Lib.hid (show Below w.heap.size w w1 from Below.trans (((Below.refl _ _).alloc (Nat.le_refl _) _).alloc (by simp) _) (hb1.mono (by simp; omega)))
  clear hb1 hs
  have b0 := (KC.out _ (Below.refl _ _)) 0 _ rfl
  have b1 := (KC.out _ (Below.refl _ _)) 1 _ rfl
  have b2 := (KC.out _ (Below.refl _ _)) 2 _ rfl
  have b3 := (KC.out _ (Below.refl _ _)) 3 _ rfl
  have b4 := (KC.out _ (Below.refl _ _)) 4 _ rfl
  go_wp2_with fail
  refine (VC.out _).mono ?_
  rintro e w2 ⟨rfl, hb2⟩
  clear b0 b1 b2 b3 b4
  have hz2 := hb2.size
  have H2 := Lib.hid (show Below (w.heap.size + 2) w1 w2 from hb2.mono hz1)
  clear hb2
  have b0 := (KC.out _ H2.out) 0 _ rfl
  have b1 := (KC.out _ H2.out) 1 _ rfl
  have b2 := (KC.out _ H2.out) 2 _ rfl
  have b3 := (KC.out _ H2.out) 3 _ rfl
  have b4 := (KC.out _ H2.out) 4 _ rfl
  have e1 := (KF.out _ H2.out) 1 _ rfl
  go_wp2
  go_cut [6] (fun v wx => Hid (∃ q, v = .func (.func 126) #[] #[.pointer (some ⟨q, 0, none⟩), .pointer (some ⟨q + 1, 0, none⟩)] ∧ BoxF wx q #[.int .i64 c, .int .i64 l, .int .i64 h, .int .i64 p, .int .i64 s] ∧ BoxF wx (q + 1) #[.int .i64 (c * 64), .int .i64 (off0 c p f)] ∧ Below (w.heap.size + 2) w1 wx ∧ w.heap.size + 2 ≤ q ∧ q + 1 < wx.heap.size))
  case first =>
    go_region_law (first
      | (go_simp; go_at_call 111; (with_reducible refine (ST.out _).mono ?_); rintro e w3 ⟨rfl, hb3⟩; go_wp2_with fail; have H3 := Lib.hid (show Below (w.heap.size + 2) w1 w3 from H2.out.drew.trans (hb3.mono (by show w.heap.size + 2 ≤ w2.heap.size; omega))); have hz3 : w2.heap.size ≤ w3.heap.size := hb3.size; have b0 := (KC.out _ H3.out) 0 _ rfl; have b1 := (KC.out _ H3.out) 1 _ rfl; have b2 := (KC.out _ H3.out) 2 _ rfl; have b3 := (KC.out _ H3.out) 3 _ rfl; have b4 := (KC.out _ H3.out) 4 _ rfl)
      | (go_simp; go_at_call 110; (with_reducible refine (RU.out _).mono ?_); rintro e w4 ⟨rfl, hr1, hr2, hb4, hz4⟩; go_wp2_with fail)
      | fail)
    all_goals
      go_wp2_with fail
      go_meet
      case rel => exact Lib.hid ⟨_, rfl, hr1, hr2, H3.out.trans (hb4.mono (by omega)), by omega, by omega⟩
  obtain ⟨q, rfl, hq1, hq2, hq3, hq4, hq5⟩ := hcut.out
  have KQ := Lib.hid (And.intro hq1 (And.intro hq2 (And.intro hq3 hq4)))
  have f2 := (KF.out _ hq3) 2 _ rfl
  clear hcut hq1 hq2 hq3 e1 b0 b1 b2 b3 b4
  have hwc : w.heap.size < wc.heap.size := by omega
  have hwn : ¬ w.heap.size = wc.heap.size := by omega
  go_wp2
  go_loopw [8, 9, 31] (fun _ _ i wr => ∃ k : Nat, k ≤ zs.length ∧ i = .int .i64 k ∧ Hid (ckOk c l h p s f zs k = true) ∧ Hid (BoxF wr q #[.int .i64 c, .int .i64 l, .int .i64 h, .int .i64 p, .int .i64 s]) ∧ Hid (BoxF wr (q + 1) #[.int .i64 (ckSt c l h p s f zs k).1, .int .i64 (ckSt c l h p s f zs k).2]) ∧ Hid (wr.heap[wc.heap.size]? = some (.cells (cpS rowGap zeroGap (ckL c l h p s f zs) k).toArray 127 (0, 0))) ∧ Below (w.heap.size + 2) w1 wr ∧ wc.heap.size < wr.heap.size) (fun _ _ i _ => zs.length - (intOf i).toNat)
  case atStart =>
    obtain ⟨hq1, hq2, hq3, _⟩ := KQ.out
    refine ⟨0, Nat.zero_le _, rfl, by unfold Hid; rfl, Lib.hid (hq1.below ((Below.refl _ _).alloc (Nat.le_refl _) _) (by omega)), Lib.hid (hq2.below ((Below.refl _ _).alloc (Nat.le_refl _) _) hq5), ?_, hq3.alloc (by omega) _, by simp⟩
    unfold Hid
    rw [← cpS_zero, ckL_len]
    exact heap_alloc_new wc _
  case round =>
    obtain ⟨k, hk, rfl, hG, hB1, hB2, hL, hb, hgt⟩ := hrel
    have hLL := ckL_len c l h p s f zs
    have HBW := HB1.out.trans (hb.mono (by omega))
    by_cases hlt : k < zs.length
    · obtain ⟨x, hx⟩ := getOf hlt
      obtain ⟨b, off, rfl, hc⟩ := (KZ.out _ HBW).cell hx
      have hcx := HCK.out
      have hx0 := inB_iff.1 (List.all_eq_true.1 hcx.2.2 x (List.mem_of_getElem? hx))
      have hgx : zs.getD k 0 = x := by rw [List.getD_eq_getElem?_getD, hx]; rfl
      have hbd := ckSt_w (zs := zs) hcx.2.1 hf0 k
      have hN0 := ckN_bd (zs := zs) hcx.2.1 hf0 hx hx0.1 hx0.2
      have hat := ckL_at c l h p s f zs hlt
      have hst : ckSt c l h p s f zs (k + 1) = (stPer l h s (ckSt c l h p s f zs k).1 (ckSt c l h p s f zs k).2 x, stOff l h p s (ckSt c l h p s f zs k).1 (ckSt c l h p s f zs k).2 x) := by rw [ckSt, hgx]
      have hok : ckOk c l h p s f zs (k + 1) = decide (ckN c l h p s f zs k ≤ 100) := by rw [ckOk, hG.out, Bool.true_and]
      have hNe : stN (ckSt c l h p s f zs k).1 (ckSt c l h p s f zs k).2 x = ckN c l h p s f zs k := by unfold ckN; rw [hgx]
      have hEe : stE (ckSt c l h p s f zs k).1 (ckSt c l h p s f zs k).2 x = ckE c l h p s f zs k := by unfold ckE; rw [hgx]
      generalize (ckSt c l h p s f zs k).1 = P at *
      generalize (ckSt c l h p s f zs k).2 = o at *
      have RN := Lib.hid (run1_any c l h p s P o x q wr hB1.out hB2.out (by omega) (by omega) (by omega) (by omega) (by omega) hbd.1 hbd.2.1 hbd.2.2.1 hbd.2.2.2 hx0.1 hx0.2)
      rw [hNe, hEe] at RN
      generalize ckN c l h p s f zs k = N at *
      generalize ckE c l h p s f zs k = E at *
      generalize stPer l h s P o x = P' at *
      generalize stOff l h p s P o x = o' at *
      have HX := Lib.hid (And.intro hst (And.intro hok (And.intro hat hx)))
      clear hst hok hat hx hgx hNe hEe hbd hcx
      go_wp2_with fail
      refine RN.out.mono ?_
      rintro e w2 ⟨rfl, hr1, hr2, hr3⟩
      have hg1 : w2.heap[wc.heap.size]? = some (.cells (cpS rowGap zeroGap (ckL c l h p s f zs) k).toArray 127 (0, 0)) := by rw [hr3.block _ hgt (by omega)]; exact hL.out
      have hsz2 := hr3.size
      have hb2 : Below (w.heap.size + 2) w1 w2 := hb.trans (hr2.mono (by omega))
      have hq1' := hB1.out.below hr2 (by omega)
      have hlen := cpS_size (zero := zeroGap) rowGap_len rfl (show k ≤ (ckL c l h p s f zs).length by rw [hLL]; exact hk)
      have hcell : ∀ j, j < 2 → ∃ v, w2.cell? ⟨wc.heap.size, k * 2 + j, none⟩ = some v := fun j hj => by
        have : (cpS rowGap zeroGap (ckL c l h p s f zs) k)[k * 2 + j]?.isSome = true := by simp [hlen, hLL]; omega
        obtain ⟨v, hv⟩ := Option.isSome_iff_exists.1 this
        exact ⟨v, by simp [World.cell?, hg1, hv]⟩
      obtain ⟨o0, d0⟩ := hcell 0 (by omega)
      obtain ⟨o1, d1⟩ := hcell 1 (by omega)
      have d0 : w2.cell? ⟨wc.heap.size, k * 2, none⟩ = some o0 := d0
      have z0 : w2.frozen? ⟨wc.heap.size, k * 2, none⟩ = false := by simp [World.frozen?, hg1]
      have z1 : w2.frozen? ⟨wc.heap.size, k * 2 + 1, none⟩ = false := by simp [World.frozen?, hg1]
      have HW := Lib.hid (And.intro hr1 (And.intro hg1 (And.intro hb2 hq1')))
      clear hr1 hr2 hr3 hg1 hb2 hq1' hcell hlen hc RN
      by_cases hN : N ≤ 100
      · have hN1 : ¬ 100 < N := by omega
        go_wp2
        go_roundw
        case rel =>
          obtain ⟨hst, hok, hat, hx⟩ := HX.out
          obtain ⟨hr1, hg1, hb2, hq1'⟩ := HW.out
          have hbs := below_setCells (B := q + 2) wc.heap.size (by omega) (rowGap (N, E)) (k * 2) w2 w2 (Below.refl _ _)
          refine ⟨k + 1, by omega, by go_num, by unfold Hid; rw [hok, decide_eq_true hN], Lib.hid (hq1'.below hbs (by omega)), ?_, ?_, ?_, ?_⟩
          · rw [hst]; exact Lib.hid (hr1.below hbs (by omega))
          · unfold Hid
            rw [← cpS_succ (zero := zeroGap) rowGap_len rfl hat]
            exact heap_setCells _ _ (rowGap (N, E)) (k * 2) w2 _ hg1
          · exact below_setCells _ (by omega) (rowGap (N, E)) (k * 2) w1 w2 hb2
          · exact Nat.lt_of_lt_of_le (by omega) hbs.size
        case measure => simp [intOf]; omega
      · have hN1 : 100 < N := by omega
        go_wp2
        go_ret2
        obtain ⟨hst, hok, hat, hx⟩ := HX.out
        obtain ⟨e1, e2⟩ := R10.out (ckOk_mono (k := k + 1) hlt (by rw [hok]; exact decide_eq_false (by omega)))
        rw [e1, e2]
        refine ⟨none, rfl, .inl rfl, ?_⟩
        exact HB1.out.trans ((below_setCells _ (by omega) (rowGap (N, E)) (k * 2) w1 w2 HW.out.2.2.1).mono (by omega))
    · obtain rfl : k = zs.length := by omega
      obtain ⟨e1, e2⟩ := R0.out hG.out
      rw [← hLL, cpS_all] at hL
      go_wp2
      go_ret2
      rw [e1, e2]
      refine ⟨some ⟨wc.heap.size, 0, none⟩, by rw [hLL]; rfl, .inr ⟨wc.heap.size, #[], rfl, by omega, hgt, ?_⟩, HBW⟩
      rw [Array.append_empty]
      exact hL.out
theorem readGaps_L (cl f : Int) (a : Option Addr) (cap : Nat) (zs : List Int) (c l h p s : Int) (hl : zs.length ≤ 1048576) (w : World) (hs : SlA w a zs) :
    Calls Try.prog 79 #[.agg #[.int .i64 cl, .int .i64 f, .slice a zs.length cap], .agg #[.int .i64 c, .int .i64 l, .int .i64 h, .int .i64 p, .int .i64 s]] w (RecRes2L rowGap 127 (ckRes cl f zs c l h p s) (ckCode cl f zs c l h p s) w) := by
  cases h0 : (fluxOk cl f zs && clockOk c l h p s) with
  | false =>
    obtain ⟨e1, e2⟩ := ckCode_1 h0
    rw [e1, e2]
    exact readGaps_bad cl f a cap zs c l h p s hl h0 w hs
  | true =>
    rw [Bool.and_eq_true] at h0
    exact readGaps_good cl f a cap zs c l h p s h0.1 h0.2 w hs
theorem readGaps_any (cl f : Int) (a : Option Addr) (cap : Nat) (zs : List Int) (c l h p s : Int) (hl : zs.length ≤ 1048576) (w : World) (hs : SlA w a zs) :
    Calls Try.prog 79 #[.agg #[.int .i64 cl, .int .i64 f, .slice a zs.length cap], .agg #[.int .i64 c, .int .i64 l, .int .i64 h, .int .i64 p, .int .i64 s]] w (RecRes2 rowGap 127 (ckRes cl f zs c l h p s) (ckCode cl f zs c l h p s) w) :=
  (readGaps_L cl f a cap zs c l h p s hl w hs).mono fun _ _ ⟨a', h1, h2, h3⟩ => ⟨a', _, h1, h2, h3⟩
end Go.Proofs.Ytdoledckkbcihaa
