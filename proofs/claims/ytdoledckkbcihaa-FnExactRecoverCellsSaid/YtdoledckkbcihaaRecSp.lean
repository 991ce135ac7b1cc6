/- spec.l03Zeros, l03Recover, RecoverCells -/
import Derived.Test.YtdoledckkbcihaaRecVal
import Derived.Test.YtdoledckkbcihaaConv
import Derived.Test.YtdoledckkbcihaaStepSp
namespace Go.Proofs.Ytdoledckkbcihaa
open Go.RowKit
set_option linter.unusedVariables false
set_option linter.unusedSimpArgs false
set_option maxRecDepth 20000
set_option maxHeartbeats 4000000 in
theorem l03Zeros_any (B : Nat) (v : Value) (l : List UInt8) (m : Int) (w : World) (h : OwnB w B v l) (hB : B ≤ w.heap.size) (hm : m ≤ 1000000) (hm0 : -1000000 ≤ m) (hl : l.length ≤ 2100000000) :
    Calls Try.prog 114 #[v, .int .i64 m] w fun e w' => ∃ v', e = .returned v' ∧ OwnB w' B v' (l ++ List.replicate m.toNat 48) ∧ Below B w w' := by
  obtain ⟨b, n, c, rfl⟩ : ∃ b n c, v = .slice b n c := by
    rcases h.2 with ⟨rfl, _⟩ | ⟨g, cap, cur, rfl, _⟩
    · exact ⟨_, _, _, rfl⟩
    · exact ⟨_, _, _, rfl⟩
  go_enter Try.func114, Try.ntmps114
  go_wp2
  go_loopw [0, 1] (fun v i wr => ∃ j : Nat, (j : Int) ≤ max m 0 ∧ i = .int .i64 (m - j) ∧ Hid (OwnB wr B v (l ++ List.replicate j 48)) ∧ Below B w wr) (fun _ i _ => (intOf i).toNat)
  case atStart => exact ⟨0, by omega, by simp, by unfold Hid; simpa using h, Below.refl _ _⟩
  case round =>
    obtain ⟨j, hj, rfl, hO, hb⟩ := hrel
    have hsz := hb.size
    by_cases hlt : 0 < m - (j : Int)
    · have hw1 : IntKind.i64.wrap (m - (j : Int) - 1) = m - (j : Int) - 1 := IntWalk.i64_in _ (by omega)
      have hll : (l ++ List.replicate j (48 : UInt8)).length < 2147483648 := by simp; omega
      have hln : (l ++ List.replicate j (48 : UInt8)).length = l.length + j := by simp
      have HA := Lib.hid (hb.alloc (by omega) (.cells #[.int .u8 48] 5))
      have hap : l ++ List.replicate j (48 : UInt8) ++ [(48 : Int).toNat.toUInt8] = l ++ List.replicate (j + 1) 48 := by rw [List.append_assoc, List.replicate_succ']; rfl
      have HAP := Lib.hid hap; clear hap
      go_wp2_with (at_builtin; refine wpList_appendB rfl _ _ rfl rfl (hO.out.alloc _) 48 (by omega) (by omega) ⟨wr.heap.size, 0, none⟩ 1 rfl (World.news_of_block (cs := #[.int .u8 48]) (t := 5) (fr := (0, 0)) (heap_alloc_new wr _)) hll (by simp; omega) ?_; intro g cap6 w6 hown6 _ hb6 _)
      rw [HAP.out, hln] at hown6
      go_roundw
      case rel => exact ⟨j + 1, by omega, by congr 1; omega, Lib.hid hown6, HA.out.trans hb6⟩
      case measure => simp [intOf]; omega
    · have e : j = m.toNat := by omega
      rw [e] at hO
      go_wp2
      go_ret
      exact ⟨_, rfl, hO.out, hb⟩
set_option maxHeartbeats 16000000 in
theorem l03Recover_any (b0 : Nat) (cl f : Int) (a : Option Addr) (cap : Nat) (zs : List Int) (c l h p s : Int) (hv : fluxOk cl f zs = true) (hcl : clockOk c l h p s = true) (w : World) (hF : FluxAt w b0 cl f a zs.length cap) (hs : SlA w a zs) :
    Calls Try.prog 87 #[.pointer (some ⟨b0, 0, none⟩), .agg #[.int .i64 c, .int .i64 l, .int .i64 h, .int .i64 p, .int .i64 s]] w fun e w' => e = .returned (.tuple #[.string (rcV cl f zs c l h p s), .int .i64 (rcCode cl f zs c l h p s)]) ∧ Below w.heap.size w w' := by
  have hb0 := hF.lt
  have hBA := (show Below w.heap.size w (w.alloc (.cells #[.int .i64 c, .int .i64 l, .int .i64 h, .int .i64 p, .int .i64 s] 59)) from (Below.refl _ _).alloc (Nat.le_refl _) _)
  have LA := Lib.hid (l03All_0 b0 cl f a cap zs c l h p s hv hcl (w.alloc (.cells #[.int .i64 c, .int .i64 l, .int .i64 h, .int .i64 p, .int .i64 s] 59)) (hF.below hBA hb0) (hs.below hBA (Nat.le_refl _)) _ rfl)
  have hcc : (fluxOk cl f zs && clockOk c l h p s) = true := by rw [hv, hcl]; rfl
  cases h3 : ckOk c l h p s f zs zs.length with
  | false =>
    obtain ⟨e1, e2⟩ := ckCode_10 (cl := cl) hcc h3
    obtain ⟨r1, r2⟩ := rc_bad (cl := cl) (f := f) (zs := zs) (c := c) (l := l) (h := h) (p := p) (s := s) (by rw [e1]; omega)
    rw [r1, r2, e1]
    simp only [h3, Bool.false_eq_true, if_false] at LA
    clear e1 e2 r1 r2 hcc h3 hF hs hBA
    go_enter Try.func87, Try.ntmps87
    go_wp2_with fail
    refine LA.out.mono ?_
    rintro e w3 ⟨a1, c1, a2, c2, rfl, hs1, hs2, hb3⟩
    go_wp2
    go_ret2
    exact ⟨rfl, ((Below.refl _ _).alloc (Nat.le_refl _) _).trans (hb3.mono (by simp))⟩
  | true =>
    obtain ⟨e1, e2⟩ := ckCode_0 (cl := cl) hcc h3
    obtain ⟨hnb, hl0, hl5, hn1, hn4, hf0, hc4⟩ := ckNs_bd e1
    have RF := Lib.hid (fun h1 => rc_full e1 h1)
    have RD := Lib.hid (fun h1 => rc_good e1 h1)
    simp only [h3, if_true] at LA
    generalize rcCode cl f zs c l h p s = rcode at *
    generalize rcV cl f zs c l h p s = rv at *
    have hNl := ckNs_len c l h p s f zs zs.length
    have hEl := ckEs_len c l h p s f zs zs.length
    generalize ckEs c l h p s f zs zs.length = ES at *
    generalize ckNs c l h p s f zs zs.length = NS at *
    obtain ⟨ld, hldd⟩ : ∃ ld, f.tdiv c = ld := ⟨_, rfl⟩
    rw [hldd] at RF RD hl0 hl5
    have hZB := zB_rc (lead := ld) (ns := NS) hl0 hl5 hnb
    obtain ⟨xl, hxl⟩ := getOf (zs := NS) (k := zs.length - 1) (by omega)
    have hxb := hnb xl (List.mem_of_getElem? hxl)
    have HT := Lib.hid (show rcTail ld NS = max (xl - 1 - ld) 0 by unfold rcTail; rw [hNl, List.getD_eq_getElem?_getD, hxl]; rfl)
    have HRS := Lib.hid (rcSum_eq (lead := ld) (ns := NS) (by omega))
    have HNB := Lib.hid hnb
    have hc0 : ¬ c = 0 := by omega
    have hbF := (hF.below hBA hb0)
    have HBF := Lib.hid hbF
    clear e1 e2 hcc h3 hF hs hBA hnb hbF hv hcl
    generalize zs.length = n at *
    obtain ⟨m, rfl⟩ : ∃ m, n = m + 1 := ⟨n - 1, by omega⟩
    simp only [Nat.add_sub_cancel] at hxl
    have hNl1 : NS.length - 1 = m := by omega
    rw [hNl1] at HRS
    go_enter Try.func87, Try.ntmps87
    go_wp2_with fail
    refine LA.out.mono ?_
    rintro e w3 ⟨a1, c1, a2, c2, rfl, hs1, hs2, hb3⟩
    rw [hNl, hEl]
    have hz3 := hb3.size
    simp at hz3
    have x1 := (HBF.out.below hb3 (by simp; omega)).2.1
    have y0 := ((BoxAt.new w #[.int .i64 c, .int .i64 l, .int .i64 h, .int .i64 p, .int .i64 s] 59 _ rfl).below hb3 (by simp)) 0 _ rfl
    have HB3 := Lib.hid (((Below.refl _ _).alloc (Nat.le_refl _) _).trans (hb3.mono (by simp)) : Below w.heap.size w w3)
    have HN := Lib.hid (SlO.sl hs1)
    obtain ⟨b1, off1, e9, hcl1⟩ := (SlO.sl hs1).cell hxl
    subst e9
    clear hb3 hs1 hs2
    have MX := Lib.hid (fun w' => l00MaxS_any 0 (xl - 1 - ld) w')
    obtain ⟨S0, hS0⟩ : ∃ S0, ld + 1 + max 0 (xl - 1 - ld) = S0 := ⟨_, rfl⟩
    have hw1 : IntKind.i64.wrap (xl - 1) = xl - 1 := IntWalk.i64_in _ (by omega)
    have hw2 : IntKind.i64.wrap (xl - 1 - ld) = xl - 1 - ld := IntWalk.i64_in _ (by omega)
    have hw3 : IntKind.i64.wrap (ld + 1) = ld + 1 := IntWalk.i64_in _ (by omega)
    have hw4 : IntKind.i64.wrap (ld + 1 + max 0 (xl - 1 - ld)) = ld + 1 + max 0 (xl - 1 - ld) := IntWalk.i64_in _ (by omega)
    have hS0b : 0 ≤ S0 ∧ S0 ≤ 600000 := by omega
    go_wp2
    go_region
    go_wp2_with (go_at_call 113; refine (MX.out _).mono ?_; rintro e _ ⟨rfl, rfl⟩)
    try rw [hS0]
    clear x1 y0 MX
    go_loopw [11, 12] (fun sv i wr => ∃ k : Nat, k ≤ m ∧ i = .int .i64 k ∧ ∃ t : Int, sv = .int .i64 t ∧ Hid (t = S0 + (NS.take k).sum) ∧ 0 ≤ t ∧ t ≤ 600000 + 100 * (k : Int) ∧ w3.drew = wr) (fun _ i _ => m - (intOf i).toNat)
    case atStart => exact ⟨0, Nat.zero_le _, rfl, S0, rfl, by unfold Hid; simp, by omega, by omega, rfl⟩
    case round =>
      obtain ⟨k, hk, rfl, t, rfl, hT, ht0, ht1, hww⟩ := hrel
      subst hww
      by_cases hlt : k < m
      · obtain ⟨x, hx⟩ := getOf (zs := NS) (k := k) (by omega)
        obtain ⟨b2, off2, e9, hcx⟩ := HN.out.cell hx
        cases e9
        have hxb2 := HNB.out x (List.mem_of_getElem? hx)
        have HX := Lib.hid (sum_snoc hx)
        have hwt : IntKind.i64.wrap (t + x) = t + x := IntWalk.i64_in _ (by omega)
        clear hx
        go_wp2
        go_roundw
        case rel => exact ⟨k + 1, by omega, by go_num, t + x, rfl, by unfold Hid; rw [HX.out, hT.out]; omega, by omega, by omega, by first | rfl | trivial⟩
        case measure => simp [intOf]; omega
      · obtain rfl : k = m := by omega
        have HSM := Lib.hid (show t = rcSum ld NS by rw [HRS.out, hT.out, ← hS0, HT.out]; omega)
        by_cases hbig : 8000 < t
        · obtain ⟨r1, r2⟩ := RF.out (by rw [← HSM.out]; exact hbig)
          subst r1 r2
          go_wp2
          go_ret2
          exact ⟨rfl, HB3.out.drew⟩
        · obtain ⟨r1, r2⟩ := RD.out (by rw [← HSM.out]; omega)
          subst r1
          have HRV := Lib.hid r2
          clear r2 RF RD
          have hns : (⟨#[]⟩ : ByteArray).size = 0 := rfl
          have hL0 : ([] : List UInt8) ++ List.replicate ld.toNat 48 ++ [(49 : Int).toNat.toUInt8] = rcB (rcZ ld NS 0) := by simp [rcB, rcZ, oneZ]
          have HL0 := Lib.hid hL0; clear hL0
          have hn0 := OwnB.nil w3.drew w3.heap.size (Nat.le_refl _)
          go_wp2_with (first
            | (go_at_call 114; refine (l03Zeros_any w3.heap.size _ [] ld _ hn0 (by simp) (by omega) (by omega) (by simp)).mono ?_; rintro e w4 ⟨v4, rfl, hO4, hb4⟩; have hz4 := hb4.size; have HB4 := Lib.hid (((Below.refl w3.heap.size w3).drew.alloc (Nat.le_refl _) _).trans hb4); have hl4 : ([] ++ List.replicate ld.toNat (48 : UInt8)).length < 2147483648 := (by simp; omega))
            | (at_builtin; refine wpList_appendB rfl _ _ rfl rfl (hO4.alloc _) 49 (by omega) (by omega) ⟨w4.heap.size, 0, none⟩ 1 rfl (World.news_of_block (cs := #[.int .u8 49]) (t := 5) (fr := (0, 0)) (heap_alloc_new w4 _)) hl4 (by simp at hz4 ⊢; omega) ?_; intro g5 cap5 w5 hO5 _ hb5 _))
          have HB5 := Lib.hid ((HB4.out.alloc (by have := HB4.out.size; omega) (.cells #[.int .u8 49] 5)).trans hb5)
          have hlen0 : (([] : List UInt8) ++ List.replicate ld.toNat 48).length = ld.toNat := by simp
          rw [HL0.out] at hO5
          rw [hlen0] at hO5
          clear hb5 hO4 hb4 hn0 hT
          have hL0b : (rcB (rcZ ld NS 0)).length ≤ 500001 := by
            have := rcB_len (hZB 0) 1
            rwa [List.take_of_length_le (by simp [rcZ])] at this
          try rw [hlen0]
          go_loopw [13, 14] (fun v i wr => ∃ (j : Nat), j ≤ k ∧ i = .int .i64 j ∧ Hid (OwnB wr w3.heap.size v (rcB (rcZ ld NS j))) ∧ Below w3.heap.size w3 wr) (fun _ i _ => k - (intOf i).toNat)
          case atStart => exact ⟨0, Nat.zero_le _, rfl, Lib.hid hO5, HB5.out⟩
          case round =>
            obtain ⟨j, hj, rfl, hO, hb⟩ := hrel
            have hLl := rcB_len (hZB j) (j + 1)
            rw [List.take_of_length_le (by rw [rcZ_len (by omega)]; omega)] at hLl
            have hsz := hb.size
            by_cases hlt : j < k
            · obtain ⟨x, hx⟩ := getOf (zs := NS) (k := j) (by omega)
              obtain ⟨b2, off2, e9, hcx⟩ := (HN.out.below hb (Nat.le_refl _)).cell hx
              cases e9
              have hxb2 := HNB.out x (List.mem_of_getElem? hx)
              have HX := Lib.hid (show rcB (rcZ ld NS j) ++ List.replicate (x - 1).toNat 48 ++ [(49 : Int).toNat.toUInt8] = rcB (rcZ ld NS (j + 1)) by rw [rcZ_succ hx, rcB_snoc, List.append_assoc]; rfl)
              have hwx : IntKind.i64.wrap (x - 1) = x - 1 := IntWalk.i64_in _ (by omega)
              generalize rcB (rcZ ld NS j) = L at *
              clear hx
              have hl6 : (L ++ List.replicate (x - 1).toNat (48 : UInt8)).length < 2147483648 := by simp; omega
              have hl7 : (L ++ List.replicate (x - 1).toNat (48 : UInt8)).length = L.length + (x - 1).toNat := by simp
              go_wp2_with (first
                | (go_at_call 114; refine (l03Zeros_any w3.heap.size _ L (x - 1) _ hO.out hsz (by omega) (by omega) (by omega)).mono ?_; rintro e w6 ⟨v6, rfl, hO6, hb6⟩; have hz6 := hb6.size; have HB6 := Lib.hid (hb.trans hb6))
                | (at_builtin; refine wpList_appendB rfl _ _ rfl rfl (hO6.alloc _) 49 (by omega) (by omega) ⟨w6.heap.size, 0, none⟩ 1 rfl (World.news_of_block (cs := #[.int .u8 49]) (t := 5) (fr := (0, 0)) (heap_alloc_new w6 _)) hl6 (by simp; omega) ?_; intro g7 cap7 w7 hO7 _ hb7 _))
              rw [HX.out] at hO7
              rw [hl7, show (x - 1).toNat = x.toNat - 1 by omega] at hO7
              go_roundw
              case rel => exact ⟨j + 1, by omega, by go_num, Lib.hid hO7, (HB6.out.alloc (by omega) _).trans hb7⟩
              case measure => simp [intOf]; omega
            · obtain rfl : j = k := by omega
              obtain ⟨b2, off2, e9, hcx⟩ := (HN.out.below hb (Nat.le_refl _)).cell hxl
              cases e9
              have HF := Lib.hid (show rcOut ld NS = ⟨(rcB (rcZ ld NS j) ++ List.replicate (xl - 1 - ld).toNat 48).toArray⟩ by
                unfold rcOut
                rw [HT.out, hNl1, show (max (xl - 1 - ld) 0).toNat = (xl - 1 - ld).toNat by omega])
              generalize rcB (rcZ ld NS j) = L at *
              go_wp2_with (go_at_call 114; refine (l03Zeros_any w3.heap.size _ L (xl - 1 - ld) _ hO.out hsz (by omega) (by omega) (by omega)).mono ?_; rintro e w6 ⟨v6, rfl, hO6, hb6⟩; have hcv := conv_own hO6)
              go_ret2
              refine ⟨?_, HB3.out.trans ((hb.trans hb6).mono HB3.out.size)⟩
              rw [HRV.out, HF.out]
              rfl
set_option maxHeartbeats 8000000 in
theorem specRecoverCells_any (cl f : Int) (a : Option Addr) (cap : Nat) (zs : List Int) (c l h p s : Int) (hl : zs.length ≤ 1048576) (w : World) (hs : SlA w a zs) :
    Calls Try.prog 40 #[.agg #[.int .i64 cl, .int .i64 f, .slice a zs.length cap], .agg #[.int .i64 c, .int .i64 l, .int .i64 h, .int .i64 p, .int .i64 s]] w fun e w' => e = .returned (.tuple #[.string (rcV cl f zs c l h p s), .int .i64 (rcCode cl f zs c l h p s)]) ∧ Below w.heap.size w w' := by
  have KZ := Lib.hid (fun w' (hb : Below w.heap.size w w') => hs.below hb (Nat.le_refl _))
  have VC := Lib.hid (fun w' => l03Ok_any c l h p s w')
  have HB0 := Lib.hid (show Below w.heap.size w ((w.alloc (.cells #[.int .i64 cl, .int .i64 f, .slice a zs.length cap] 57)).alloc (.cells #[.int .i64 c, .int .i64 l, .int .i64 h, .int .i64 p, .int .i64 s] 59)) from ((Below.refl _ _).alloc (Nat.le_refl _) _).alloc (by simp) _)
  have HF0 := Lib.hid (show FluxAt ((w.alloc (.cells #[.int .i64 cl, .int .i64 f, .slice a zs.length cap] 57)).alloc (.cells #[.int .i64 c, .int .i64 l, .int .i64 h, .int .i64 p, .int .i64 s] 59)) w.heap.size cl f a zs.length cap from (FluxAt.new w cl f a zs.length cap 57 _ rfl).below ((Below.refl _ _).alloc (Nat.le_refl _) _) (by simp))
  have HC0 := Lib.hid (BoxAt.new (w.alloc (.cells #[.int .i64 cl, .int .i64 f, .slice a zs.length cap] 57)) #[.int .i64 c, .int .i64 l, .int .i64 h, .int .i64 p, .int .i64 s] 59 (w.heap.size + 1) (by simp))
  have VF := Lib.hid (fun w' (hb : Below w.heap.size w w') (hf : FluxAt w' w.heap.size cl f a zs.length cap) => l02Ok_any w.heap.size cl f a zs cap w' hl hf (hs.below hb (Nat.le_refl _)))
  clear hs
  cases h1 : fluxOk cl f zs with
  | false =>
    obtain ⟨e1, e2⟩ := ckCode_1 (cl := cl) (f := f) (zs := zs) (c := c) (l := l) (h := h) (p := p) (s := s) (by rw [h1]; rfl)
    obtain ⟨r1, r2⟩ := rc_bad (cl := cl) (f := f) (zs := zs) (c := c) (l := l) (h := h) (p := p) (s := s) (by rw [e1]; omega)
    rw [r1, r2, e1]
    rw [h1] at VF
    clear h1 e1 e2 r1 r2
    go_enter Try.func40, Try.ntmps40
    go_wp2_with fail
    refine (VF.out _ HB0.out HF0.out).mono ?_
    rintro e w1 ⟨rfl, hb1⟩
    go_wp2
    go_ret2
    exact ⟨rfl, HB0.out.trans (hb1.mono (by simp; omega))⟩
  | true =>
    rw [h1] at VF
    cases h2 : clockOk c l h p s with
    | false =>
      obtain ⟨e1, e2⟩ := ckCode_1 (cl := cl) (f := f) (zs := zs) (c := c) (l := l) (h := h) (p := p) (s := s) (by rw [h1, h2]; rfl)
      obtain ⟨r1, r2⟩ := rc_bad (cl := cl) (f := f) (zs := zs) (c := c) (l := l) (h := h) (p := p) (s := s) (by rw [e1]; omega)
      rw [r1, r2, e1]
      rw [h2] at VC
      clear h1 h2 e1 e2 r1 r2
      go_enter Try.func40, Try.ntmps40
      go_wp2_with fail
      refine (VF.out _ HB0.out HF0.out).mono ?_
      rintro e w1 ⟨rfl, hb1⟩
      have BC := Lib.hid (HC0.out.below hb1 (by simp))
      have b0 := BC.out 0 _ rfl
      have b1 := BC.out 1 _ rfl
      have b2 := BC.out 2 _ rfl
      have b3 := BC.out 3 _ rfl
      have b4 := BC.out 4 _ rfl
      have hz1 := hb1.size
      simp at hz1
      have HB1 := Lib.hid (HB0.out.trans (hb1.mono (by simp; omega)))
      clear hb1
      go_wp2_with fail
      refine (VC.out _).mono ?_
      rintro e w2 ⟨rfl, hb2⟩
      go_wp2
      go_ret2
      exact ⟨rfl, HB1.out.trans (hb2.mono HB1.out.size)⟩
    | true =>
      rw [h2] at VC
      have LR := Lib.hid (fun w' (hb : Below w.heap.size w w') (hf : FluxAt w' w.heap.size cl f a zs.length cap) => l03Recover_any w.heap.size cl f a cap zs c l h p s h1 h2 w' hf (KZ.out w' hb))
      generalize rcCode cl f zs c l h p s = rcode at *
      generalize rcV cl f zs c l h p s = rv at *
      clear h1 h2
      go_enter Try.func40, Try.ntmps40
      go_wp2_with fail
      refine (VF.out _ HB0.out HF0.out).mono ?_
      rintro e w1 ⟨rfl, hb1⟩
      have BC := Lib.hid (fun w' (hb : Below (w.heap.size + 2) w1 w') => (HC0.out.below hb1 (by simp)).below hb (by omega))
      have BF := Lib.hid (fun w' (hb : Below (w.heap.size + 2) w1 w') => (HF0.out.below hb1 (by simp; omega)).below hb (by omega))
      have b0 := BC.out _ (Below.refl _ _) 0 _ rfl
      have b1 := BC.out _ (Below.refl _ _) 1 _ rfl
      have b2 := BC.out _ (Below.refl _ _) 2 _ rfl
      have b3 := BC.out _ (Below.refl _ _) 3 _ rfl
      have b4 := BC.out _ (Below.refl _ _) 4 _ rfl
      have hz1 := hb1.size
      simp at hz1
      have HB1 := Lib.hid (HB0.out.trans (hb1.mono (by simp; omega)))
      clear hb1
      go_wp2_with fail
      refine (VC.out _).mono ?_
      rintro e w2 ⟨rfl, hb2⟩
      clear b0 b1 b2 b3 b4
      have hq2 := hb2.mono hz1
      have b0 := BC.out _ hq2 0 _ rfl
      have b1 := BC.out _ hq2 1 _ rfl
      have b2 := BC.out _ hq2 2 _ rfl
      have b3 := BC.out _ hq2 3 _ rfl
      have b4 := BC.out _ hq2 4 _ rfl
      have HF2 := Lib.hid (BF.out _ hq2)
      have HB2 := Lib.hid (HB1.out.trans (hb2.mono HB1.out.size))
      clear hb2 hq2
      go_wp2_with fail
      refine (LR.out _ HB2.out HF2.out).mono ?_
      rintro e w3 ⟨rfl, hb3⟩
      go_wp2
      go_ret2
      exact ⟨rfl, HB2.out.trans (hb3.mono HB2.out.size)⟩
end Go.Proofs.Ytdoledckkbcihaa
