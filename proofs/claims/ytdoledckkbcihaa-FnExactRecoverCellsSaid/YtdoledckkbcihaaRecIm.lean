/- impl.RecoverCells -/
import Derived.Test.YtdoledckkbcihaaRecVal
import Derived.Test.YtdoledckkbcihaaBuilderStr
import Derived.Test.YtdoledckkbcihaaDigitsOf
import Derived.Test.YtdoledckkbcihaaShelf
namespace Go.Proofs.Ytdoledckkbcihaa
open Go.RowKit
set_option linter.unusedVariables false
set_option linter.unusedSimpArgs false
set_option maxRecDepth 20000
theorem OwnI.single (w : World) (x : Int) (B : Nat) (hB : B ≤ w.heap.size) : OwnI (w.alloc (.cells #[.int .i64 x] 2)) B (.slice (some ⟨w.heap.size, 0, none⟩) 1 1) [x] := by
  refine ⟨rfl, .inr ⟨w.heap.size, 1, _, rfl, hB, heap_alloc_new w _, Nat.le_refl _, by simp [maxLen], rfl, rfl⟩⟩
set_option maxHeartbeats 400000 in
theorem sumZ_any (a : Option Addr) (zs : List Int) (c : Nat) (w : World) (hl : zs.length ≤ 1048576) (hz : zB zs = true) (h : SlA w a zs) :
    Calls Try.prog 88 #[.slice a zs.length c] w fun e w' => e = .returned (.int .i64 zs.sum) ∧ w = w' := by
  have HZ := Lib.hid hz; clear hz
  go_enter Try.func88, Try.ntmps88
  go_wp2
  go_loop [3, 8] (fun s i => ∃ k : Nat, k ≤ zs.length ∧ i = .int .i64 k ∧ ∃ m : Int, s = .int .i64 m ∧ 0 ≤ m ∧ m ≤ 500000 * (k : Int) ∧ Hid (m = (zs.take k).sum)) (fun _ i => zs.length - (intOf i).toNat)
  case atStart => exact ⟨0, Nat.zero_le _, rfl, 0, rfl, by omega, by omega, by unfold Hid; simp⟩
  case round =>
    obtain ⟨k, hk, rfl, m, rfl, hm0, hm1, hs⟩ := hrel
    by_cases hlt : k < zs.length
    · obtain ⟨x, hx⟩ := getOf hlt
      obtain ⟨b, off, rfl, hc⟩ := h.cell hx
      obtain ⟨hx0, hx1⟩ := inB_iff.1 (List.all_eq_true.1 HZ.out x (List.mem_of_getElem? hx))
      have HX := Lib.hid hx; clear hx
      go_wp2
      go_round
      case rel => exact ⟨k + 1, by omega, by go_num, m + x, rfl, by omega, by omega, by unfold Hid; rw [sum_snoc HX.out, hs.out]⟩
      case measure => simp [intOf]; omega
    · go_wp2
      go_ret
      obtain rfl : k = zs.length := by omega
      exact ⟨ret_int (by rw [hs.out, List.take_length]), rfl⟩
theorem repL : ∀ n, Lib.repeatL [(48 : UInt8)] n = List.replicate n 48
  | 0 => rfl
  | n + 1 => by rw [Lib.repeatL, repL n, List.replicate_succ]; rfl
theorem repeat0_any (n : Nat) (hn : n ≤ 1000000) (w : World) : Calls Try.prog 90 #[.string ⟨#[48]⟩, .int .i64 (n : Int)] w fun e w' => e = .returned (.string ⟨(List.replicate n (48 : UInt8)).toArray⟩) ∧ Below w.heap.size w w' := by
  have h := Try.strings_Repeat ⟨#[48]⟩ n w (by omega) (by show 1 * n ≤ _; omega)
  rw [show (⟨#[48]⟩ : ByteArray).data.toList = [(48 : UInt8)] from rfl, repL] at h
  exact h
set_option maxHeartbeats 16000000 in
theorem recoverCells_any (cl f : Int) (a : Option Addr) (cap : Nat) (zs : List Int) (c l h p s : Int) (hl : zs.length ≤ 1048576) (w : World) (hs : SlA w a zs) :
    Calls Try.prog 41 #[.agg #[.int .i64 cl, .int .i64 f, .slice a zs.length cap], .agg #[.int .i64 c, .int .i64 l, .int .i64 h, .int .i64 p, .int .i64 s]] w fun e w' => e = .returned (.tuple #[.string (rcV cl f zs c l h p s), .int .i64 (rcCode cl f zs c l h p s)]) ∧ Below w.heap.size w w' := by
  have RG := Lib.hid (fun w' (hb : Below w.heap.size w w') => readGaps_L cl f a cap zs c l h p s hl w' (hs.below hb (Nat.le_refl _)))
  have HB0 := Lib.hid (show Below w.heap.size w ((w.alloc (.cells #[.int .i64 cl, .int .i64 f, .slice a zs.length cap] 57)).alloc (.cells #[.int .i64 c, .int .i64 l, .int .i64 h, .int .i64 p, .int .i64 s] 59)) from ((Below.refl _ _).alloc (Nat.le_refl _) _).alloc (by simp) _)
  by_cases h0 : ckCode cl f zs c l h p s = 0
  case neg =>
    have hres : ckRes cl f zs c l h p s = [] := by unfold ckRes; rw [if_neg h0]
    obtain ⟨r1, r2⟩ := rc_bad h0
    rw [r1, r2]
    rw [hres] at RG
    clear r1 r2
    generalize ckCode cl f zs c l h p s = code at *
    have hcb : (code == 0) = false := by rw [beq_eq_false_iff_ne]; exact h0
    clear hres hs
    go_enter Try.func41, Try.ntmps41
    go_wp2_with fail
    refine (RG.out _ HB0.out).mono ?_
    rintro e w1 ⟨a1, rfl, hso, hb1⟩
    have HB1 := Lib.hid (HB0.out.trans (hb1.mono (by simp; omega)))
    clear hso hb1
    go_wp2
    go_ret2
    exact ⟨rfl, HB1.out⟩
  have hres : ckRes cl f zs c l h p s = ckL c l h p s f zs := by unfold ckRes; rw [if_pos h0]
  obtain ⟨hnb, hl0, hl5, hn1, hn4, hf0, hc4⟩ := ckNs_bd h0
  have RF := Lib.hid (fun h1 => rc_full h0 h1)
  have RD := Lib.hid (fun h1 => rc_good h0 h1)
  rw [h0, hres] at RG
  generalize rcCode cl f zs c l h p s = rcode at *
  generalize rcV cl f zs c l h p s = rv at *
  have hNl := ckNs_len c l h p s f zs zs.length
  have HLL := Lib.hid (ckL_len c l h p s f zs)
  have HAT := Lib.hid (fun k (hk : k < zs.length) => And.intro (ckL_at c l h p s f zs hk) (ckNs_at c l h p s f zs hk))
  generalize ckNs c l h p s f zs zs.length = NS at *
  generalize ckL c l h p s f zs = LL at *
  have hld : f.tdiv c = f / c := Int.tdiv_eq_ediv_of_nonneg hf0
  obtain ⟨ld, hldd⟩ : ∃ ld, f.tdiv c = ld := ⟨_, rfl⟩
  rw [hldd] at RF RD hl0 hl5
  have hZB := zB_rc (lead := ld) (ns := NS) hl0 hl5 hnb
  obtain ⟨xl, hxl⟩ := getOf (zs := NS) (k := zs.length - 1) (by omega)
  have hxb := hnb xl (List.mem_of_getElem? hxl)
  have HT := Lib.hid (show rcTail ld NS = max (xl - 1 - ld) 0 by unfold rcTail; rw [hNl, List.getD_eq_getElem?_getD, hxl]; rfl)
  have HNB := Lib.hid hnb
  have hc0 : ¬ c = 0 := by omega
  clear h0 hres hs hld hnb
  generalize zs.length = n at *
  obtain ⟨m, rfl⟩ : ∃ m, n = m + 1 := ⟨n - 1, by omega⟩
  simp only [Nat.add_sub_cancel] at hxl
  go_enter Try.func41, Try.ntmps41
  go_wp2_with fail
  refine (RG.out _ HB0.out).mono ?_
  rintro e w1 ⟨a1, rfl, hso, hb1⟩
  rw [HLL.out]
  have hS := Lib.hid hso.within.sl
  have hz1 := hb1.size
  simp at hz1
  have HB1 := Lib.hid (HB0.out.trans (hb1.mono (by simp; omega)))
  have bF := ((FluxAt.new w cl f a (m + 1) cap 57 _ rfl).below ((Below.refl _ _).alloc (Nat.le_refl _) (.cells #[.int .i64 c, .int .i64 l, .int .i64 h, .int .i64 p, .int .i64 s] 59)) (by simp)).below hb1 (by simp; omega)
  have bC := (BoxAt.new (w.alloc (.cells #[.int .i64 cl, .int .i64 f, .slice a (m + 1) cap] 57)) #[.int .i64 c, .int .i64 l, .int .i64 h, .int .i64 p, .int .i64 s] 59 (w.heap.size + 1) (by simp)).below hb1 (by simp)
  have x1 := bF.2.1
  have y0 := bC 0 _ rfl
  obtain ⟨g1, rest1, rfl, hg1, hg2, hh1⟩ : ∃ g rest, a1 = some ⟨g, 0, none⟩ ∧ w.heap.size ≤ g ∧ g < w1.heap.size ∧ w1.heap[g]? = some (.cells ((LL.map rowGap).flatten.toArray ++ rest) 127 (0, 0)) := by
    rcases hso with rfl | ⟨g, rest, e1, e2, e3, e4⟩
    · have := HLL.out; simp at this
    · exact ⟨g, rest, e1, by simp at e2; omega, e3, e4⟩
  clear hso hb1 bF bC hh1
  go_wp2
  go_loopw [9, 11, 38] (fun v _ i wr => ∃ k : Nat, k ≤ m ∧ i = .int .i64 k ∧ Hid (OwnI wr w1.heap.size v (rcZ ld NS k)) ∧ Below w1.heap.size w1 wr ∧ w1.heap.size < wr.heap.size) (fun _ _ i _ => m - (intOf i).toNat)
  case atStart => exact ⟨0, Nat.zero_le _, rfl, Lib.hid (OwnI.single w1 ld _ (Nat.le_refl _)), (Below.refl _ _).alloc (Nat.le_refl _) _, by simp⟩
  case round =>
    obtain ⟨k, hk, rfl, hO, hb, hgt⟩ := hrel
    by_cases hlt : k < m
    · obtain ⟨hx, hy⟩ := HAT.out k (by omega)
      have hNb := HNB.out _ (List.mem_of_getElem? hy)
      have hzs := rcZ_succ (lead := ld) hy
      have hzl := rcZ_len (lead := ld) (ns := NS) (k := k) (by omega)
      generalize ckN c l h p s f zs k = N at hx hy hNb hzs
      generalize ckE c l h p s f zs k = E at hx
      obtain ⟨b, off, e9, hbl, hc⟩ := (hS.out.below hb (Nat.le_refl _)).at rowGap_len hx
      cases e9
      have c0 : wr.cell? ⟨g1, 0 + k * 2, none⟩ = some (.int .i64 N) := hc 0 _ rfl
      have c1 : wr.cell? ⟨g1, 0 + k * 2 + 1, none⟩ = some (.int .i64 E) := hc 1 _ rfl
      rw [Nat.zero_add] at c0 c1
      have hnew := Lib.hid (show ((wr.alloc (.cells #[.int .i64 N, .int .i64 E] 127)).alloc (.cells #[.int .i64 (N - 1)] 2)).heap[wr.heap.size + 1]? = some (.cells #[.int .i64 (N - 1)] 2 (0, 0)) from (show (wr.alloc (.cells #[.int .i64 N, .int .i64 E] 127)).heap.size = wr.heap.size + 1 by simp) ▸ heap_alloc_new (wr.alloc (.cells #[.int .i64 N, .int .i64 E] 127)) (.cells #[.int .i64 (N - 1)] 2))
      have hwN : IntKind.i64.wrap (N - 1) = N - 1 := IntWalk.i64_in _ (by omega)
      have HB2 := Lib.hid ((hb.alloc (by omega) (.cells #[.int .i64 N, .int .i64 E] 127)).alloc (by simp; omega) (.cells #[.int .i64 (N - 1)] 2))
      have hll : (rcZ ld NS k).length < 1073741824 := by omega
      have HX := Lib.hid (And.intro hzs hzl)
      clear hc hx hy hbl hNb hzs hzl
      go_wp2_with (at_builtin; refine wpList_appendI 138 Try.underlying138 rfl _ _ rfl rfl ((hO.out.alloc _).alloc _) (N - 1) ⟨wr.heap.size + 1, 0, none⟩ 1 rfl (World.news_of_block (cs := #[.int .i64 (N - 1)]) (t := 2) (fr := (0, 0)) hnew.out) hll (by simp; omega) ?_; intro g cap2 w2 D1 hb2 h4)
      go_roundw
      case rel =>
        refine ⟨k + 1, by omega, by go_num, ?_, HB2.out.trans hb2, ?_⟩
        · rw [HX.out.1]; exact Lib.hid D1
        · have h9 := hb2.size; simp at h9; omega
      case measure => simp [intOf]; omega
    · obtain rfl : k = m := by omega
      obtain ⟨hx, hy⟩ := HAT.out k (by omega)
      rw [hxl] at hy
      injection hy with hy
      rw [← hy] at hx
      clear hy
      generalize ckE c l h p s f zs k = E at hx
      obtain ⟨b, off, e9, hbl, hc⟩ := (hS.out.below hb (Nat.le_refl _)).at rowGap_len hx
      cases e9
      have c0 : wr.cell? ⟨g1, 0 + k * 2, none⟩ = some (.int .i64 xl) := hc 0 _ rfl
      rw [Nat.zero_add] at c0
      have hzl := rcZ_len (lead := ld) (ns := NS) (k := k) (by omega)
      have hZk := hZB k
      have hsb := sumZ_bd hZk (k + 1)
      rw [List.take_of_length_le (by omega)] at hsb
      have hrs : rcSum ld NS = (rcZ ld NS k).sum + (k + 1 : Nat) + max (xl - 1 - ld) 0 := by unfold rcSum; rw [HT.out, hNl]; rfl
      have hro : rcOut ld NS = ⟨(rcB (rcZ ld NS k) ++ List.replicate (max (xl - 1 - ld) 0).toNat 48).toArray⟩ := by unfold rcOut; rw [HT.out, hNl]; rfl
      rw [hrs] at RF RD
      generalize rcZ ld NS k = Z at *
      obtain ⟨az, cz, rfl, hsz⟩ := hO.out.slO
      rw [hzl]
      have SU := Lib.hid (sumZ_any az Z cz wr (by omega) hZk hsz.sl)
      rw [hzl] at SU
      have hw1 : IntKind.i64.wrap (xl - 1) = xl - 1 := IntWalk.i64_in _ (by omega)
      have hw2 : IntKind.i64.wrap (xl - 1 - ld) = xl - 1 - ld := IntWalk.i64_in _ (by omega)
      clear hc hx hrs
      generalize hSm : Z.sum = sm at *
      have HBW := Lib.hid (HB1.out.trans (hb.mono (by omega)))
      have HZS := Lib.hid hsz.sl
      clear hsz hO
      by_cases hbig : 8000 < sm + ((k + 1 : Nat) : Int) + max (xl - 1 - ld) 0
      · obtain ⟨r1, r2⟩ := RF.out hbig
        subst r1 r2
        go_wp2_with fail
        refine SU.out.mono ?_
        rintro e w2 ⟨rfl, rfl⟩
        go_wp2
        go_ret2
        exact ⟨rfl, HBW.out⟩
      · obtain ⟨r1, r2⟩ := RD.out (by omega)
        subst r1
        have HRV := Lib.hid r2
        clear r2 RD RF
        obtain ⟨tl, htl⟩ : ∃ tl : Nat, max (xl - 1 - ld) 0 = (tl : Int) := ⟨(max (xl - 1 - ld) 0).toNat, by omega⟩
        have htl0 : tl ≤ 8000 := by omega
        go_wp2_with fail
        refine SU.out.mono ?_
        rintro e w2 ⟨rfl, rfl⟩
        go_wp2
        obtain ⟨W0, hW0⟩ : ∃ W0, W0 = wr := ⟨_, rfl⟩
        subst hW0
        go_loopw [15, 70] (fun _ i W => ∃ (j : Nat) (L : List UInt8), j ≤ k + 1 ∧ i = .int .i64 j ∧ Hid (L = rcB (Z.take j)) ∧ L.length ≤ 500001 * j ∧ Bld W0.heap.size W0.heap.size L W ∧ Below W0.heap.size W0 W) (fun _ i _ => k + 1 - (intOf i).toNat)
        case atStart => exact ⟨0, [], Nat.zero_le _, rfl, by unfold Hid; rfl, by simp, Bld.fresh W0, (Below.refl _ _).alloc (Nat.le_refl _) _⟩
        case round =>
          obtain ⟨j, L, hj, rfl, hL, hLl, hBd, hb2⟩ := hrel
          by_cases hjl : j < k + 1
          · obtain ⟨z, hz⟩ := getOf (zs := Z) (k := j) (by omega)
            obtain ⟨b2, off2, e9, hcz⟩ := (HZS.out.below hb2 (Nat.le_refl _)).cell hz
            subst e9
            have hzb := inB_iff.1 (List.all_eq_true.1 hZk z (List.mem_of_getElem? hz))
            obtain ⟨zn, rfl⟩ : ∃ zn : Nat, z = zn := ⟨z.toNat, by omega⟩
            have hLn := Lib.hid (show L ++ (⟨(List.replicate zn (48 : UInt8)).toArray⟩ : ByteArray).data.toList ++ [(49 : Int).toNat.toUInt8] = rcB (Z.take (j + 1)) by
              rw [List.take_add_one, hz, Option.toList_some, rcB_snoc, ← hL.out, List.append_assoc]; rfl)
            have hLn2 := rcB_len hZk (j + 1)
            rw [← hLn.out] at hLn2
            have RP := Lib.hid (fun w' => repeat0_any zn (by omega) w')
            have hrs : (⟨(List.replicate zn (48 : UInt8)).toArray⟩ : ByteArray).size = zn := by show (List.replicate zn (48 : UInt8)).toArray.size = zn; simp
            generalize (⟨(List.replicate zn (48 : UInt8)).toArray⟩ : ByteArray) = rs at *
            have hl1 : L.length + rs.size < 2147483648 := by omega
            have hl2 : (L ++ rs.data.toList).length < 2147483648 := by
              have : rs.data.toList.length = rs.size := by simp
              rw [List.length_append, this]; omega
            clear hz hzb
            have hjk : (j : Int) < (k : Int) + 1 := by omega
            go_wp2_with fail
            refine (RP.out _).mono ?_
            rintro e w3 ⟨rfl, hb3⟩
            have hz2 := hb2.size
            have hz3 := hb3.size
            have Bd3 := hBd.same (fun q _ hq => hb3.block q hq)
            have HB3 := Lib.hid (hb2.trans (hb3.mono hz2))
            go_wp2_with (first
              | (go_at_call 89; refine (writeString_any W0.heap.size W0.heap.size L rs _ Bd3 hl1 (by omega)).mono ?_; rintro e w4 ⟨rfl, Bd4, hb4⟩; have hz4 := hb4.size)
              | (go_at_call 91; refine (writeByte_any W0.heap.size W0.heap.size (L ++ rs.data.toList) 49 _ (by omega) (by omega) Bd4 hl2 (by omega)).mono ?_; rintro e w5 ⟨rfl, Bd5, hb5⟩))
            go_roundw
            case rel =>
              rw [hLn.out] at Bd5 hLn2
              exact ⟨j + 1, rcB (Z.take (j + 1)), by omega, by go_num, by unfold Hid; rfl, hLn2, Bd5, HB3.out.trans (hb4.trans hb5)⟩
            case measure => simp [intOf]; omega
          · obtain rfl : j = k + 1 := by omega
            have hLL2 : L = rcB Z := by rw [hL.out, List.take_of_length_le (by omega)]
            have RP := Lib.hid (fun w' => repeat0_any tl (by omega) w')
            have hrs : (⟨(List.replicate tl (48 : UInt8)).toArray⟩ : ByteArray).size = tl := by show (List.replicate tl (48 : UInt8)).toArray.size = tl; simp
            have hrd : (⟨(List.replicate tl (48 : UInt8)).toArray⟩ : ByteArray).data.toList = List.replicate tl 48 := rfl
            generalize (⟨(List.replicate tl (48 : UInt8)).toArray⟩ : ByteArray) = rs at *
            have hl1 : L.length + rs.size < 2147483648 := by omega
            have HS8 : (L ++ rs.data.toList).length < 2147483648 := by
              have : rs.data.toList.length = rs.size := by simp
              rw [List.length_append, this]; omega
            have HF := Lib.hid (show (⟨(L ++ rs.data.toList).toArray⟩ : ByteArray) = rcOut ld NS by rw [hro, hLL2, hrd, htl, Int.toNat_natCast])
            clear hro hrd HT hLL2 hL
            go_wp2_with fail
            refine (RP.out _).mono ?_
            rintro e w3 ⟨rfl, hb3⟩
            have hz2 := hb2.size
            have hz3 := hb3.size
            have Bd3 := hBd.same (fun q _ hq => hb3.block q hq)
            have HB3 := Lib.hid (hb2.trans (hb3.mono hz2))
            go_wp2_with (first
              | (go_at_call 89; refine (writeString_any W0.heap.size W0.heap.size L rs _ Bd3 hl1 (by omega)).mono ?_; rintro e w4 ⟨rfl, Bd4, hb4⟩; have hz4 := hb4.size)
              | (go_at_call 92; refine (Try.Builder_String_any W0.heap.size W0.heap.size (L ++ rs.data.toList) _ Bd4 (by omega)).mono ?_; rintro e w5 ⟨rfl, hb5⟩))
            go_ret2
            refine ⟨?_, HBW.out.trans ((HB3.out.trans (hb4.trans hb5)).mono HBW.out.size)⟩
            rw [HRV.out, ← HF.out]
            rfl
end Go.Proofs.Ytdoledckkbcihaa
