/- spec.AllBlocks -/
import Derived.Test.YtjnabncfkogigaaPkAllBlocksAllBlk
import Derived.Test.YtjnabncfkogigaaPkAllBlocksDevBlkSp
namespace Go.Proofs.Ytjnabncfkogigaa
open Go.RowKit
set_option linter.unusedVariables false
set_option linter.unusedSimpArgs false
set_option maxRecDepth 20000
set_option maxHeartbeats 8000000 in
theorem specAllBlocks_any (x : DeviceV) (s0 s1 : Option Addr) (c0 c1 : Nat) (hL : LenDevice 1048576 x) (hV : StrDevice 1048576 x) (w : World) (h : SlDevice w s0 s1 x) :
    Calls Try.prog 34 #[.agg #[.int .i64 x.f0.f0, .int .i64 x.f0.f1, .int .i64 x.f0.f2, .int .i64 x.f0.f3, .slice s0 x.f0.f4.length c0, .int .i64 x.f1, .int .i64 x.f2, .slice s1 x.f3.length c1]] w (AllRes (allV x) (lostV x) (allC x) w) := by
  have OK := Lib.hid (fun w' p (hb : Below w.heap.size w w') hp => l15Ok_any x s0 s1 c0 c1 p hL hV w' hp (h.below hb (Nat.le_refl _)))
  by_cases hdv : devB x = true
  case neg =>
    have hd0 : devB x = false := by simpa using hdv
    unfold allV lostV allC
    rw [hd0] at OK ⊢
    simp only [Bool.false_eq_true, if_false]
    clear hd0 hdv h hL hV
    go_enter Try.func34, Try.ntmps34
    go_wp2_with fail
    refine (OK.out _ _ (by go_grown) (BoxAt.new w _ 34 _ rfl)).mono ?_
    rintro e w1 ⟨rfl, hb1⟩
    have FB := Lib.hid (show Below w.heap.size w w1 from Below.trans (by go_grown) (hb1.mono (by simp)))
    clear hb1
    go_wp2
    go_ret3
    exact ⟨_, _, _, _, rfl, .inl rfl, .inl rfl, (FB.out.alloc FB.out.size _).alloc (by have := FB.out.size; simp; omega) _⟩
  unfold allV lostV allC
  rw [hdv] at OK ⊢
  simp only [if_true]
  obtain ⟨n, hn1, hn2, hn3, hall⟩ := devB_size hdv
  have hgz := (geoB_iff.1 (devB_facts hdv).2.1).2.2.2
  have h02 : inB 0 2 x.f0.f3 = true := inB_iff.2 hgz
  obtain ⟨b, o, b2, o2, rfl, rfl, hbl, hbl2, HAT⟩ := dev_at hdv h
  have RD := Lib.hid (fun e w => l15Readable_any e w)
  have BY := Lib.hid (fun w => l12Bytes_any x.f0.f3 n w h02 hn1)
  have ZE := Lib.hid (fun w => l01Zeros_any n (by omega) w)
  have SZ := Lib.hid (fun e (he : e ∈ x.f0.f4) => (hall e he).1)
  have hm3 : x.f3.length ≤ 1048576 := hL.2
  clear hn1 hn2 hn3 hall hgz h02 hdv h hL hV
  go_enter Try.func34, Try.ntmps34
  have HA := Lib.hid (BoxAt.new w #[.int .i64 x.f0.f0, .int .i64 x.f0.f1, .int .i64 x.f0.f2, .int .i64 x.f0.f3, .slice (some ⟨b, o, none⟩) x.f0.f4.length c0, .int .i64 x.f1, .int .i64 x.f2, .slice (some ⟨b2, o2, none⟩) x.f3.length c1] 34 _ rfl)
  go_wp2_with fail
  refine (OK.out _ _ (by go_grown) (BoxAt.new w _ 34 _ rfl)).mono ?_
  rintro e w1 ⟨rfl, hb1⟩
  replace HA := Lib.hid (HA.out.below hb1 (by simp))
  have FB := Lib.hid (show Below w.heap.size w w1 from Below.trans (by go_grown) (hb1.mono (by simp)))
  have hz1 : w.heap.size < w1.heap.size := Nat.lt_of_lt_of_le (by simp) hb1.size
  clear hb1
  have a3 := HA.out 3 _ rfl
  have a4 := HA.out 4 _ rfl
  have a7 := HA.out 7 _ rfl
  go_wp2
  go_loopw [5, 6, 7] (fun u v i wr => ∃ k : Nat, k ≤ x.f3.length ∧ i = .int .i64 (k : Int) ∧ OwnR rowString 9 1 wr w1.heap.size u (allL x k) ∧ OwnI wr w1.heap.size v (lostL x k) ∧ Below w1.heap.size w1 wr) (fun _ _ i _ => x.f3.length - (intOf i).toNat)
  case atStart => exact ⟨0, Nat.zero_le _, rfl, (OwnR.empty _ _ (Nat.le_refl _)).alloc _, by have h0 := OwnI.empty (w1.alloc (.cells #[] 9)) w1.heap.size (by simp); have e0 : (w1.alloc (.cells #[] 9)).heap.size = w1.heap.size + 1 := (by simp); rw [e0] at h0; exact h0, ((Below.refl _ _).alloc (Nat.le_refl _) _).alloc (by simp) _⟩
  case round =>
    obtain ⟨k, hk, rfl, hown, howi, hb⟩ := hrel
    have b7 : wr.cell? ⟨w.heap.size, 7, none⟩ = some (.slice (some ⟨b2, o2, none⟩) x.f3.length c1) := by rw [hb.cell (p := ⟨w.heap.size, 7, none⟩) hz1]; exact a7
    by_cases hlt : k < x.f3.length
    · obtain ⟨i, hil, d2, d0, d1, hmem⟩ := HAT.out wr (FB.out.trans (hb.mono FB.out.size)) k hlt
      have b4 : wr.cell? ⟨w.heap.size, 4, none⟩ = some (.slice (some ⟨b, o, none⟩) x.f0.f4.length c0) := by rw [hb.cell (p := ⟨w.heap.size, 4, none⟩) hz1]; exact a4
      have b3 : wr.cell? ⟨w.heap.size, 3, none⟩ = some (.int .i64 x.f0.f3) := by rw [hb.cell (p := ⟨w.heap.size, 3, none⟩) hz1]; exact a3
      have hll : (allL x k).length < 1073741824 := by rw [allL_len]; omega
      have hll2 : (lostL x k).length < 1073741824 := by have := lostL_len x k; omega
      have hzb := hb.size
      have hsz := SZ.out _ hmem
      have RR := Lib.hid (RD.out (allE x k))
      have HAL := Lib.hid (show allL x (k + 1) = allL x k ++ [⟨contV (allE x k)⟩] from rfl)
      have LG := Lib.hid (fun h => lostL_good (x := x) (k := k) h)
      have LB := Lib.hid (fun h => lostL_bad (x := x) (k := k) h)
      generalize allL x k = l at *
      generalize lostL x k = z at *
      generalize allE x k = e at *
      have HSZ := Lib.hid hsz
      have HB := Lib.hid hb; clear hb hmem hsz
      have ei : (i : Int) < (x.f0.f4.length : Int) := by omega
      have ek : (k : Int) < (x.f3.length : Int) := by omega
      have hwb : w.heap.size < wr.heap.size := by omega
      have hbr : b < wr.heap.size := World.block_lt_of_cell? wr _ d0
      have hbr2 : b2 < wr.heap.size := World.block_lt_of_cell? wr _ d2
      have KX := Lib.hid (fun w' (hb : Below wr.heap.size wr w') => (show w'.cell? ⟨w.heap.size, 4, none⟩ = some (.slice (some ⟨b, o, none⟩) x.f0.f4.length c0) ∧ w'.cell? ⟨w.heap.size, 7, none⟩ = some (.slice (some ⟨b2, o2, none⟩) x.f3.length c1) ∧ w'.cell? ⟨b2, o2 + k, none⟩ = some (.int .i64 (i : Int)) ∧ w'.cell? ⟨b, o + i * 2, none⟩ = some (.string e.f0) ∧ w'.cell? ⟨b, o + i * 2 + 1, none⟩ = some (.int .i64 e.f1) from ⟨by rw [hb.cell (p := ⟨w.heap.size, 4, none⟩) hwb]; exact b4, by rw [hb.cell (p := ⟨w.heap.size, 7, none⟩) hwb]; exact b7, by rw [hb.cell (p := ⟨b2, o2 + k, none⟩) hbr2]; exact d2, by rw [hb.cell (p := ⟨b, o + i * 2, none⟩) hbr]; exact d0, by rw [hb.cell (p := ⟨b, o + i * 2 + 1, none⟩) hbr]; exact d1⟩))
      go_upto_region 8 with (fail)
      have HC := Lib.hid (show Below wr.heap.size wr wr.drew from (Below.refl _ _).drew)
      refine wp_region_held_drew (S := (fun w' => w'.cell? ⟨w.heap.size, 4, none⟩ = some (.slice (some ⟨b, o, none⟩) x.f0.f4.length c0) ∧ w'.cell? ⟨w.heap.size, 7, none⟩ = some (.slice (some ⟨b2, o2, none⟩) x.f3.length c1) ∧ w'.cell? ⟨b2, o2 + k, none⟩ = some (.int .i64 (i : Int)) ∧ w'.cell? ⟨b, o + i * 2, none⟩ = some (.string e.f0) ∧ w'.cell? ⟨b, o + i * 2 + 1, none⟩ = some (.int .i64 e.f1))) (by kernel_rfl) (KX.out _ HC.out) (fun hHeld => ?_)
      refine wpAnyH_take (i := 0) (oi := { dst := some 22, op := Op.fieldAddr 34 (Operand.tmp 1) 0, type := 0, pos := "l15_blocks.go:131", after := #[], guard := none }) (v := ?_) rfl (by kernel_rfl) (by kernel_rfl) (by kernel_rfl) (fun _ _ _ h => h) (Or.inl ⟨by rfl, ?hy⟩) hHeld ?_
      case hy => (intro w' hSw; (try dsimp only at hSw); go_simp; try with_reducible rfl)
      simp only [Act.put, List.setIfInBounds_toArray, List.set_cons_zero, List.set_cons_succ]
      refine wpAnyH_take (i := 1) (oi := { dst := some 23, op := Op.fieldAddr 32 (Operand.tmp 22) 4, type := 0, pos := "l15_blocks.go:131", after := #[{ on := 0, ground := Ground.data }], guard := none }) (v := ?_) rfl (by kernel_rfl) (by kernel_rfl) (by kernel_rfl) (fun _ _ _ h => h) (Or.inl ⟨by rfl, ?hy⟩) hHeld ?_
      case hy => (intro w' hSw; (try dsimp only at hSw); go_simp; try with_reducible rfl)
      simp only [Act.put, List.setIfInBounds_toArray, List.set_cons_zero, List.set_cons_succ]
      refine wpAnyH_take (i := 2) (oi := { dst := some 24, op := Op.load 30 (Operand.tmp 23), type := 30, pos := "l15_blocks.go:131", after := #[{ on := 1, ground := Ground.data }], guard := none }) (v := ?_) rfl (by kernel_rfl) (by kernel_rfl) (by kernel_rfl) (fun _ _ _ h => h) (Or.inl ⟨by rfl, ?hy⟩) hHeld ?_
      case hy => (intro w' hSw; (try dsimp only at hSw); go_simp; try with_reducible rfl)
      simp only [Act.put, List.setIfInBounds_toArray, List.set_cons_zero, List.set_cons_succ]
      refine wpAnyH_take (i := 3) (oi := { dst := some 25, op := Op.fieldAddr 34 (Operand.tmp 1) 3, type := 0, pos := "l15_blocks.go:131", after := #[], guard := none }) (v := ?_) rfl (by kernel_rfl) (by kernel_rfl) (by kernel_rfl) (fun _ _ _ h => h) (Or.inl ⟨by rfl, ?hy⟩) hHeld ?_
      case hy => (intro w' hSw; (try dsimp only at hSw); go_simp; try with_reducible rfl)
      simp only [Act.put, List.setIfInBounds_toArray, List.set_cons_zero, List.set_cons_succ]
      refine wpAnyH_take (i := 4) (oi := { dst := some 26, op := Op.load 25 (Operand.tmp 25), type := 25, pos := "l15_blocks.go:131", after := #[{ on := 3, ground := Ground.data }], guard := none }) (v := ?_) rfl (by kernel_rfl) (by kernel_rfl) (by kernel_rfl) (fun _ _ _ h => h) (Or.inl ⟨by rfl, ?hy⟩) hHeld ?_
      case hy => (intro w' hSw; (try dsimp only at hSw); go_simp; try with_reducible rfl)
      simp only [Act.put, List.setIfInBounds_toArray, List.set_cons_zero, List.set_cons_succ]
      refine wpAnyH_take (i := 5) (oi := { dst := some 27, op := Op.move (Operand.tmp 7), type := 3, pos := "l15_blocks.go:131", after := #[], guard := none }) (v := ?_) rfl (by kernel_rfl) (by kernel_rfl) (by kernel_rfl) (fun _ _ _ h => h) (Or.inl ⟨by rfl, ?hy⟩) hHeld ?_
      case hy => (intro w' hSw; (try dsimp only at hSw); go_simp; try with_reducible rfl)
      simp only [Act.put, List.setIfInBounds_toArray, List.set_cons_zero, List.set_cons_succ]
      refine wpAnyH_take (i := 6) (oi := { dst := some 28, op := Op.indexAddr 25 (Operand.tmp 26) (Operand.tmp 27), type := 0, pos := "l15_blocks.go:131", after := #[{ on := 4, ground := Ground.data }, { on := 5, ground := Ground.data }], guard := none }) (v := ?_) rfl (by kernel_rfl) (by kernel_rfl) (by kernel_rfl) (fun _ _ _ h => h) (Or.inl ⟨by rfl, ?hy⟩) hHeld ?_
      case hy => (intro w' hSw; (try dsimp only at hSw); go_simp; try with_reducible rfl)
      simp only [Act.put, List.setIfInBounds_toArray, List.set_cons_zero, List.set_cons_succ]
      refine wpAnyH_take (i := 7) (oi := { dst := some 29, op := Op.load 2 (Operand.tmp 28), type := 2, pos := "l15_blocks.go:131", after := #[{ on := 6, ground := Ground.data }], guard := none }) (v := ?_) rfl (by kernel_rfl) (by kernel_rfl) (by kernel_rfl) (fun _ _ _ h => h) (Or.inl ⟨by rfl, ?hy⟩) hHeld ?_
      case hy => (intro w' hSw; (try dsimp only at hSw); go_simp; try with_reducible rfl)
      simp only [Act.put, List.setIfInBounds_toArray, List.set_cons_zero, List.set_cons_succ]
      refine wpAnyH_take (i := 8) (oi := { dst := some 30, op := Op.indexAddr 30 (Operand.tmp 24) (Operand.tmp 29), type := 0, pos := "l15_blocks.go:131", after := #[{ on := 2, ground := Ground.data }, { on := 7, ground := Ground.data }], guard := none }) (v := ?_) rfl (by kernel_rfl) (by kernel_rfl) (by kernel_rfl) (fun _ _ _ h => h) (Or.inl ⟨by rfl, ?hy⟩) hHeld ?_
      case hy => (intro w' hSw; (try dsimp only at hSw); go_simp; try with_reducible rfl)
      simp only [Act.put, List.setIfInBounds_toArray, List.set_cons_zero, List.set_cons_succ]
      refine wpAnyH_take (i := 9) (oi := { dst := some 31, op := Op.load 84 (Operand.tmp 30), type := 84, pos := "l15_blocks.go:131", after := #[{ on := 8, ground := Ground.data }], guard := none }) (v := ?_) rfl (by kernel_rfl) (by kernel_rfl) (by kernel_rfl) (fun _ _ _ h => h) (Or.inl ⟨by rfl, ?hy⟩) hHeld ?_
      case hy => (intro w' hSw; (try dsimp only at hSw); go_simp; try with_reducible rfl)
      simp only [Act.put, List.setIfInBounds_toArray, List.set_cons_zero, List.set_cons_succ]
      refine wpAnyH_ready (rs := [10]) (by kernel_rfl) (by simp) ?_
      refine AllReadyH.cons (o := { dst := some 8, op := Op.alloc 84, type := 0, pos := "l15_blocks.go:131", after := #[], guard := none }) rfl (fun K hK => ?_) AllReadyH.nil
      go_simp
      refine hK.out _ _ (KX.out _ (HC.out.alloc HC.out.size _)) (fun hHeld => ?_)
      clear hK K
      try simp only [Act.put, List.setIfInBounds_toArray, List.set_cons_zero, List.set_cons_succ]
      refine wpAnyH_ready (rs := [11]) (by kernel_rfl) (by simp) ?_
      refine AllReadyH.cons (o := { dst := none, op := Op.store 84 (Operand.tmp 8) (Operand.tmp 31), type := 0, pos := "l15_blocks.go:131", after := #[{ on := 10, ground := Ground.data }, { on := 9, ground := Ground.data }, { on := 0, ground := Ground.phase }, { on := 1, ground := Ground.phase }, { on := 2, ground := Ground.phase }, { on := 3, ground := Ground.phase }, { on := 4, ground := Ground.phase }, { on := 5, ground := Ground.phase }, { on := 6, ground := Ground.phase }, { on := 7, ground := Ground.phase }, { on := 8, ground := Ground.phase }, { on := 9, ground := Ground.phase }, { on := 10, ground := Ground.phase }], guard := none }) rfl (fun K hK => ?_) AllReadyH.nil
      go_simp
      refine hK.out _ _ (KX.out _ (HC.out.alloc HC.out.size _)) (fun hHeld => ?_)
      clear hK K
      try simp only [Act.put, List.setIfInBounds_toArray, List.set_cons_zero, List.set_cons_succ]
      refine wpAnyH_done (by kernel_rfl) ?_ _
      have FB3 := Lib.hid (show Below wr.heap.size wr (wr.alloc (.cells #[.string e.f0, .int .i64 e.f1] 84)).drew from HC.out.alloc HC.out.size _)
      have BX := Lib.hid (show BoxAt (wr.alloc (.cells #[.string e.f0, .int .i64 e.f1] 84)).drew wr.heap.size #[.string e.f0, .int .i64 e.f1] from (BoxAt.new wr #[.string e.f0, .int .i64 e.f1] 84 _ rfl).drew)
      have hzn : wr.heap.size < (wr.alloc (.cells #[.string e.f0, .int .i64 e.f1] 84)).drew.heap.size := by show wr.heap.size < (wr.alloc _).heap.size; simp
      generalize (wr.alloc (.cells #[.string e.f0, .int .i64 e.f1] 84)).drew = wq at *
      have hown1 := hown.below FB3.out
      have howi1 := howi.below' FB3.out
      have q0 := BX.out 0 _ rfl
      have q1 := BX.out 1 _ rfl
      clear hown howi b7 b4 b3 d0 d1 d2 KX hHeld
      go_wp2_with fail
      refine (RR.out _).mono ?_
      rintro e_ w2 ⟨rfl, hb2⟩
      have hown2 := hown1.below hb2
      have howi2 := howi1.below' hb2
      have p0 : w2.cell? ⟨wr.heap.size, 0, none⟩ = some (.string e.f0) := by rw [hb2.cell (p := ⟨wr.heap.size, 0, none⟩) hzn]; exact q0
      have HB2 := Lib.hid (HB.out.trans ((FB3.out.trans (hb2.mono FB3.out.size)).mono hzb))
      have hz2 : w1.heap.size ≤ w2.heap.size := HB2.out.size
      have z3 : w2.cell? ⟨w.heap.size, 3, none⟩ = some (.int .i64 x.f0.f3) := by rw [HB2.out.cell (p := ⟨w.heap.size, 3, none⟩) hz1]; exact a3
      clear hown1 howi1 q0 q1 BX hb2 FB3 HC HB
      obtain ⟨q, hq⟩ : ∃ q, goodS e = q := ⟨_, rfl⟩
      have HQ := Lib.hid hq
      rw [hq]
      clear hq
      cases q
      · have HCV := Lib.hid (show contV e = zerosS n by unfold contV; rw [HQ.out]; simp [HSZ.out])
        rw [HCV.out] at HAL
        go_wp2_with fail
        refine (BY.out _).mono ?_
        rintro e_ w3 ⟨rfl, rfl⟩
        go_wp2_with fail
        refine (ZE.out _).mono ?_
        rintro e_ w3 ⟨rfl, hb3⟩
        have hown3 := hown2.below hb3
        have howi3 := howi2.below' hb3
        have hz3 := hb3.size
        have HB3 := Lib.hid (HB2.out.trans (hb3.mono hz2))
        clear hown2 howi2 hb3 p0 z3
        go_wp2_with (at_builtin; first | (refine wpList_appendR 48 9 (.string ByteArray.empty) 16 Try.underlying48 infoString rfl (by omega) (by omega) rfl _ _ rfl rfl (hown3.alloc _) ⟨zerosS n⟩ rfl (by intro u hu; simp only [rowString, List.mem_singleton] at hu; subst hu; rfl) ⟨w3.heap.size, 0, none⟩ 1 rfl (World.news_of_block (cs := #[.string (zerosS n)]) (t := 9) (fr := (0, 0)) (heap_alloc_new w3 _)) hll (by simp; omega) ?_; intro g cap w4 hown4 hgr hb4; have howi4 := ownsRow_other (by decide) (howi3.alloc _) (hown3.alloc _) hgr; have HB4 := Lib.hid (HB3.out.trans (((Below.refl _ _).alloc (by omega) _).trans hb4)); have hz4 := HB4.out.size; clear hgr hb4) | (refine wpList_appendIg 25 Try.underlying25 rfl _ _ rfl rfl (OwnI.alloc (v := _) (l := z) howi4 _) (k : Int) ⟨w4.heap.size, 0, none⟩ 1 rfl (World.news_of_block (cs := #[.int .i64 (k : Int)]) (t := 2) (fr := (0, 0)) (heap_alloc_new w4 _)) hll2 (by simp; omega) ?_; intro g5 cap5 w5 howi5 hgr5 hb5; have hown5 := ownsRow_other (by decide) (hown4.alloc _) (OwnI.alloc (v := _) (l := z) howi4 _) hgr5; clear hgr5))
        go_roundw
        case rel => exact ⟨k + 1, by omega, by go_num, by rw [HAL.out]; unfold OwnR; simpa using hown5, by rw [LB.out HQ.out]; simpa using howi5, HB4.out.trans (((Below.refl _ _).alloc (by omega) _).trans hb5)⟩
        case measure => simp [intOf]; omega
      · have HCV := Lib.hid (show contV e = e.f0 by unfold contV; rw [HQ.out]; simp)
        rw [HCV.out] at HAL
        go_wp2_with (at_builtin; refine wpList_appendR 48 9 (.string ByteArray.empty) 16 Try.underlying48 infoString rfl (by omega) (by omega) rfl _ _ rfl rfl (hown2.alloc _) ⟨e.f0⟩ rfl (by intro u hu; simp only [rowString, List.mem_singleton] at hu; subst hu; rfl) ⟨w2.heap.size, 0, none⟩ 1 rfl (World.news_of_block (cs := #[.string e.f0]) (t := 9) (fr := (0, 0)) (heap_alloc_new w2 _)) hll (by simp; omega) ?_; intro g cap w4 hown4 hgr hb4)
        have howi4 := ownsRow_other (by decide) (howi2.alloc _) (hown2.alloc _) hgr
        clear hgr
        go_roundw
        case rel => exact ⟨k + 1, by omega, by go_num, by rw [HAL.out]; simpa using hown4, by rw [LG.out HQ.out]; exact howi4, HB2.out.trans (((Below.refl _ _).alloc (by omega) _).trans hb4)⟩
        case measure => simp [intOf]; omega
    · obtain rfl : k = x.f3.length := by omega
      obtain ⟨a, ca, rfl, hsa⟩ := hown.slSI
      obtain ⟨d, cd, rfl, hsd⟩ := howi.slO
      have HB := Lib.hid hb; clear hb
      go_wp2
      go_ret3
      exact ⟨a, ca, d, cd, rfl, hsa.mono FB.out.size (Nat.le_refl _), hsd.mono FB.out.size, FB.out.trans (HB.out.mono FB.out.size)⟩
end Go.Proofs.Ytjnabncfkogigaa
