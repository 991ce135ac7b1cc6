/- spec.l16Sizes, l16Head, l16Shape -/
import Derived.Test.YtpdodpnhohmjaaaGreatDoorPkGoneBlocksF
import Derived.Lib.AppendStr
namespace Go.Proofs.YtpdodpnhohmjaaaGreatDoor
open Go.RowKit
set_option maxRecDepth 20000
set_option linter.unusedVariables false
set_option linter.unusedSimpArgs false
set_option maxRecDepth 20000
theorem wrap_nat {q : Nat} (h : q ≤ 1000000) : IntKind.i64.wrap (q : Int) = (q : Int) ∧ wrap64 (q : Int) = (q : Int) := ⟨IntWalk.i64_in _ (by omega), by unfold wrap64; omega⟩
theorem wrap_add {a b : Nat} (h : a + b ≤ 1000000) : IntKind.i64.wrap ((a : Int) + (b : Int)) = (a : Int) + (b : Int) := IntWalk.i64_in _ (by omega)
theorem l00Min_any (a b : Int) (h : b ≤ a) (w : World) :
    Calls Tryz.prog 50 #[.int .i64 a, .int .i64 b] w fun e w' => e = .returned (.int .i64 b) ∧ w = w' := by
  by_cases hab : a < b
  · omega
  · go_enter Tryz.func50, Tryz.ntmps50
    go_wp2
    go_ret
    exact ⟨rfl, rfl⟩
set_option maxHeartbeats 4000000 in
theorem l16Sizes_any (n z : Nat) (w : World) (hz : 0 < z) (hz2 : z ≤ 1000) (hn : n ≤ 128) :
    Calls Tryz.prog 32 #[.int .i64 (n : Int), .int .i64 (z : Int)] w fun e w' => e = .returned (.agg #[.int .i64 (n : Int), .int .i64 (z : Int), .int .i64 ((n / 8 : Nat) : Int), .int .i64 (chDir n z : Int), .int .i64 (chData n z : Int)]) ∧ Below w.heap.size w w' := by
  have MN := Lib.hid (fun w => l00Min_any 16 ((n / 8 : Nat) : Int) (by omega) w)
  have e0 : Int.tdiv (n : Int) 8 = ((n / 8 : Nat) : Int) := by rw [Int.tdiv_eq_ediv_of_nonneg (by omega)]; rfl
  have e2 : ¬ (z : Int) = 0 := by omega
  have e2b : ((z : Int) == 0) = false := by simp; omega
  have a1 : (n : Int) + (z : Int) - 1 = ((n + z - 1 : Nat) : Int) := by omega
  have a2 : Int.tdiv ((n + z - 1 : Nat) : Int) (z : Int) = (((n + z - 1) / z : Nat) : Int) := by rw [Int.tdiv_eq_ediv_of_nonneg (by omega)]; exact (Int.natCast_ediv _ _).symm
  have b0 : ((n / 8 : Nat) : Int) * 12 = ((n / 8 * 12 : Nat) : Int) := by omega
  have b1 : ((n / 8 * 12 : Nat) : Int) + (z : Int) - 1 = ((n / 8 * 12 + z - 1 : Nat) : Int) := by omega
  have b2 : Int.tdiv ((n / 8 * 12 + z - 1 : Nat) : Int) (z : Int) = (((n / 8 * 12 + z - 1) / z : Nat) : Int) := by rw [Int.tdiv_eq_ediv_of_nonneg (by omega)]; exact (Int.natCast_ediv _ _).symm
  have hq : (n + z - 1) / z ≤ 1000000 := Nat.le_trans (Nat.div_le_self _ _) (by omega)
  have hq2 : (n / 8 * 12 + z - 1) / z ≤ 1000000 := Nat.le_trans (Nat.div_le_self _ _) (by omega)
  have hr0 : n / 8 * 12 ≤ 1000000 := by omega
  have hr1 : n / 8 * 12 + z - 1 ≤ 1000000 := by omega
  have hr2 : n / 8 * 12 + z ≤ 1000000 := by omega
  have he : n / 8 ≤ 1000000 := by omega
  have e4 : (1 : Int) + (((n + z - 1) / z : Nat) : Int) = (chDir n z : Int) := by unfold chDir; omega
  have e5 : (chDir n z : Int) + (((n / 8 * 12 + z - 1) / z : Nat) : Int) = (chData n z : Int) := by unfold chData; omega
  have hd2 : chData n z ≤ 1000000 := by
    unfold chData chDir
    have h1 : (n + z - 1) / z ≤ 2000 := Nat.le_trans (Nat.div_le_self _ _) (by omega)
    have h2 : (n / 8 * 12 + z - 1) / z ≤ 2000 := Nat.le_trans (Nat.div_le_self _ _) (by omega)
    omega
  have c1 := (wrap_nat hq).1
  have c1b := (wrap_nat hq).2
  have c2 := (wrap_nat hq2).1
  have c2b := (wrap_nat hq2).2
  have c3 := (wrap_nat hr0).1
  have c4 := (wrap_nat hd2).1
  have c5 := wrap_add hr2
  have c6 := (wrap_nat hr1).1
  have c7 := (wrap_nat he).2
  have c8 := (wrap_nat (show chDir n z ≤ 1000000 from Nat.le_trans (Nat.le_add_right _ _) hd2)).2
  clear hq hq2 hr0 hr1 hr2 he hd2
  generalize (n + z - 1) / z = q1 at *
  generalize (n / 8 * 12 + z - 1) / z = q2 at *
  obtain ⟨r2, hr2e⟩ : ∃ r, n / 8 * 12 + z - 1 = r := ⟨_, rfl⟩
  rw [hr2e] at b1 b2 c6
  clear hr2e
  obtain ⟨r1, hr1e⟩ : ∃ r, n + z - 1 = r := ⟨_, rfl⟩
  rw [hr1e] at a1 a2
  clear hr1e
  obtain ⟨r, hre⟩ : ∃ r, n / 8 * 12 = r := ⟨_, rfl⟩
  rw [hre] at b0 b1 c3 c5
  clear hre
  generalize n / 8 = e at *
  generalize chDir n z = d at *
  generalize chData n z = dd at *
  have HBF := Lib.hid (And.intro b0 (And.intro b1 (And.intro b2 (And.intro e5 (And.intro c2 (And.intro c2b (And.intro c3 (And.intro c4 (And.intro c5 c6)))))))))
  clear b0 b1 b2 e5 c2 c2b c3 c4 c5 c6
  go_enter Tryz.func32, Tryz.ntmps32
  go_wp2_with fail
  refine (MN.out _).mono ?_
  rintro e w1 ⟨rfl, rfl⟩
  go_upto_region 4 with (fail)
  have R1 := Lib.hid ((BoxF.new w #[.int .i64 0, .int .i64 0, .int .i64 0, .int .i64 0, .int .i64 0] 40 _ rfl).below ((Below.refl (w.alloc (.cells #[.int .i64 0, .int .i64 0, .int .i64 0, .int .i64 0, .int .i64 0] 40)).heap.size (w.alloc (.cells #[.int .i64 0, .int .i64 0, .int .i64 0, .int .i64 0, .int .i64 0] 40))).alloc (Nat.le_refl _) (.cells #[.int .i64 (n : Int), .int .i64 (z : Int), .int .i64 (e : Int), .int .i64 (d : Int), .int .i64 0] 40)) (by simp))
  have R2 := Lib.hid (BoxF.new (w.alloc (.cells #[.int .i64 0, .int .i64 0, .int .i64 0, .int .i64 0, .int .i64 0] 40)) #[.int .i64 (n : Int), .int .i64 (z : Int), .int .i64 (e : Int), .int .i64 (d : Int), .int .i64 0] 40 (w.heap.size + 1) (by simp))
  have FB := Lib.hid (((Below.refl w.heap.size w).alloc (Nat.le_refl _) (.cells #[.int .i64 0, .int .i64 0, .int .i64 0, .int .i64 0, .int .i64 0] 40)).alloc (by simp) (.cells #[.int .i64 (n : Int), .int .i64 (z : Int), .int .i64 (e : Int), .int .i64 (d : Int), .int .i64 0] 40))
  have hlt : w.heap.size + 1 < ((w.alloc (.cells #[.int .i64 0, .int .i64 0, .int .i64 0, .int .i64 0, .int .i64 0] 40)).alloc (.cells #[.int .i64 (n : Int), .int .i64 (z : Int), .int .i64 (e : Int), .int .i64 (d : Int), .int .i64 0] 40)).heap.size := by simp
  generalize (w.alloc (.cells #[.int .i64 0, .int .i64 0, .int .i64 0, .int .i64 0, .int .i64 0] 40)).alloc (.cells #[.int .i64 (n : Int), .int .i64 (z : Int), .int .i64 (e : Int), .int .i64 (d : Int), .int .i64 0] 40) = W at *
  have HBX := Lib.hid (fun w' (hb : Below W.heap.size W w') => R2.out.below hb hlt)
  have HC := Lib.hid (show Below W.heap.size W W.drew from (Below.refl _ _).drew)
  obtain ⟨b0, b1, b2, e5, c2, c2b, c3, c4, c5, c6⟩ := HBF.out
  have hz0 : ¬ z = 0 := by omega
  clear a1 a2 c1 c1b e4 e0
  refine wp_region_held_drew (S := (fun w' => w'.cell? ⟨w.heap.size + 1, 2, none⟩ = some (.int .i64 (e : Int)) ∧ w'.cell? ⟨w.heap.size + 1, 3, none⟩ = some (.int .i64 (d : Int)))) (by kernel_rfl) ⟨(HBX.out _ HC.out 2 _ rfl).1, (HBX.out _ HC.out 3 _ rfl).1⟩ (fun hHeld => ?_)
  refine wpAnyH_take (i := 0) (oi := { dst := some 21, op := Op.fieldAddr 40 (Operand.tmp 5) 3, type := 0, pos := "l16_chains.go:16", after := #[], guard := none }) (v := ?_) rfl (by kernel_rfl) (by kernel_rfl) (by kernel_rfl) (fun _ _ _ h => h) (Or.inl ⟨by rfl, ?hy⟩) hHeld ?_
  case hy => (intro w' hSw; (try dsimp only at hSw); go_simp; try with_reducible rfl)
  simp only [Act.put, List.setIfInBounds_toArray, List.set_cons_zero, List.set_cons_succ]
  refine wpAnyH_take (i := 1) (oi := { dst := some 22, op := Op.load 2 (Operand.tmp 21), type := 2, pos := "l16_chains.go:16", after := #[{ on := 0, ground := Ground.data }], guard := none }) (v := ?_) rfl (by kernel_rfl) (by kernel_rfl) (by kernel_rfl) (fun _ _ _ h => h) (Or.inl ⟨by rfl, ?hy⟩) hHeld ?_
  case hy => (intro w' hSw; (try dsimp only at hSw); go_simp; try with_reducible rfl)
  simp only [Act.put, List.setIfInBounds_toArray, List.set_cons_zero, List.set_cons_succ]
  refine wpAnyH_take (i := 2) (oi := { dst := some 23, op := Op.fieldAddr 40 (Operand.tmp 5) 2, type := 0, pos := "l16_chains.go:16", after := #[], guard := none }) (v := ?_) rfl (by kernel_rfl) (by kernel_rfl) (by kernel_rfl) (fun _ _ _ h => h) (Or.inl ⟨by rfl, ?hy⟩) hHeld ?_
  case hy => (intro w' hSw; (try dsimp only at hSw); go_simp; try with_reducible rfl)
  simp only [Act.put, List.setIfInBounds_toArray, List.set_cons_zero, List.set_cons_succ]
  refine wpAnyH_take (i := 3) (oi := { dst := some 24, op := Op.load 2 (Operand.tmp 23), type := 2, pos := "l16_chains.go:16", after := #[{ on := 2, ground := Ground.data }], guard := none }) (v := ?_) rfl (by kernel_rfl) (by kernel_rfl) (by kernel_rfl) (fun _ _ _ h => h) (Or.inl ⟨by rfl, ?hy⟩) hHeld ?_
  case hy => (intro w' hSw; (try dsimp only at hSw); go_simp; try with_reducible rfl)
  simp only [Act.put, List.setIfInBounds_toArray, List.set_cons_zero, List.set_cons_succ]
  refine wpAnyH_take (i := 4) (oi := { dst := some 25, op := Op.binOp BinOp.mul 2 (Operand.tmp 24) (Operand.const (Value.int IntKind.i64 12)) 2, type := 2, pos := "l16_chains.go:16", after := #[{ on := 3, ground := Ground.data }], guard := none }) (v := ?_) rfl (by kernel_rfl) (by kernel_rfl) (by kernel_rfl) (fun _ _ _ h => h) (Or.inl ⟨by rfl, ?hy⟩) hHeld ?_
  case hy => (intro w' hSw; (try dsimp only at hSw); go_simp; try with_reducible rfl)
  simp only [Act.put, List.setIfInBounds_toArray, List.set_cons_zero, List.set_cons_succ]
  refine wpAnyH_take (i := 5) (oi := { dst := some 26, op := Op.move (Operand.tmp 1), type := 2, pos := "l16_chains.go:16", after := #[], guard := none }) (v := ?_) rfl (by kernel_rfl) (by kernel_rfl) (by kernel_rfl) (fun _ _ _ h => h) (Or.inl ⟨by rfl, ?hy⟩) hHeld ?_
  case hy => (intro w' hSw; (try dsimp only at hSw); go_simp; try with_reducible rfl)
  simp only [Act.put, List.setIfInBounds_toArray, List.set_cons_zero, List.set_cons_succ]
  refine wpAnyH_take (i := 6) (oi := { dst := some 27, op := Op.binOp BinOp.add 2 (Operand.tmp 25) (Operand.tmp 26) 2, type := 2, pos := "l16_chains.go:16", after := #[{ on := 4, ground := Ground.data }, { on := 5, ground := Ground.data }], guard := none }) (v := ?_) rfl (by kernel_rfl) (by kernel_rfl) (by kernel_rfl) (fun _ _ _ h => h) (Or.inl ⟨by rfl, ?hy⟩) hHeld ?_
  case hy => (intro w' hSw; (try dsimp only at hSw); go_simp; try with_reducible rfl)
  simp only [Act.put, List.setIfInBounds_toArray, List.set_cons_zero, List.set_cons_succ]
  refine wpAnyH_take (i := 7) (oi := { dst := some 28, op := Op.binOp BinOp.sub 2 (Operand.tmp 27) (Operand.const (Value.int IntKind.i64 1)) 2, type := 2, pos := "l16_chains.go:16", after := #[{ on := 6, ground := Ground.data }], guard := none }) (v := ?_) rfl (by kernel_rfl) (by kernel_rfl) (by kernel_rfl) (fun _ _ _ h => h) (Or.inl ⟨by rfl, ?hy⟩) hHeld ?_
  case hy => (intro w' hSw; (try dsimp only at hSw); go_simp; try with_reducible rfl)
  simp only [Act.put, List.setIfInBounds_toArray, List.set_cons_zero, List.set_cons_succ]
  refine wpAnyH_take (i := 8) (oi := { dst := some 29, op := Op.move (Operand.tmp 1), type := 2, pos := "l16_chains.go:16", after := #[], guard := none }) (v := ?_) rfl (by kernel_rfl) (by kernel_rfl) (by kernel_rfl) (fun _ _ _ h => h) (Or.inl ⟨by rfl, ?hy⟩) hHeld ?_
  case hy => (intro w' hSw; (try dsimp only at hSw); go_simp; try with_reducible rfl)
  simp only [Act.put, List.setIfInBounds_toArray, List.set_cons_zero, List.set_cons_succ]
  refine wpAnyH_take (i := 9) (oi := { dst := some 30, op := Op.binOp BinOp.quo 2 (Operand.tmp 28) (Operand.tmp 29) 2, type := 2, pos := "l16_chains.go:16", after := #[{ on := 7, ground := Ground.data }, { on := 8, ground := Ground.data }], guard := none }) (v := ?_) rfl (by kernel_rfl) (by kernel_rfl) (by kernel_rfl) (fun _ _ _ h => h) (Or.inl ⟨by rfl, ?hy⟩) hHeld ?_
  case hy => (intro w' hSw; (try dsimp only at hSw); go_simp; try with_reducible rfl)
  simp only [Act.put, List.setIfInBounds_toArray, List.set_cons_zero, List.set_cons_succ]
  refine wpAnyH_take (i := 10) (oi := { dst := some 31, op := Op.binOp BinOp.add 2 (Operand.tmp 22) (Operand.tmp 30) 2, type := 2, pos := "l16_chains.go:16", after := #[{ on := 1, ground := Ground.data }, { on := 9, ground := Ground.data }], guard := none }) (v := ?_) rfl (by kernel_rfl) (by kernel_rfl) (by kernel_rfl) (fun _ _ _ h => h) (Or.inl ⟨by rfl, ?hy⟩) hHeld ?_
  case hy => (intro w' hSw; (try dsimp only at hSw); go_simp; try with_reducible rfl)
  simp only [Act.put, List.setIfInBounds_toArray, List.set_cons_zero, List.set_cons_succ]
  refine wpAnyH_take (i := 11) (oi := { dst := some 32, op := Op.fieldAddr 40 (Operand.tmp 5) 4, type := 0, pos := "l16_chains.go:16", after := #[{ on := 0, ground := Ground.phase }, { on := 1, ground := Ground.phase }, { on := 2, ground := Ground.phase }, { on := 3, ground := Ground.phase }, { on := 4, ground := Ground.phase }, { on := 5, ground := Ground.phase }, { on := 6, ground := Ground.phase }, { on := 7, ground := Ground.phase }, { on := 8, ground := Ground.phase }, { on := 9, ground := Ground.phase }, { on := 10, ground := Ground.phase }], guard := none }) (v := ?_) rfl (by kernel_rfl) (by kernel_rfl) (by kernel_rfl) (fun _ _ _ h => h) (Or.inl ⟨by rfl, ?hy⟩) hHeld ?_
  case hy => (intro w' hSw; (try dsimp only at hSw); go_simp; try with_reducible rfl)
  simp only [Act.put, List.setIfInBounds_toArray, List.set_cons_zero, List.set_cons_succ]
  refine wpAnyH_ready (rs := [12]) (by kernel_rfl) (by simp) ?_
  refine AllReadyH.cons (o := { dst := none, op := Op.store 2 (Operand.tmp 32) (Operand.tmp 31), type := 0, pos := "l16_chains.go:16", after := #[{ on := 11, ground := Ground.data }, { on := 10, ground := Ground.data }, { on := 0, ground := Ground.phase }, { on := 1, ground := Ground.phase }, { on := 2, ground := Ground.phase }, { on := 3, ground := Ground.phase }, { on := 4, ground := Ground.phase }, { on := 5, ground := Ground.phase }, { on := 6, ground := Ground.phase }, { on := 7, ground := Ground.phase }, { on := 8, ground := Ground.phase }, { on := 9, ground := Ground.phase }, { on := 10, ground := Ground.phase }], guard := none }) rfl (fun K hK => ?_) AllReadyH.nil
  obtain ⟨a4, z4⟩ := HBX.out _ HC.out 4 _ rfl
  go_simp
  refine hK.out _ _ ⟨((HBX.out _ HC.out).put 4 (.int .i64 (dd : Int)) (by simp) 2 _ rfl).1, ((HBX.out _ HC.out).put 4 (.int .i64 (dd : Int)) (by simp) 3 _ rfl).1⟩ (fun hHeld => ?_)
  clear hK K
  try simp only [Act.put, List.setIfInBounds_toArray, List.set_cons_zero, List.set_cons_succ]
  refine wpAnyH_done (by kernel_rfl) ?_ _
  have R3 : BoxF (W.setCell ⟨w.heap.size + 1, 4, none⟩ (.int .i64 (dd : Int))).drew (w.heap.size + 1) #[.int .i64 (n : Int), .int .i64 (z : Int), .int .i64 (e : Int), .int .i64 (d : Int), .int .i64 (dd : Int)] := (HBX.out _ HC.out).put 4 (.int .i64 (dd : Int)) (by simp)
  have R4 : BoxF (W.setCell ⟨w.heap.size + 1, 4, none⟩ (.int .i64 (dd : Int))).drew w.heap.size #[.int .i64 0, .int .i64 0, .int .i64 0, .int .i64 0, .int .i64 0] := R1.out.kept (heap_setCell_ne _ _ _ _ _ (by omega))
  replace FB := Lib.hid (show Below w.heap.size w (W.setCell ⟨w.heap.size + 1, 4, none⟩ (.int .i64 (dd : Int))).drew from (FB.out.setCell (p := ⟨w.heap.size + 1, 4, none⟩) (show w.heap.size ≤ w.heap.size + 1 by omega) _).drew)
  clear HBX HC R1 R2 hHeld
  try clear a4 z4
  generalize (W.setCell ⟨w.heap.size + 1, 4, none⟩ (.int .i64 (dd : Int))).drew = W2 at *
  obtain ⟨x0, _⟩ := R3 0 _ rfl; obtain ⟨x1, _⟩ := R3 1 _ rfl; obtain ⟨x2, _⟩ := R3 2 _ rfl; obtain ⟨x3, _⟩ := R3 3 _ rfl; obtain ⟨x4, _⟩ := R3 4 _ rfl
  obtain ⟨a0, z0⟩ := R4 0 _ rfl; obtain ⟨a1, z1⟩ := R4 1 _ rfl; obtain ⟨a2, z2⟩ := R4 2 _ rfl; obtain ⟨a3, z3⟩ := R4 3 _ rfl; obtain ⟨a4, z4⟩ := R4 4 _ rfl
  go_wp2
  refine bodyPost_ret (v := .agg #[.int .i64 (n : Int), .int .i64 (z : Int), .int .i64 (e : Int), .int .i64 (d : Int), .int .i64 (dd : Int)]) (by simp [results, Tryz.results32, go_sem, a0, a1, a2, a3, a4]) rfl ⟨rfl, ?_⟩
  exact ((((FB.out.setCell (by simp) _).setCell (by simp) _).setCell (by simp) _).setCell (by simp) _).setCell (by simp) _
theorem chStart_app (a b : UInt8) : (⟨#[67, 72]⟩ : ByteArray) ++ ⟨#[a, b]⟩ = ⟨#[67, 72, a, b]⟩ := by
  apply ByteArray.ext
  simp
set_option maxHeartbeats 2000000 in
theorem l16Head_any (n z : Nat) (d d2 : Int) (w : World) (hn : n ≤ 128) :
    Calls Tryz.prog 33 #[.agg #[.int .i64 (n : Int), .int .i64 (z : Int), .int .i64 ((n / 8 : Nat) : Int), .int .i64 d, .int .i64 d2]] w fun e w' => e = .returned (.string (chTop n)) ∧ Below w.heap.size w w' := by
  have hcb := chCrc_bd (chStart n)
  have CR := Lib.hid (fun w => specCrc16_any (chStart n) 65535 (by show 4 ≤ 1048576; omega) w)
  have PW := Lib.hid (fun w => specPutWord_yes (crcV (chStart n) 65535) w hcb.1 hcb.2)
  have hcv := fun W => conv_new2 W (n : Int) ((n / 8 : Nat) : Int) (by omega) (by omega) (by omega) (by omega)
  simp only [Int.toNat_natCast] at hcv
  have HL := Lib.hid (show (⟨#[67, 72]⟩ : ByteArray) ++ ⟨#[n.toUInt8, (n / 8).toUInt8]⟩ = chStart n from chStart_app _ _)
  have HT := Lib.hid (show chStart n ++ wordBytes (crcV (chStart n) 65535) = chTop n from rfl)
  have s4 : (chStart n).size = 4 := rfl
  have sw : (wordBytes (crcV (chStart n) 65535)).size = 2 := rfl
  generalize chTop n = top at *
  generalize chStart n = st at *
  generalize crcV st 65535 = cv at *
  generalize wordBytes cv = wb at *
  have h2 : (n : Int) < 256 := by omega
  have h3 : n / 8 < 256 := by omega
  generalize n / 8 = q8 at *
  have h4 : (q8 : Int) < 256 := by omega
  have s1 : (⟨#[67, 72]⟩ : ByteArray).size = 2 := rfl
  have f1 : (9223372036854775807 < (⟨#[67, 72]⟩ : ByteArray).size + (⟨#[n.toUInt8, q8.toUInt8]⟩ : ByteArray).size) = False := by rw [s1]; simp [show (⟨#[n.toUInt8, q8.toUInt8]⟩ : ByteArray).size = 2 from rfl]
  have f3 : (9223372036854775807 < st.size + wb.size) = False := by rw [s4, sw]; simp
  clear s1 s4 sw hcb
  generalize n.toUInt8 = u1 at *
  generalize q8.toUInt8 = u2 at *
  have hcw := hcv (w.alloc (.cells #[.int .i64 (n : Int), .int .i64 (z : Int), .int .i64 (q8 : Int), .int .i64 d, .int .i64 d2] 40))
  simp only [World.size_alloc] at hcw
  clear hcv
  go_enter Tryz.func33, Tryz.ntmps33
  go_wp2_with fail
  rw [HL.out]
  refine (CR.out _).mono ?_
  rintro e w1 ⟨rfl, rfl⟩
  go_wp2_with fail
  refine (PW.out _).mono ?_
  rintro e w2 ⟨rfl, hb2⟩
  have FB := Lib.hid (show Below w.heap.size w w2 from Below.trans (((Below.refl w.heap.size w).alloc (Nat.le_refl _) _).alloc (by simp) _) (hb2.mono (by simp; omega)))
  clear hb2
  go_wp2
  go_ret
  exact ⟨by rw [← HT.out]; rfl, FB.out⟩
set_option maxHeartbeats 1000000 in
theorem l16Shape_any (n z : Int) (w : World) :
    Calls Tryz.prog 31 #[.int .i64 n, .int .i64 z] w fun e w' => e = .returned (.bool (inB 8 128 n && sizeI z)) ∧ Below w.heap.size w w' := by
  have IN := Lib.hid (fun w => l00In_any n 8 128 w)
  have CT := Lib.hid (fun (W : World) (h : W = w.alloc (.cells #[.int .i64 8, .int .i64 16, .int .i64 32] 2)) => l00Has_any (some ⟨w.heap.size, 0, none⟩) [8, 16, 32] 3 z W (by decide) (.inr ⟨_, 0, rfl, by subst h; simp, by
    intro i x hx
    subst h
    match i, hx with
    | 0, hx => simp at hx; subst hx; simp [go_sem]
    | 1, hx => simp at hx; subst hx; simp [go_sem]
    | 2, hx => simp at hx; subst hx; simp [go_sem]⟩))
  have HS := Lib.hid (show hasB [8, 16, 32] z = sizeI z by unfold hasB sizeI; simp)
  rw [HS.out] at CT
  generalize inB 8 128 n = q at *
  cases q
  · go_enter Tryz.func31, Tryz.ntmps31
    go_wp2_with fail
    refine (IN.out _).mono ?_
    rintro e w1 ⟨rfl, rfl⟩
    go_wp2
    go_ret
    exact ⟨rfl, Below.refl _ _⟩
  · go_enter Tryz.func31, Tryz.ntmps31
    go_wp2_with fail
    refine (IN.out _).mono ?_
    rintro e w1 ⟨rfl, rfl⟩
    go_wp2_with fail
    refine (CT.out _ rfl).mono ?_
    rintro e w1 ⟨rfl, rfl⟩
    go_wp2
    go_ret
    exact ⟨rfl, (Below.refl _ _).alloc (Nat.le_refl _) _⟩
end Go.Proofs.YtpdodpnhohmjaaaGreatDoor
