/- impl.chainLayout, header of a disk with chains, impl.LayoutOf -/
import Derived.Test.YtpdodpnhohmjaaaGreatDoorPkGoneChainsChVal
import Derived.Test.YtpdodpnhohmjaaaGreatDoorPkGoneChainsExOn
import Derived.Test.YtpdodpnhohmjaaaGreatDoorPkGoneChainsBoxP
namespace Go.Proofs.YtpdodpnhohmjaaaGreatDoor
open Go.RowKit
set_option maxRecDepth 20000
set_option linter.unusedVariables false
set_option linter.unusedSimpArgs false
set_option maxRecDepth 20000
set_option maxHeartbeats 2000000 in
theorem chainLayout_any (n z : Nat) (w : World) (hz : 0 < z) (hz2 : z ≤ 1000) (hn : n ≤ 128) :
    Calls Tryz.prog 55 #[.int .i64 (n : Int), .int .i64 (z : Int)] w fun e w' => e = .returned (.agg #[.int .i64 (n : Int), .int .i64 (z : Int), .int .i64 ((n / 8 : Nat) : Int), .int .i64 (chDir n z : Int), .int .i64 (chData n z : Int)]) ∧ Below w.heap.size w w' := by
  have BF := Lib.hid (fun w => blocksFor_any n z w hz (by omega) (by omega))
  have BF2 := Lib.hid (fun w => blocksFor_any (n / 8 * 12) z w hz (by omega) (by omega))
  have hq : (n + z - 1) / z ≤ n + z - 1 := Nat.div_le_self _ _
  have hq2 : (n / 8 * 12 + z - 1) / z ≤ n / 8 * 12 + z - 1 := Nat.div_le_self _ _
  have e0 : Int.tdiv (n : Int) 8 = ((n / 8 : Nat) : Int) := by rw [Int.tdiv_eq_ediv_of_nonneg (by omega)]; rfl
  have e4 : (1 : Int) + (((n + z - 1) / z : Nat) : Int) = (chDir n z : Int) := by unfold chDir; omega
  have e5 : (chDir n z : Int) + (((n / 8 * 12 + z - 1) / z : Nat) : Int) = (chData n z : Int) := by unfold chData; omega
  have hd : chDir n z ≤ 2001 := by unfold chDir; omega
  have hd2 : chData n z ≤ 10001 := by unfold chData; omega
  have hq8 : n / 8 ≤ 16 := by omega
  have e3 : ((n / 8 : Nat) : Int) * 12 = ((n / 8 * 12 : Nat) : Int) := by omega
  generalize (n + z - 1) / z = q1 at *
  generalize (n / 8 * 12 + z - 1) / z = q2 at *
  generalize n / 8 * 12 = r at *
  generalize n / 8 = e at *
  generalize chDir n z = d at *
  generalize chData n z = dd at *
  have hm1 : min (16 : Int) (e : Int) = (e : Int) := by omega
  go_enter Tryz.func55, Tryz.ntmps55
  go_wp2_with fail
  refine (BF.out _).mono ?_
  rintro e w1 ⟨rfl, rfl⟩
  go_upto_region 3 with (fail)
  have R1 := Lib.hid ((BoxF.new w #[.int .i64 0, .int .i64 0, .int .i64 0, .int .i64 0, .int .i64 0] 40 _ rfl).below ((Below.refl (w.alloc (.cells #[.int .i64 0, .int .i64 0, .int .i64 0, .int .i64 0, .int .i64 0] 40)).heap.size (w.alloc (.cells #[.int .i64 0, .int .i64 0, .int .i64 0, .int .i64 0, .int .i64 0] 40))).alloc (Nat.le_refl _) (.cells #[.int .i64 (n : Int), .int .i64 (z : Int), .int .i64 (e : Int), .int .i64 (d : Int), .int .i64 0] 40)) (by simp))
  have R2 := Lib.hid (BoxF.new (w.alloc (.cells #[.int .i64 0, .int .i64 0, .int .i64 0, .int .i64 0, .int .i64 0] 40)) #[.int .i64 (n : Int), .int .i64 (z : Int), .int .i64 (e : Int), .int .i64 (d : Int), .int .i64 0] 40 (w.heap.size + 1) (by simp))
  have FB := Lib.hid (((Below.refl w.heap.size w).alloc (Nat.le_refl _) (.cells #[.int .i64 0, .int .i64 0, .int .i64 0, .int .i64 0, .int .i64 0] 40)).alloc (by simp) (.cells #[.int .i64 (n : Int), .int .i64 (z : Int), .int .i64 (e : Int), .int .i64 (d : Int), .int .i64 0] 40))
  have hlt : w.heap.size + 1 < ((w.alloc (.cells #[.int .i64 0, .int .i64 0, .int .i64 0, .int .i64 0, .int .i64 0] 40)).alloc (.cells #[.int .i64 (n : Int), .int .i64 (z : Int), .int .i64 (e : Int), .int .i64 (d : Int), .int .i64 0] 40)).heap.size := by simp
  generalize (w.alloc (.cells #[.int .i64 0, .int .i64 0, .int .i64 0, .int .i64 0, .int .i64 0] 40)).alloc (.cells #[.int .i64 (n : Int), .int .i64 (z : Int), .int .i64 (e : Int), .int .i64 (d : Int), .int .i64 0] 40) = W at *
  have hwr : IntKind.i64.wrap (r : Int) = (r : Int) := IntWalk.i64_in _ (by omega)
  have hwd : IntKind.i64.wrap (dd : Int) = (dd : Int) := IntWalk.i64_in _ (by omega)
  have HBX := Lib.hid (fun w' (hb : Below W.heap.size W w') => R2.out.below hb hlt)
  have HC := Lib.hid (show Below W.heap.size W W.drew from (Below.refl _ _).drew)
  refine wp_region_held_drew (S := (fun w' => w'.cell? ⟨w.heap.size + 1, 2, none⟩ = some (.int .i64 (e : Int)) ∧ w'.cell? ⟨w.heap.size + 1, 3, none⟩ = some (.int .i64 (d : Int)))) (by kernel_rfl) ⟨(HBX.out _ HC.out 2 _ rfl).1, (HBX.out _ HC.out 3 _ rfl).1⟩ (fun hHeld => ?_)
  refine wpAnyH_take (i := 0) (oi := { dst := some 17, op := Op.fieldAddr 40 (Operand.tmp 5) 3, type := 0, pos := "l16_chains.go:214", after := #[], guard := none }) (v := ?_) rfl (by kernel_rfl) (by kernel_rfl) (by kernel_rfl) (fun _ _ _ h => h) (Or.inl ⟨by rfl, ?hy⟩) hHeld ?_
  case hy => (intro w' hSw; (try dsimp only at hSw); go_simp; try with_reducible rfl)
  simp only [Act.put, List.setIfInBounds_toArray, List.set_cons_zero, List.set_cons_succ]
  refine wpAnyH_take (i := 1) (oi := { dst := some 18, op := Op.load 2 (Operand.tmp 17), type := 2, pos := "l16_chains.go:214", after := #[{ on := 0, ground := Ground.data }], guard := none }) (v := ?_) rfl (by kernel_rfl) (by kernel_rfl) (by kernel_rfl) (fun _ _ _ h => h) (Or.inl ⟨by rfl, ?hy⟩) hHeld ?_
  case hy => (intro w' hSw; (try dsimp only at hSw); go_simp; try with_reducible rfl)
  simp only [Act.put, List.setIfInBounds_toArray, List.set_cons_zero, List.set_cons_succ]
  refine wpAnyH_take (i := 2) (oi := { dst := some 19, op := Op.fieldAddr 40 (Operand.tmp 5) 2, type := 0, pos := "l16_chains.go:214", after := #[], guard := none }) (v := ?_) rfl (by kernel_rfl) (by kernel_rfl) (by kernel_rfl) (fun _ _ _ h => h) (Or.inl ⟨by rfl, ?hy⟩) hHeld ?_
  case hy => (intro w' hSw; (try dsimp only at hSw); go_simp; try with_reducible rfl)
  simp only [Act.put, List.setIfInBounds_toArray, List.set_cons_zero, List.set_cons_succ]
  refine wpAnyH_take (i := 3) (oi := { dst := some 20, op := Op.load 2 (Operand.tmp 19), type := 2, pos := "l16_chains.go:214", after := #[{ on := 2, ground := Ground.data }], guard := none }) (v := ?_) rfl (by kernel_rfl) (by kernel_rfl) (by kernel_rfl) (fun _ _ _ h => h) (Or.inl ⟨by rfl, ?hy⟩) hHeld ?_
  case hy => (intro w' hSw; (try dsimp only at hSw); go_simp; try with_reducible rfl)
  simp only [Act.put, List.setIfInBounds_toArray, List.set_cons_zero, List.set_cons_succ]
  refine wpAnyH_take (i := 4) (oi := { dst := some 21, op := Op.binOp BinOp.mul 2 (Operand.tmp 20) (Operand.const (Value.int IntKind.i64 12)) 2, type := 2, pos := "l16_chains.go:214", after := #[{ on := 3, ground := Ground.data }], guard := none }) (v := ?_) rfl (by kernel_rfl) (by kernel_rfl) (by kernel_rfl) (fun _ _ _ h => h) (Or.inl ⟨by rfl, ?hy⟩) hHeld ?_
  case hy => (intro w' hSw; (try dsimp only at hSw); go_simp; try with_reducible rfl)
  simp only [Act.put, List.setIfInBounds_toArray, List.set_cons_zero, List.set_cons_succ]
  refine wpAnyH_take (i := 5) (oi := { dst := some 22, op := Op.move (Operand.tmp 1), type := 2, pos := "l16_chains.go:214", after := #[], guard := none }) (v := ?_) rfl (by kernel_rfl) (by kernel_rfl) (by kernel_rfl) (fun _ _ _ h => h) (Or.inl ⟨by rfl, ?hy⟩) hHeld ?_
  case hy => (intro w' hSw; (try dsimp only at hSw); go_simp; try with_reducible rfl)
  simp only [Act.put, List.setIfInBounds_toArray, List.set_cons_zero, List.set_cons_succ]
  refine wpAnyH_ready (rs := [6]) (by kernel_rfl) (by simp) ?_
  refine AllReadyH.cons (o := { dst := some 23, op := Op.call { callee := Callee.value (Operand.func 41), args := #[Operand.tmp 21, Operand.tmp 22], argTypes := #[2, 2] }, type := 2, pos := "l16_chains.go:214", after := #[{ on := 4, ground := Ground.data }, { on := 5, ground := Ground.data }], guard := none }) rfl (fun K hK => ?_) AllReadyH.nil
  go_simp
  go_at_call 41; refine (BF2.out _).mono ?_; rintro e wk1 ⟨rfl, rfl⟩
  go_wp2_with fail
  refine hK.out _ _ ⟨(HBX.out _ HC.out 2 _ rfl).1, (HBX.out _ HC.out 3 _ rfl).1⟩ (fun hHeld => ?_)
  clear hK K
  try simp only [Act.put, List.setIfInBounds_toArray, List.set_cons_zero, List.set_cons_succ]
  refine wpAnyH_take (i := 7) (oi := { dst := some 24, op := Op.binOp BinOp.add 2 (Operand.tmp 18) (Operand.tmp 23) 2, type := 2, pos := "l16_chains.go:214", after := #[{ on := 1, ground := Ground.data }, { on := 6, ground := Ground.data }], guard := none }) (v := ?_) rfl (by kernel_rfl) (by kernel_rfl) (by kernel_rfl) (fun _ _ _ h => h) (Or.inl ⟨by rfl, ?hy⟩) hHeld ?_
  case hy => (intro w' hSw; (try dsimp only at hSw); go_simp; try with_reducible rfl)
  simp only [Act.put, List.setIfInBounds_toArray, List.set_cons_zero, List.set_cons_succ]
  refine wpAnyH_take (i := 8) (oi := { dst := some 25, op := Op.fieldAddr 40 (Operand.tmp 5) 4, type := 0, pos := "l16_chains.go:214", after := #[{ on := 0, ground := Ground.phase }, { on := 1, ground := Ground.phase }, { on := 2, ground := Ground.phase }, { on := 3, ground := Ground.phase }, { on := 4, ground := Ground.phase }, { on := 5, ground := Ground.phase }, { on := 6, ground := Ground.phase }, { on := 7, ground := Ground.phase }], guard := none }) (v := ?_) rfl (by kernel_rfl) (by kernel_rfl) (by kernel_rfl) (fun _ _ _ h => h) (Or.inl ⟨by rfl, ?hy⟩) hHeld ?_
  case hy => (intro w' hSw; (try dsimp only at hSw); go_simp; try with_reducible rfl)
  simp only [Act.put, List.setIfInBounds_toArray, List.set_cons_zero, List.set_cons_succ]
  refine wpAnyH_ready (rs := [9]) (by kernel_rfl) (by simp) ?_
  refine AllReadyH.cons (o := { dst := none, op := Op.store 2 (Operand.tmp 25) (Operand.tmp 24), type := 0, pos := "l16_chains.go:214", after := #[{ on := 8, ground := Ground.data }, { on := 7, ground := Ground.data }, { on := 6, ground := Ground.chain }, { on := 0, ground := Ground.phase }, { on := 1, ground := Ground.phase }, { on := 2, ground := Ground.phase }, { on := 3, ground := Ground.phase }, { on := 4, ground := Ground.phase }, { on := 5, ground := Ground.phase }, { on := 6, ground := Ground.phase }, { on := 7, ground := Ground.phase }], guard := none }) rfl (fun K hK => ?_) AllReadyH.nil
  obtain ⟨a4, z4⟩ := HBX.out _ HC.out 4 _ rfl
  go_simp
  refine hK.out _ _ ⟨((HBX.out _ HC.out).put 4 (.int .i64 (dd : Int)) (by simp) 2 _ rfl).1, ((HBX.out _ HC.out).put 4 (.int .i64 (dd : Int)) (by simp) 3 _ rfl).1⟩ (fun hHeld => ?_)
  clear hK K
  try simp only [Act.put, List.setIfInBounds_toArray, List.set_cons_zero, List.set_cons_succ]
  refine wpAnyH_done (by kernel_rfl) ?_ _
  have R3 : BoxF (W.setCell ⟨w.heap.size + 1, 4, none⟩ (.int .i64 (dd : Int))).drew (w.heap.size + 1) #[.int .i64 (n : Int), .int .i64 (z : Int), .int .i64 (e : Int), .int .i64 (d : Int), .int .i64 (dd : Int)] := (HBX.out _ HC.out).put 4 (.int .i64 (dd : Int)) (by simp)
  have R4 : BoxF (W.setCell ⟨w.heap.size + 1, 4, none⟩ (.int .i64 (dd : Int))).drew w.heap.size #[.int .i64 0, .int .i64 0, .int .i64 0, .int .i64 0, .int .i64 0] := R1.out.kept (heap_setCell_ne _ _ _ _ _ (by omega))
  replace FB := Lib.hid (show Below w.heap.size w (W.setCell ⟨w.heap.size + 1, 4, none⟩ (.int .i64 (dd : Int))).drew from (FB.out.setCell (p := ⟨w.heap.size + 1, 4, none⟩) (show w.heap.size ≤ w.heap.size + 1 by omega) _).drew)
  clear HBX HC R1 R2 hHeld
  try clear a4 z4
  try clear LD a2 z2 a3 z3
  generalize (W.setCell ⟨w.heap.size + 1, 4, none⟩ (.int .i64 (dd : Int))).drew = W2 at *
  obtain ⟨x0, _⟩ := R3 0 _ rfl; obtain ⟨x1, _⟩ := R3 1 _ rfl; obtain ⟨x2, _⟩ := R3 2 _ rfl; obtain ⟨x3, _⟩ := R3 3 _ rfl; obtain ⟨x4, _⟩ := R3 4 _ rfl
  obtain ⟨a0, z0⟩ := R4 0 _ rfl; obtain ⟨a1, z1⟩ := R4 1 _ rfl; obtain ⟨a2, z2⟩ := R4 2 _ rfl; obtain ⟨a3, z3⟩ := R4 3 _ rfl; obtain ⟨a4, z4⟩ := R4 4 _ rfl
  go_wp2
  refine bodyPost_ret (v := .agg #[.int .i64 (n : Int), .int .i64 (z : Int), .int .i64 (e : Int), .int .i64 (d : Int), .int .i64 (dd : Int)]) (by simp [results, Tryz.results55, go_sem, a0, a1, a2, a3, a4]) rfl ⟨rfl, ?_⟩
  exact ((((FB.out.setCell (by simp) _).setCell (by simp) _).setCell (by simp) _).setCell (by simp) _).setCell (by simp) _
theorem chStart_lit (a b : UInt8) : (⟨#[67, 72]⟩ : ByteArray) ++ ⟨#[a]⟩ ++ ⟨#[b]⟩ = ⟨#[67, 72, a, b]⟩ := by
  apply ByteArray.ext
  simp
set_option maxHeartbeats 2000000 in
theorem chHeader_any (n z : Nat) (d d2 : Int) (w : World) (hz : z = 8 ∨ z = 16 ∨ z = 32) (hn : n ≤ 128) :
    Calls Tryz.prog 56 #[.agg #[.int .i64 (n : Int), .int .i64 (z : Int), .int .i64 ((n / 8 : Nat) : Int), .int .i64 d, .int .i64 d2]] w fun e w' => e = .returned (.string (chHead n z)) ∧ Below w.heap.size w w' := by
  have B1 := Lib.hid (fun w => byteT_any n (by omega) w)
  have B3 := Lib.hid (fun w => byteT_any (n / 8) (by omega) w)
  have hcb := chCrc_bd (chStart n)
  have CR := Lib.hid (fun w => crc16_any (chStart n) 65535 (by show 4 ≤ 4096; omega) w)
  have PW := Lib.hid (fun w => putWord_yes (crcV (chStart n) 65535) w hcb.1 hcb.2)
  have PD := Lib.hid (fun w => padded_any (chTop n) z 0 w (by rw [chTop_size]; omega) (by omega))
  have HL := Lib.hid (show (⟨#[67, 72]⟩ : ByteArray) ++ ⟨#[n.toUInt8]⟩ ++ ⟨#[(n / 8).toUInt8]⟩ = chStart n from chStart_lit _ _)
  have HT := Lib.hid (show chStart n ++ wordBytes (crcV (chStart n) 65535) = chTop n from rfl)
  have s4 : (chStart n).size = 4 := rfl
  have sw : (wordBytes (crcV (chStart n) 65535)).size = 2 := rfl
  unfold chHead
  generalize chTop n = top at *
  generalize chStart n = st at *
  generalize crcV st 65535 = cv at *
  generalize wordBytes cv = wb at *
  generalize n.toUInt8 = u1 at *
  generalize n / 8 = q8 at *
  generalize q8.toUInt8 = u3 at *
  have s1 : (⟨#[67, 72]⟩ : ByteArray).size = 2 := rfl
  have s2 : ((⟨#[67, 72]⟩ : ByteArray) ++ ⟨#[u1]⟩).size = 3 := by rw [ByteArray.size_append]; rfl
  have f1 : (9223372036854775807 < (⟨#[67, 72]⟩ : ByteArray).size + (⟨#[u1]⟩ : ByteArray).size) = False := by rw [s1]; simp [show (⟨#[u1]⟩ : ByteArray).size = 1 from rfl]
  have f2 : (9223372036854775807 < ((⟨#[67, 72]⟩ : ByteArray) ++ ⟨#[u1]⟩).size + (⟨#[u3]⟩ : ByteArray).size) = False := by rw [s2]; simp [show (⟨#[u3]⟩ : ByteArray).size = 1 from rfl]
  have f3 : (9223372036854775807 < st.size + wb.size) = False := by rw [s4, sw]; simp
  clear s1 s2 s4 sw hcb
  go_enter Tryz.func56, Tryz.ntmps56
  go_wp2
  have BX := BoxAt.new w #[.int .i64 (n : Int), .int .i64 (z : Int), .int .i64 (q8 : Int), .int .i64 d, .int .i64 d2] 40 _ rfl
  generalize hW : w.alloc (.cells #[.int .i64 (n : Int), .int .i64 (z : Int), .int .i64 (q8 : Int), .int .i64 d, .int .i64 d2] 40) = W at *
  have FB := Lib.hid (show Below w.heap.size w W by rw [← hW]; exact (Below.refl _ _).alloc (Nat.le_refl _) _)
  have hlt : w.heap.size < W.heap.size := by rw [← hW]; simp
  clear hW
  have KS := Lib.hid (fun w' (hb : Below W.heap.size W w') => (show w'.cell? ⟨w.heap.size, 0, none⟩ = some (.int .i64 (n : Int)) ∧ w'.cell? ⟨w.heap.size, 1, none⟩ = some (.int .i64 (z : Int)) ∧ w'.cell? ⟨w.heap.size, 2, none⟩ = some (.int .i64 (q8 : Int)) ∧ w'.cell? ⟨w.heap.size, 3, none⟩ = some (.int .i64 d) ∧ w'.cell? ⟨w.heap.size, 4, none⟩ = some (.int .i64 d2) from ⟨(BX.below hb hlt) 0 _ rfl, (BX.below hb hlt) 1 _ rfl, (BX.below hb hlt) 2 _ rfl, (BX.below hb hlt) 3 _ rfl, (BX.below hb hlt) 4 _ rfl⟩))
  have HC := Lib.hid (show Below W.heap.size W W.drew from (Below.refl _ _).drew)
  refine wp_region_held_drew (S := (fun w' => w'.cell? ⟨w.heap.size, 0, none⟩ = some (.int .i64 (n : Int)) ∧ w'.cell? ⟨w.heap.size, 1, none⟩ = some (.int .i64 (z : Int)) ∧ w'.cell? ⟨w.heap.size, 2, none⟩ = some (.int .i64 (q8 : Int)) ∧ w'.cell? ⟨w.heap.size, 3, none⟩ = some (.int .i64 d) ∧ w'.cell? ⟨w.heap.size, 4, none⟩ = some (.int .i64 d2))) (by kernel_rfl) (KS.out _ HC.out) (fun hHeld => ?_)
  refine wpAnyH_take (i := 0) (oi := { dst := some 4, op := Op.fieldAddr 40 (Operand.tmp 1) 0, type := 0, pos := "l16_chains.go:219", after := #[], guard := none }) (v := ?_) rfl (by kernel_rfl) (by kernel_rfl) (by kernel_rfl) (fun _ _ _ h => h) (Or.inl ⟨by rfl, ?hy⟩) hHeld ?_
  case hy => (intro w' hSw; (try dsimp only at hSw); go_simp; try with_reducible rfl)
  simp only [Act.put, List.setIfInBounds_toArray, List.set_cons_zero, List.set_cons_succ]
  refine wpAnyH_take (i := 1) (oi := { dst := some 5, op := Op.load 2 (Operand.tmp 4), type := 2, pos := "l16_chains.go:219", after := #[{ on := 0, ground := Ground.data }], guard := none }) (v := ?_) rfl (by kernel_rfl) (by kernel_rfl) (by kernel_rfl) (fun _ _ _ h => h) (Or.inl ⟨by rfl, ?hy⟩) hHeld ?_
  case hy => (intro w' hSw; (try dsimp only at hSw); go_simp; try with_reducible rfl)
  simp only [Act.put, List.setIfInBounds_toArray, List.set_cons_zero, List.set_cons_succ]
  refine wpAnyH_take (i := 4) (oi := { dst := some 8, op := Op.fieldAddr 40 (Operand.tmp 1) 2, type := 0, pos := "l16_chains.go:219", after := #[], guard := none }) (v := ?_) rfl (by kernel_rfl) (by kernel_rfl) (by kernel_rfl) (fun _ _ _ h => h) (Or.inl ⟨by rfl, ?hy⟩) hHeld ?_
  case hy => (intro w' hSw; (try dsimp only at hSw); go_simp; try with_reducible rfl)
  simp only [Act.put, List.setIfInBounds_toArray, List.set_cons_zero, List.set_cons_succ]
  refine wpAnyH_take (i := 5) (oi := { dst := some 9, op := Op.load 2 (Operand.tmp 8), type := 2, pos := "l16_chains.go:219", after := #[{ on := 4, ground := Ground.data }], guard := none }) (v := ?_) rfl (by kernel_rfl) (by kernel_rfl) (by kernel_rfl) (fun _ _ _ h => h) (Or.inl ⟨by rfl, ?hy⟩) hHeld ?_
  case hy => (intro w' hSw; (try dsimp only at hSw); go_simp; try with_reducible rfl)
  simp only [Act.put, List.setIfInBounds_toArray, List.set_cons_zero, List.set_cons_succ]
  refine wpAnyH_ready (rs := [2]) (by kernel_rfl) (by simp) ?_
  refine AllReadyH.cons (o := { dst := some 6, op := Op.call { callee := Callee.value (Operand.func 84), args := #[Operand.tmp 5], argTypes := #[2] }, type := 9, pos := "l16_chains.go:219", after := #[{ on := 1, ground := Ground.data }], guard := none }) rfl (fun K hK => ?_) AllReadyH.nil
  go_simp
  go_at_call 84; refine (B1.out _).mono ?_; rintro e wk1 ⟨rfl, hb1⟩; replace HC := Lib.hid (HC.out.trans (hb1.mono HC.out.size))
  go_wp2_with fail
  refine hK.out _ _ (KS.out _ HC.out) (fun hHeld => ?_)
  clear hK K
  try simp only [Act.put, List.setIfInBounds_toArray, List.set_cons_zero, List.set_cons_succ]
  refine wpAnyH_take (i := 3) (oi := { dst := some 7, op := Op.binOp BinOp.add 9 (Operand.const (Value.string { data := #[67, 72] })) (Operand.tmp 6) 9, type := 9, pos := "l16_chains.go:219", after := #[{ on := 2, ground := Ground.data }], guard := none }) (v := ?_) rfl (by kernel_rfl) (by kernel_rfl) (by kernel_rfl) (fun _ _ _ h => h) (Or.inl ⟨by rfl, ?hy⟩) hHeld ?_
  case hy => (intro w' hSw; (try dsimp only at hSw); go_simp; try with_reducible rfl)
  simp only [Act.put, List.setIfInBounds_toArray, List.set_cons_zero, List.set_cons_succ]
  refine wpAnyH_ready (rs := [6]) (by kernel_rfl) (by simp) ?_
  refine AllReadyH.cons (o := { dst := some 10, op := Op.call { callee := Callee.value (Operand.func 84), args := #[Operand.tmp 9], argTypes := #[2] }, type := 9, pos := "l16_chains.go:219", after := #[{ on := 5, ground := Ground.data }, { on := 2, ground := Ground.chain }], guard := none }) rfl (fun K hK => ?_) AllReadyH.nil
  go_simp
  go_at_call 84; refine (B3.out _).mono ?_; rintro e wk2 ⟨rfl, hb2⟩; replace HC := Lib.hid (HC.out.trans (hb2.mono HC.out.size))
  go_wp2_with fail
  refine hK.out _ _ (KS.out _ HC.out) (fun hHeld => ?_)
  clear hK K
  try simp only [Act.put, List.setIfInBounds_toArray, List.set_cons_zero, List.set_cons_succ]
  refine wpAnyH_take (i := 7) (oi := { dst := some 11, op := Op.binOp BinOp.add 9 (Operand.tmp 7) (Operand.tmp 10) 9, type := 9, pos := "l16_chains.go:219", after := #[{ on := 3, ground := Ground.data }, { on := 6, ground := Ground.data }], guard := none }) (v := ?_) rfl (by kernel_rfl) (by kernel_rfl) (by kernel_rfl) (fun _ _ _ h => h) (Or.inl ⟨by rfl, ?hy⟩) hHeld ?_
  case hy => (intro w' hSw; (try dsimp only at hSw); go_simp; try with_reducible rfl)
  simp only [Act.put, List.setIfInBounds_toArray, List.set_cons_zero, List.set_cons_succ]
  refine wpAnyH_take (i := 8) (oi := { dst := some 3, op := Op.assign (Operand.tmp 11), type := 9, pos := "l16_chains.go:219", after := #[{ on := 7, ground := Ground.data }, { on := 6, ground := Ground.chain }, { on := 0, ground := Ground.phase }, { on := 1, ground := Ground.phase }, { on := 2, ground := Ground.phase }, { on := 3, ground := Ground.phase }, { on := 4, ground := Ground.phase }, { on := 5, ground := Ground.phase }, { on := 6, ground := Ground.phase }, { on := 7, ground := Ground.phase }], guard := none }) (v := ?_) rfl (by kernel_rfl) (by kernel_rfl) (by kernel_rfl) (fun _ _ _ h => h) (Or.inl ⟨by rfl, ?hy⟩) hHeld ?_
  case hy => (intro w' hSw; (try dsimp only at hSw); go_simp; try with_reducible rfl)
  simp only [Act.put, List.setIfInBounds_toArray, List.set_cons_zero, List.set_cons_succ]
  refine wpAnyH_done (by kernel_rfl) ?_ _
  have hzz := HC.out.size
  replace BX := BX.below HC.out hlt
  replace FB := Lib.hid (FB.out.trans (HC.out.mono FB.out.size))
  have hlt2 : w.heap.size < wk2.heap.size := by omega
  clear HC KS hHeld hzz
  rw [HL.out]
  clear f1 f2
  go_upto_region 2 with (fail)
  have KS := Lib.hid (fun w' (hb : Below wk2.heap.size wk2 w') => (show w'.cell? ⟨w.heap.size, 0, none⟩ = some (.int .i64 (n : Int)) ∧ w'.cell? ⟨w.heap.size, 1, none⟩ = some (.int .i64 (z : Int)) ∧ w'.cell? ⟨w.heap.size, 2, none⟩ = some (.int .i64 (q8 : Int)) ∧ w'.cell? ⟨w.heap.size, 3, none⟩ = some (.int .i64 d) ∧ w'.cell? ⟨w.heap.size, 4, none⟩ = some (.int .i64 d2) from ⟨(BX.below hb hlt2) 0 _ rfl, (BX.below hb hlt2) 1 _ rfl, (BX.below hb hlt2) 2 _ rfl, (BX.below hb hlt2) 3 _ rfl, (BX.below hb hlt2) 4 _ rfl⟩))
  have HC := Lib.hid (show Below wk2.heap.size wk2 wk2.drew from (Below.refl _ _).drew)
  refine wp_region_held_drew (S := (fun w' => w'.cell? ⟨w.heap.size, 0, none⟩ = some (.int .i64 (n : Int)) ∧ w'.cell? ⟨w.heap.size, 1, none⟩ = some (.int .i64 (z : Int)) ∧ w'.cell? ⟨w.heap.size, 2, none⟩ = some (.int .i64 (q8 : Int)) ∧ w'.cell? ⟨w.heap.size, 3, none⟩ = some (.int .i64 d) ∧ w'.cell? ⟨w.heap.size, 4, none⟩ = some (.int .i64 d2))) (by kernel_rfl) (KS.out _ HC.out) (fun hHeld => ?_)
  refine wpAnyH_take (i := 0) (oi := { dst := some 12, op := Op.move (Operand.tmp 3), type := 9, pos := "l16_chains.go:220", after := #[], guard := none }) (v := ?_) rfl (by kernel_rfl) (by kernel_rfl) (by kernel_rfl) (fun _ _ _ h => h) (Or.inl ⟨by rfl, ?hy⟩) hHeld ?_
  case hy => (intro w' hSw; (try dsimp only at hSw); go_simp; try with_reducible rfl)
  simp only [Act.put, List.setIfInBounds_toArray, List.set_cons_zero, List.set_cons_succ]
  refine wpAnyH_take (i := 1) (oi := { dst := some 13, op := Op.move (Operand.tmp 3), type := 9, pos := "l16_chains.go:220", after := #[], guard := none }) (v := ?_) rfl (by kernel_rfl) (by kernel_rfl) (by kernel_rfl) (fun _ _ _ h => h) (Or.inl ⟨by rfl, ?hy⟩) hHeld ?_
  case hy => (intro w' hSw; (try dsimp only at hSw); go_simp; try with_reducible rfl)
  simp only [Act.put, List.setIfInBounds_toArray, List.set_cons_zero, List.set_cons_succ]
  refine wpAnyH_take (i := 5) (oi := { dst := some 17, op := Op.fieldAddr 40 (Operand.tmp 1) 1, type := 0, pos := "l16_chains.go:220", after := #[], guard := none }) (v := ?_) rfl (by kernel_rfl) (by kernel_rfl) (by kernel_rfl) (fun _ _ _ h => h) (Or.inl ⟨by rfl, ?hy⟩) hHeld ?_
  case hy => (intro w' hSw; (try dsimp only at hSw); go_simp; try with_reducible rfl)
  simp only [Act.put, List.setIfInBounds_toArray, List.set_cons_zero, List.set_cons_succ]
  refine wpAnyH_take (i := 6) (oi := { dst := some 18, op := Op.load 2 (Operand.tmp 17), type := 2, pos := "l16_chains.go:220", after := #[{ on := 5, ground := Ground.data }], guard := none }) (v := ?_) rfl (by kernel_rfl) (by kernel_rfl) (by kernel_rfl) (fun _ _ _ h => h) (Or.inl ⟨by rfl, ?hy⟩) hHeld ?_
  case hy => (intro w' hSw; (try dsimp only at hSw); go_simp; try with_reducible rfl)
  simp only [Act.put, List.setIfInBounds_toArray, List.set_cons_zero, List.set_cons_succ]
  refine wpAnyH_ready (rs := [2]) (by kernel_rfl) (by simp) ?_
  refine AllReadyH.cons (o := { dst := some 14, op := Op.call { callee := Callee.value (Operand.func 87), args := #[Operand.tmp 13, Operand.const (Value.int IntKind.i64 65535)], argTypes := #[9, 2] }, type := 2, pos := "l16_chains.go:220", after := #[{ on := 1, ground := Ground.data }], guard := none }) rfl (fun K hK => ?_) AllReadyH.nil
  go_simp
  go_at_call 87; refine (CR.out _).mono ?_; rintro e wk1 ⟨rfl, hb1⟩; replace HC := Lib.hid (HC.out.trans (hb1.mono HC.out.size))
  go_wp2_with fail
  refine hK.out _ _ (KS.out _ HC.out) (fun hHeld => ?_)
  clear hK K
  try simp only [Act.put, List.setIfInBounds_toArray, List.set_cons_zero, List.set_cons_succ]
  refine wpAnyH_ready (rs := [3]) (by kernel_rfl) (by simp) ?_
  refine AllReadyH.cons (o := { dst := some 15, op := Op.call { callee := Callee.value (Operand.func 86), args := #[Operand.tmp 14], argTypes := #[2] }, type := 9, pos := "l16_chains.go:220", after := #[{ on := 2, ground := Ground.data }, { on := 2, ground := Ground.chain }], guard := none }) rfl (fun K hK => ?_) AllReadyH.nil
  go_simp
  go_at_call 86; refine (PW.out _).mono ?_; rintro e wk2 ⟨rfl, hb2⟩; replace HC := Lib.hid (HC.out.trans (hb2.mono HC.out.size))
  go_wp2_with fail
  refine hK.out _ _ (KS.out _ HC.out) (fun hHeld => ?_)
  clear hK K
  try simp only [Act.put, List.setIfInBounds_toArray, List.set_cons_zero, List.set_cons_succ]
  refine wpAnyH_take (i := 4) (oi := { dst := some 16, op := Op.binOp BinOp.add 9 (Operand.tmp 12) (Operand.tmp 15) 9, type := 9, pos := "l16_chains.go:220", after := #[{ on := 0, ground := Ground.data }, { on := 3, ground := Ground.data }], guard := none }) (v := ?_) rfl (by kernel_rfl) (by kernel_rfl) (by kernel_rfl) (fun _ _ _ h => h) (Or.inl ⟨by rfl, ?hy⟩) hHeld ?_
  case hy => (intro w' hSw; (try dsimp only at hSw); go_simp; try with_reducible rfl)
  simp only [Act.put, List.setIfInBounds_toArray, List.set_cons_zero, List.set_cons_succ]
  refine wpAnyH_ready (rs := [7]) (by kernel_rfl) (by simp) ?_
  refine AllReadyH.cons (o := { dst := some 19, op := Op.call { callee := Callee.value (Operand.func 85), args := #[Operand.tmp 16, Operand.tmp 18, Operand.const (Value.string { data := #[0] })], argTypes := #[9, 2, 9] }, type := 9, pos := "l16_chains.go:220", after := #[{ on := 4, ground := Ground.data }, { on := 6, ground := Ground.data }, { on := 3, ground := Ground.chain }], guard := none }) rfl (fun K hK => ?_) AllReadyH.nil
  rw [HT.out]
  go_simp
  go_at_call 85; refine (PD.out _).mono ?_; rintro e wk3 ⟨rfl, hb3⟩; replace HC := Lib.hid (HC.out.trans (hb3.mono HC.out.size))
  go_wp2_with fail
  refine hK.out _ _ (KS.out _ HC.out) (fun hHeld => ?_)
  clear hK K
  try simp only [Act.put, List.setIfInBounds_toArray, List.set_cons_zero, List.set_cons_succ]
  refine wpAnyH_take (i := 8) (oi := { dst := some 2, op := Op.assign (Operand.tmp 19), type := 9, pos := "l16_chains.go:220", after := #[{ on := 7, ground := Ground.data }, { on := 7, ground := Ground.chain }, { on := 0, ground := Ground.phase }, { on := 1, ground := Ground.phase }, { on := 2, ground := Ground.phase }, { on := 3, ground := Ground.phase }, { on := 4, ground := Ground.phase }, { on := 5, ground := Ground.phase }, { on := 6, ground := Ground.phase }, { on := 7, ground := Ground.phase }], guard := none }) (v := ?_) rfl (by kernel_rfl) (by kernel_rfl) (by kernel_rfl) (fun _ _ _ h => h) (Or.inl ⟨by rfl, ?hy⟩) hHeld ?_
  case hy => (intro w' hSw; (try dsimp only at hSw); go_simp; try with_reducible rfl)
  simp only [Act.put, List.setIfInBounds_toArray, List.set_cons_zero, List.set_cons_succ]
  refine wpAnyH_done (by kernel_rfl) ?_ _
  go_wp2
  go_ret
  exact ⟨rfl, FB.out.trans (HC.out.mono FB.out.size)⟩
end Go.Proofs.YtpdodpnhohmjaaaGreatDoor
