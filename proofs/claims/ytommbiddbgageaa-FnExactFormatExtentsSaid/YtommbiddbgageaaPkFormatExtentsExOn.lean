/- impl.blocksFor, impl.byteText, impl.extentLayout, header of a disk with extents, impl.ExtentsOn -/
import Derived.Test.YtommbiddbgageaaPkFormatExtentsDiskIm
import Derived.Test.YtommbiddbgageaaPkFormatExtentsRowB
import Derived.Test.YtommbiddbgageaaPkFormatExtentsBoxF
import Derived.IntWalk
namespace Go.Proofs.Ytommbiddbgageaa
open Go.RowKit
set_option linter.unusedVariables false
set_option linter.unusedSimpArgs false
set_option maxRecDepth 20000
theorem blocksFor_any (n z : Nat) (w : World) (hz : 0 < z) (hz2 : z ≤ 1000000) (hn : n ≤ 1000000) :
    Calls Try.prog 49 #[.int .i64 (n : Int), .int .i64 (z : Int)] w fun e w' => e = .returned (.int .i64 (((n + z - 1) / z : Nat) : Int)) ∧ w = w' := by
  have e1 : (n : Int) + (z : Int) - 1 = ((n + z - 1 : Nat) : Int) := by omega
  have e2 : ¬ (z : Int) = 0 := by omega
  have e3 : ((z : Int) == 0) = false := by simp; omega
  have e4 : Int.tdiv ((n + z - 1 : Nat) : Int) (z : Int) = (((n + z - 1) / z : Nat) : Int) := by rw [Int.tdiv_eq_ediv_of_nonneg (by omega)]; exact (Int.natCast_ediv _ _).symm
  have e5 : (n + z - 1) / z ≤ n + z - 1 := Nat.div_le_self _ _
  generalize (n + z - 1) / z = q at *
  have e6 : wrap64 (q : Int) = (q : Int) := by unfold wrap64; omega
  have e7 : IntKind.i64.wrap (q : Int) = (q : Int) := IntWalk.i64_in _ (by omega)
  go_enter Try.func49, Try.ntmps49
  go_wp2
  go_ret
  exact ⟨rfl, rfl⟩
theorem byteT_any (n : Nat) (h : n < 256) (w : World) :
    Calls Try.prog 51 #[.int .i64 (n : Int)] w fun e w' => e = .returned (.string ⟨#[n.toUInt8]⟩) ∧ Below w.heap.size w w' := by
  have hcv := conv_new1 w (n : Int) (by omega) (by omega)
  rw [Int.toNat_natCast] at hcv
  have h2 : (n : Int) < 256 := by omega
  go_enter Try.func51, Try.ntmps51
  go_wp2
  go_ret
  exact ⟨rfl, (Below.refl _ _).alloc (Nat.le_refl _) _⟩
set_option maxHeartbeats 1000000 in
theorem extentLayout_any (n z : Nat) (w : World) (hz : 0 < z) (hz2 : z ≤ 1000) (hn : n ≤ 1000) :
    Calls Try.prog 24 #[.int .i64 (n : Int), .int .i64 (z : Int)] w fun e w' => e = .returned (.agg #[.int .i64 (n : Int), .int .i64 (z : Int), .int .i64 ((n / 4 : Nat) : Int), .int .i64 (exData n z : Int)]) ∧ Below w.heap.size w w' := by
  have BF := Lib.hid (fun w => blocksFor_any (n / 4 * 16) z w hz (by omega) (by omega))
  have hq : (n / 4 * 16 + z - 1) / z ≤ n / 4 * 16 + z - 1 := Nat.div_le_self _ _
  have e4 : (1 : Int) + (((n / 4 * 16 + z - 1) / z : Nat) : Int) = (exData n z : Int) := by unfold exData; omega
  have e2 : Int.tdiv (n : Int) 4 = ((n / 4 : Nat) : Int) := by rw [Int.tdiv_eq_ediv_of_nonneg (by omega)]; rfl
  have hd : exData n z ≤ 5001 := by unfold exData; omega
  have hq4 : n / 4 ≤ 250 := by omega
  have e3 : ((n / 4 : Nat) : Int) * 16 = ((n / 4 * 16 : Nat) : Int) := by omega
  generalize (n / 4 * 16 + z - 1) / z = q at *
  generalize n / 4 * 16 = r at *
  generalize n / 4 = t at *
  generalize exData n z = d at *
  go_enter Try.func24, Try.ntmps24
  go_wp2_with fail
  refine (BF.out _).mono ?_
  rintro e w1 ⟨rfl, rfl⟩
  go_wp2
  refine bodyPost_ret (v := .agg #[.int .i64 (n : Int), .int .i64 (z : Int), .int .i64 (t : Int), .int .i64 (d : Int)]) (by simp [results, Try.results24, go_sem]) rfl ⟨rfl, ?_⟩
  go_grown
theorem head_lit (a b c : UInt8) : (⟨#[69, 88]⟩ : ByteArray) ++ ⟨#[a]⟩ ++ ⟨#[b]⟩ ++ ⟨#[c]⟩ = ⟨#[69, 88, a, b, c]⟩ := by
  apply ByteArray.ext
  simp
set_option maxHeartbeats 2000000 in
theorem exHeader_any (n z d : Nat) (w : World) (hz : z = 8 ∨ z = 16 ∨ z = 32) (hn : n ≤ 128) :
    Calls Try.prog 25 #[.agg #[.int .i64 (n : Int), .int .i64 (z : Int), .int .i64 ((n / 4 : Nat) : Int), .int .i64 (d : Int)]] w fun e w' => e = .returned (.string (exHead n z)) ∧ Below w.heap.size w w' := by
  have B1 := Lib.hid (fun w => byteT_any n (by omega) w)
  have B2 := Lib.hid (fun w => byteT_any z (by omega) w)
  have B3 := Lib.hid (fun w => byteT_any (n / 4) (by omega) w)
  have PD := Lib.hid (fun w => padded_any ⟨#[69, 88, n.toUInt8, z.toUInt8, (n / 4).toUInt8]⟩ z 0 w (by show 5 ≤ z; omega) (by omega))
  have HL := Lib.hid (head_lit n.toUInt8 z.toUInt8 (n / 4).toUInt8)
  unfold exHead
  generalize n / 4 = q at *
  generalize n.toUInt8 = u1 at *
  generalize z.toUInt8 = u2 at *
  generalize q.toUInt8 = u3 at *
  have s1 : (⟨#[69, 88]⟩ : ByteArray).size = 2 := rfl
  have s2 : ((⟨#[69, 88]⟩ : ByteArray) ++ ⟨#[u1]⟩).size = 3 := by rw [ByteArray.size_append]; rfl
  have s3 : ((⟨#[69, 88]⟩ : ByteArray) ++ ⟨#[u1]⟩ ++ ⟨#[u2]⟩).size = 4 := by rw [ByteArray.size_append, s2]; rfl
  have f1 : (9223372036854775807 < (⟨#[69, 88]⟩ : ByteArray).size + (⟨#[u1]⟩ : ByteArray).size) = False := by rw [s1]; simp [show (⟨#[u1]⟩ : ByteArray).size = 1 from rfl]
  have f2 : (9223372036854775807 < ((⟨#[69, 88]⟩ : ByteArray) ++ ⟨#[u1]⟩).size + (⟨#[u2]⟩ : ByteArray).size) = False := by rw [s2]; simp [show (⟨#[u2]⟩ : ByteArray).size = 1 from rfl]
  have f3 : (9223372036854775807 < ((⟨#[69, 88]⟩ : ByteArray) ++ ⟨#[u1]⟩ ++ ⟨#[u2]⟩).size + (⟨#[u3]⟩ : ByteArray).size) = False := by rw [s3]; simp [show (⟨#[u3]⟩ : ByteArray).size = 1 from rfl]
  clear s1 s2 s3
  go_enter Try.func25, Try.ntmps25
  go_wp2
  have BX := BoxAt.new w #[.int .i64 (n : Int), .int .i64 (z : Int), .int .i64 (q : Int), .int .i64 (d : Int)] 25 _ rfl
  generalize hW : w.alloc (.cells #[.int .i64 (n : Int), .int .i64 (z : Int), .int .i64 (q : Int), .int .i64 (d : Int)] 25) = W at *
  have FB := Lib.hid (show Below w.heap.size w W by rw [← hW]; exact (Below.refl _ _).alloc (Nat.le_refl _) _)
  have hlt : w.heap.size < W.heap.size := by rw [← hW]; simp
  clear hW
  have KS := Lib.hid (fun w' (hb : Below W.heap.size W w') => (show w'.cell? ⟨w.heap.size, 0, none⟩ = some (.int .i64 (n : Int)) ∧ w'.cell? ⟨w.heap.size, 1, none⟩ = some (.int .i64 (z : Int)) ∧ w'.cell? ⟨w.heap.size, 2, none⟩ = some (.int .i64 (q : Int)) ∧ w'.cell? ⟨w.heap.size, 3, none⟩ = some (.int .i64 (d : Int)) from ⟨(BX.below hb hlt) 0 _ rfl, (BX.below hb hlt) 1 _ rfl, (BX.below hb hlt) 2 _ rfl, (BX.below hb hlt) 3 _ rfl⟩))
  have HC := Lib.hid (show Below W.heap.size W W.drew from (Below.refl _ _).drew)
  refine wp_region_held_drew (S := (fun w' => w'.cell? ⟨w.heap.size, 0, none⟩ = some (.int .i64 (n : Int)) ∧ w'.cell? ⟨w.heap.size, 1, none⟩ = some (.int .i64 (z : Int)) ∧ w'.cell? ⟨w.heap.size, 2, none⟩ = some (.int .i64 (q : Int)) ∧ w'.cell? ⟨w.heap.size, 3, none⟩ = some (.int .i64 (d : Int)))) (by kernel_rfl) (KS.out _ HC.out) (fun hHeld => ?_)
  refine wpAnyH_take (i := 0) (oi := { dst := some 3, op := Op.fieldAddr 25 (Operand.tmp 1) 0, type := 0, pos := "l17_extents.go:146", after := #[], guard := none }) (v := ?_) rfl (by kernel_rfl) (by kernel_rfl) (by kernel_rfl) (fun _ _ _ h => h) (Or.inl ⟨by rfl, ?hy⟩) hHeld ?_
  case hy => (intro w' hSw; (try dsimp only at hSw); go_simp; try with_reducible rfl)
  simp only [Act.put, List.setIfInBounds_toArray, List.set_cons_zero, List.set_cons_succ]
  refine wpAnyH_take (i := 1) (oi := { dst := some 4, op := Op.load 2 (Operand.tmp 3), type := 2, pos := "l17_extents.go:146", after := #[{ on := 0, ground := Ground.data }], guard := none }) (v := ?_) rfl (by kernel_rfl) (by kernel_rfl) (by kernel_rfl) (fun _ _ _ h => h) (Or.inl ⟨by rfl, ?hy⟩) hHeld ?_
  case hy => (intro w' hSw; (try dsimp only at hSw); go_simp; try with_reducible rfl)
  simp only [Act.put, List.setIfInBounds_toArray, List.set_cons_zero, List.set_cons_succ]
  refine wpAnyH_take (i := 4) (oi := { dst := some 7, op := Op.fieldAddr 25 (Operand.tmp 1) 1, type := 0, pos := "l17_extents.go:146", after := #[], guard := none }) (v := ?_) rfl (by kernel_rfl) (by kernel_rfl) (by kernel_rfl) (fun _ _ _ h => h) (Or.inl ⟨by rfl, ?hy⟩) hHeld ?_
  case hy => (intro w' hSw; (try dsimp only at hSw); go_simp; try with_reducible rfl)
  simp only [Act.put, List.setIfInBounds_toArray, List.set_cons_zero, List.set_cons_succ]
  refine wpAnyH_take (i := 5) (oi := { dst := some 8, op := Op.load 2 (Operand.tmp 7), type := 2, pos := "l17_extents.go:146", after := #[{ on := 4, ground := Ground.data }], guard := none }) (v := ?_) rfl (by kernel_rfl) (by kernel_rfl) (by kernel_rfl) (fun _ _ _ h => h) (Or.inl ⟨by rfl, ?hy⟩) hHeld ?_
  case hy => (intro w' hSw; (try dsimp only at hSw); go_simp; try with_reducible rfl)
  simp only [Act.put, List.setIfInBounds_toArray, List.set_cons_zero, List.set_cons_succ]
  refine wpAnyH_take (i := 8) (oi := { dst := some 11, op := Op.fieldAddr 25 (Operand.tmp 1) 2, type := 0, pos := "l17_extents.go:146", after := #[], guard := none }) (v := ?_) rfl (by kernel_rfl) (by kernel_rfl) (by kernel_rfl) (fun _ _ _ h => h) (Or.inl ⟨by rfl, ?hy⟩) hHeld ?_
  case hy => (intro w' hSw; (try dsimp only at hSw); go_simp; try with_reducible rfl)
  simp only [Act.put, List.setIfInBounds_toArray, List.set_cons_zero, List.set_cons_succ]
  refine wpAnyH_take (i := 9) (oi := { dst := some 12, op := Op.load 2 (Operand.tmp 11), type := 2, pos := "l17_extents.go:146", after := #[{ on := 8, ground := Ground.data }], guard := none }) (v := ?_) rfl (by kernel_rfl) (by kernel_rfl) (by kernel_rfl) (fun _ _ _ h => h) (Or.inl ⟨by rfl, ?hy⟩) hHeld ?_
  case hy => (intro w' hSw; (try dsimp only at hSw); go_simp; try with_reducible rfl)
  simp only [Act.put, List.setIfInBounds_toArray, List.set_cons_zero, List.set_cons_succ]
  refine wpAnyH_take (i := 12) (oi := { dst := some 15, op := Op.fieldAddr 25 (Operand.tmp 1) 1, type := 0, pos := "l17_extents.go:146", after := #[], guard := none }) (v := ?_) rfl (by kernel_rfl) (by kernel_rfl) (by kernel_rfl) (fun _ _ _ h => h) (Or.inl ⟨by rfl, ?hy⟩) hHeld ?_
  case hy => (intro w' hSw; (try dsimp only at hSw); go_simp; try with_reducible rfl)
  simp only [Act.put, List.setIfInBounds_toArray, List.set_cons_zero, List.set_cons_succ]
  refine wpAnyH_take (i := 13) (oi := { dst := some 16, op := Op.load 2 (Operand.tmp 15), type := 2, pos := "l17_extents.go:146", after := #[{ on := 12, ground := Ground.data }], guard := none }) (v := ?_) rfl (by kernel_rfl) (by kernel_rfl) (by kernel_rfl) (fun _ _ _ h => h) (Or.inl ⟨by rfl, ?hy⟩) hHeld ?_
  case hy => (intro w' hSw; (try dsimp only at hSw); go_simp; try with_reducible rfl)
  simp only [Act.put, List.setIfInBounds_toArray, List.set_cons_zero, List.set_cons_succ]
  refine wpAnyH_ready (rs := [2]) (by kernel_rfl) (by simp) ?_
  refine AllReadyH.cons (o := { dst := some 5, op := Op.call { callee := Callee.value (Operand.func 51), args := #[Operand.tmp 4], argTypes := #[2] }, type := 9, pos := "l17_extents.go:146", after := #[{ on := 1, ground := Ground.data }], guard := none }) rfl (fun K hK => ?_) AllReadyH.nil
  go_simp
  go_at_call 51; refine (B1.out _).mono ?_; rintro e wk1 ⟨rfl, hb1⟩; replace HC := Lib.hid (HC.out.trans (hb1.mono HC.out.size))
  go_wp2_with fail
  refine hK.out _ _ (KS.out _ HC.out) (fun hHeld => ?_)
  clear hK K
  try simp only [Act.put, List.setIfInBounds_toArray, List.set_cons_zero, List.set_cons_succ]
  refine wpAnyH_take (i := 3) (oi := { dst := some 6, op := Op.binOp BinOp.add 9 (Operand.const (Value.string { data := #[69, 88] })) (Operand.tmp 5) 9, type := 9, pos := "l17_extents.go:146", after := #[{ on := 2, ground := Ground.data }], guard := none }) (v := ?_) rfl (by kernel_rfl) (by kernel_rfl) (by kernel_rfl) (fun _ _ _ h => h) (Or.inl ⟨by rfl, ?hy⟩) hHeld ?_
  case hy => (intro w' hSw; (try dsimp only at hSw); go_simp; try with_reducible rfl)
  simp only [Act.put, List.setIfInBounds_toArray, List.set_cons_zero, List.set_cons_succ]
  refine wpAnyH_ready (rs := [6]) (by kernel_rfl) (by simp) ?_
  refine AllReadyH.cons (o := { dst := some 9, op := Op.call { callee := Callee.value (Operand.func 51), args := #[Operand.tmp 8], argTypes := #[2] }, type := 9, pos := "l17_extents.go:146", after := #[{ on := 5, ground := Ground.data }, { on := 2, ground := Ground.chain }], guard := none }) rfl (fun K hK => ?_) AllReadyH.nil
  go_simp
  go_at_call 51; refine (B2.out _).mono ?_; rintro e wk2 ⟨rfl, hb2⟩; replace HC := Lib.hid (HC.out.trans (hb2.mono HC.out.size))
  go_wp2_with fail
  refine hK.out _ _ (KS.out _ HC.out) (fun hHeld => ?_)
  clear hK K
  try simp only [Act.put, List.setIfInBounds_toArray, List.set_cons_zero, List.set_cons_succ]
  refine wpAnyH_take (i := 7) (oi := { dst := some 10, op := Op.binOp BinOp.add 9 (Operand.tmp 6) (Operand.tmp 9) 9, type := 9, pos := "l17_extents.go:146", after := #[{ on := 3, ground := Ground.data }, { on := 6, ground := Ground.data }], guard := none }) (v := ?_) rfl (by kernel_rfl) (by kernel_rfl) (by kernel_rfl) (fun _ _ _ h => h) (Or.inl ⟨by rfl, ?hy⟩) hHeld ?_
  case hy => (intro w' hSw; (try dsimp only at hSw); go_simp; try with_reducible rfl)
  simp only [Act.put, List.setIfInBounds_toArray, List.set_cons_zero, List.set_cons_succ]
  refine wpAnyH_ready (rs := [10]) (by kernel_rfl) (by simp) ?_
  refine AllReadyH.cons (o := { dst := some 13, op := Op.call { callee := Callee.value (Operand.func 51), args := #[Operand.tmp 12], argTypes := #[2] }, type := 9, pos := "l17_extents.go:146", after := #[{ on := 9, ground := Ground.data }, { on := 6, ground := Ground.chain }], guard := none }) rfl (fun K hK => ?_) AllReadyH.nil
  go_simp
  go_at_call 51; refine (B3.out _).mono ?_; rintro e wk3 ⟨rfl, hb3⟩; replace HC := Lib.hid (HC.out.trans (hb3.mono HC.out.size))
  go_wp2_with fail
  refine hK.out _ _ (KS.out _ HC.out) (fun hHeld => ?_)
  clear hK K
  try simp only [Act.put, List.setIfInBounds_toArray, List.set_cons_zero, List.set_cons_succ]
  refine wpAnyH_take (i := 11) (oi := { dst := some 14, op := Op.binOp BinOp.add 9 (Operand.tmp 10) (Operand.tmp 13) 9, type := 9, pos := "l17_extents.go:146", after := #[{ on := 7, ground := Ground.data }, { on := 10, ground := Ground.data }], guard := none }) (v := ?_) rfl (by kernel_rfl) (by kernel_rfl) (by kernel_rfl) (fun _ _ _ h => h) (Or.inl ⟨by rfl, ?hy⟩) hHeld ?_
  case hy => (intro w' hSw; (try dsimp only at hSw); go_simp; try with_reducible rfl)
  simp only [Act.put, List.setIfInBounds_toArray, List.set_cons_zero, List.set_cons_succ]
  refine wpAnyH_ready (rs := [14]) (by kernel_rfl) (by simp) ?_
  refine AllReadyH.cons (o := { dst := some 17, op := Op.call { callee := Callee.value (Operand.func 50), args := #[Operand.tmp 14, Operand.tmp 16, Operand.const (Value.string { data := #[0] })], argTypes := #[9, 2, 9] }, type := 9, pos := "l17_extents.go:146", after := #[{ on := 11, ground := Ground.data }, { on := 13, ground := Ground.data }, { on := 10, ground := Ground.chain }], guard := none }) rfl (fun K hK => ?_) AllReadyH.nil
  rw [HL.out]
  go_simp
  go_at_call 50; refine (PD.out _).mono ?_; rintro e wk4 ⟨rfl, hb4⟩; replace HC := Lib.hid (HC.out.trans (hb4.mono HC.out.size))
  go_wp2_with fail
  refine hK.out _ _ (KS.out _ HC.out) (fun hHeld => ?_)
  clear hK K
  try simp only [Act.put, List.setIfInBounds_toArray, List.set_cons_zero, List.set_cons_succ]
  refine wpAnyH_take (i := 15) (oi := { dst := some 2, op := Op.assign (Operand.tmp 17), type := 9, pos := "l17_extents.go:146", after := #[{ on := 14, ground := Ground.data }, { on := 14, ground := Ground.chain }, { on := 0, ground := Ground.phase }, { on := 1, ground := Ground.phase }, { on := 2, ground := Ground.phase }, { on := 3, ground := Ground.phase }, { on := 4, ground := Ground.phase }, { on := 5, ground := Ground.phase }, { on := 6, ground := Ground.phase }, { on := 7, ground := Ground.phase }, { on := 8, ground := Ground.phase }, { on := 9, ground := Ground.phase }, { on := 10, ground := Ground.phase }, { on := 11, ground := Ground.phase }, { on := 12, ground := Ground.phase }, { on := 13, ground := Ground.phase }, { on := 14, ground := Ground.phase }], guard := none }) (v := ?_) rfl (by kernel_rfl) (by kernel_rfl) (by kernel_rfl) (fun _ _ _ h => h) (Or.inl ⟨by rfl, ?hy⟩) hHeld ?_
  case hy => (intro w' hSw; (try dsimp only at hSw); go_simp; try with_reducible rfl)
  simp only [Act.put, List.setIfInBounds_toArray, List.set_cons_zero, List.set_cons_succ]
  refine wpAnyH_done (by kernel_rfl) ?_ _
  go_wp2
  go_ret
  exact ⟨rfl, FB.out.trans (HC.out.mono FB.out.size)⟩
/-- The answer of ExtentsOn. -/
def ExRes (l : ExtentLayoutV) (c : Int) (w : World) (e : Ending) (w' : World) : Prop :=
  e = .returned (.tuple #[.agg #[.int .i64 l.f0, .int .i64 l.f1, .int .i64 l.f2, .int .i64 l.f3], .int .i64 c]) ∧ Below w.heap.size w w'
set_option maxHeartbeats 4000000 in
theorem extentsOn_any (a : Option Addr) (c : Nat) (es : List StringV) (hm : es.length ≤ 1048576) (hs : ∀ e ∈ es, e.f0.size ≤ 1048576) (w : World) (h : SlS rowString w a es) :
    Calls Try.prog 9 #[.slice a es.length c] w (ExRes (exL es) (exC es) w) := by
  have ID := Lib.hid (fun w' (hb : Below w.heap.size w w') => isDisk_any a es c w' hm (fun e he => by have := hs e he; unfold maxLen; omega) (h.below hb (Nat.le_refl _)))
  unfold ExRes
  by_cases hd : diskB es = true
  case neg =>
    have hd0 : diskB es = false := by simpa using hd
    have hno : exOn es = false := by unfold exOn; rw [hd0]; rfl
    have hL : exL es = ⟨0, 0, 0, 0⟩ := by unfold exL; rw [hno]; rfl
    have hC : exC es = 7 := by unfold exC; rw [hno]; rfl
    rw [hL, hC]
    dsimp only
    rw [hd0] at ID
    clear hd hd0 hno hL hC h hs
    go_enter Try.func9, Try.ntmps9
    have R0 := BoxF.new w #[.int .i64 0, .int .i64 0, .int .i64 0, .int .i64 0] 25 _ rfl
    go_wp2_with fail
    refine (ID.out _ (by go_grown)).mono ?_
    rintro e w1 ⟨rfl, hb1⟩
    obtain ⟨a0, z0⟩ := (R0.below hb1 (by simp)) 0 _ rfl
    obtain ⟨a1, z1⟩ := (R0.below hb1 (by simp)) 1 _ rfl
    obtain ⟨a2, z2⟩ := (R0.below hb1 (by simp)) 2 _ rfl
    obtain ⟨a3, z3⟩ := (R0.below hb1 (by simp)) 3 _ rfl
    have FB := Lib.hid (show Below w.heap.size w w1 from Below.trans (by go_grown) (hb1.mono (by simp)))
    clear hb1 R0
    go_wp2
    refine bodyPost_ret (v := .tuple #[.agg #[.int .i64 0, .int .i64 0, .int .i64 0, .int .i64 0], .int .i64 7]) (by simp [results, Try.results9, go_sem, a0, a1, a2, a3]) rfl ⟨rfl, ?_⟩
    exact (((FB.out.setCell (by simp) _).setCell (by simp) _).setCell (by simp) _).setCell (by simp) _
  obtain ⟨hn, hall, hz⟩ := diskB_facts hd
  obtain ⟨e0, hx0⟩ : ∃ e, es[0]? = some e := ⟨es[0], by simp⟩
  have hl0 : len0 es = e0.f0.size := by unfold len0; rw [hx0]; rfl
  rw [hl0] at hz
  have EL := Lib.hid (fun w => extentLayout_any es.length e0.f0.size w (by omega) (by omega) (by omega))
  have EH := Lib.hid (fun w => exHeader_any es.length e0.f0.size (exData es.length e0.f0.size) w hz hn.2)
  have hc0 : exOn es = decide (e0.f0 = exHead es.length e0.f0.size) := by unfold exOn; rw [hd, blkAt_of hx0, hl0]; rfl
  obtain ⟨b, off, rfl, hbl, hc⟩ := h.at rowString_len hx0
  have C0 := Lib.hid (fun w' (hb : Below w.heap.size w w') => show w'.cell? ⟨b, off, none⟩ = some (.string e0.f0) by rw [hb.cell (p := ⟨b, off, none⟩) hbl]; simpa using hc 0 _ rfl)
  rw [hd] at ID
  have hpos : 0 < es.length := by omega
  have HL0 := Lib.hid hl0
  have hsz : e0.f0.size ≤ 32 := by omega
  clear hd hall hl0 hx0 hc h hs
  by_cases heq : e0.f0 = exHead es.length e0.f0.size
  all_goals
    first
    | rw [decide_eq_true heq] at hc0
    | rw [decide_eq_false heq] at hc0
    have hL : exL es = if exOn es = true then ⟨(es.length : Int), (e0.f0.size : Int), ((es.length / 4 : Nat) : Int), (exData es.length e0.f0.size : Int)⟩ else ⟨0, 0, 0, 0⟩ := by unfold exL; rw [HL0.out]
    have hC : exC es = if exOn es = true then 0 else 7 := rfl
    rw [hc0] at hL hC
    rw [hL, hC]
    simp only [if_true, Bool.false_eq_true, if_false]
    first
    | have hne : ((e0.f0).toList == (exHead es.length e0.f0.size).toList) = true := by rw [← heq]; simp
    | have hne : ((e0.f0).toList == (exHead es.length e0.f0.size).toList) = false := toList_ne2 heq
    have HQ := Lib.hid heq
    clear heq hL hC hc0
    generalize exHead es.length e0.f0.size = hd at *
    generalize exData es.length e0.f0.size = dd at *
    generalize es.length / 4 = q4 at *
    go_enter Try.func9, Try.ntmps9
    have R0 := BoxF.new w #[.int .i64 0, .int .i64 0, .int .i64 0, .int .i64 0] 25 _ rfl
    go_wp2_with fail
    refine (ID.out _ (by go_grown)).mono ?_
    rintro e w1 ⟨rfl, hb1⟩
    have R1 := Lib.hid (R0.below hb1 (by simp))
    have FB := Lib.hid (show Below w.heap.size w w1 from Below.trans (by go_grown) (hb1.mono (by simp)))
    have hz1 : w.heap.size < w1.heap.size := Nat.lt_of_lt_of_le (by simp) hb1.size
    have c0 := C0.out _ FB.out
    clear hb1 R0
    go_wp2_with fail
    refine (EL.out _).mono ?_
    rintro e w2 ⟨rfl, hb2⟩
    have hz2 := hb2.size
    replace R1 := Lib.hid (R1.out.below hb2 hz1)
    replace FB := Lib.hid (FB.out.trans (hb2.mono FB.out.size))
    clear hb2 c0
    go_upto_region 4 with (fail)
    have B4 := BoxAt.new w2 #[.int .i64 (es.length : Int), .int .i64 (e0.f0.size : Int), .int .i64 (q4 : Int), .int .i64 (dd : Int)] 25 _ rfl
    replace R1 := Lib.hid (R1.out.below ((Below.refl w2.heap.size w2).alloc (Nat.le_refl _) (.cells #[.int .i64 (es.length : Int), .int .i64 (e0.f0.size : Int), .int .i64 (q4 : Int), .int .i64 (dd : Int)] 25)) (by omega))
    replace FB := Lib.hid (FB.out.alloc FB.out.size (.cells #[.int .i64 (es.length : Int), .int .i64 (e0.f0.size : Int), .int .i64 (q4 : Int), .int .i64 (dd : Int)] 25))
    have hlt : w2.heap.size < (w2.alloc (.cells #[.int .i64 (es.length : Int), .int .i64 (e0.f0.size : Int), .int .i64 (q4 : Int), .int .i64 (dd : Int)] 25)).heap.size := by simp
    generalize w2.alloc (.cells #[.int .i64 (es.length : Int), .int .i64 (e0.f0.size : Int), .int .i64 (q4 : Int), .int .i64 (dd : Int)] 25) = W at *
    have KS := Lib.hid (fun w' (hb : Below W.heap.size W w') => (show w'.cell? ⟨b, off, none⟩ = some (.string e0.f0) ∧ w'.cell? ⟨w2.heap.size, 0, none⟩ = some (.int .i64 (es.length : Int)) ∧ w'.cell? ⟨w2.heap.size, 1, none⟩ = some (.int .i64 (e0.f0.size : Int)) ∧ w'.cell? ⟨w2.heap.size, 2, none⟩ = some (.int .i64 (q4 : Int)) ∧ w'.cell? ⟨w2.heap.size, 3, none⟩ = some (.int .i64 (dd : Int)) from ⟨C0.out _ (FB.out.trans (hb.mono FB.out.size)), (B4.below hb hlt) 0 _ rfl, (B4.below hb hlt) 1 _ rfl, (B4.below hb hlt) 2 _ rfl, (B4.below hb hlt) 3 _ rfl⟩))
    have HC := Lib.hid (show Below W.heap.size W W.drew from (Below.refl _ _).drew)
    refine wp_region_held_drew (S := (fun w' => w'.cell? ⟨b, off, none⟩ = some (.string e0.f0) ∧ w'.cell? ⟨w2.heap.size, 0, none⟩ = some (.int .i64 (es.length : Int)) ∧ w'.cell? ⟨w2.heap.size, 1, none⟩ = some (.int .i64 (e0.f0.size : Int)) ∧ w'.cell? ⟨w2.heap.size, 2, none⟩ = some (.int .i64 (q4 : Int)) ∧ w'.cell? ⟨w2.heap.size, 3, none⟩ = some (.int .i64 (dd : Int)))) (by kernel_rfl) (KS.out _ HC.out) (fun hHeld => ?_)
    refine wpAnyH_take (i := 0) (oi := { dst := some 16, op := Op.move (Operand.tmp 0), type := 22, pos := "l17_extents.go:345", after := #[], guard := none }) (v := ?_) rfl (by kernel_rfl) (by kernel_rfl) (by kernel_rfl) (fun _ _ _ h => h) (Or.inl ⟨by rfl, ?hy⟩) hHeld ?_
    case hy => (intro w' hSw; (try dsimp only at hSw); go_simp; try with_reducible rfl)
    simp only [Act.put, List.setIfInBounds_toArray, List.set_cons_zero, List.set_cons_succ]
    refine wpAnyH_take (i := 1) (oi := { dst := some 17, op := Op.indexAddr 22 (Operand.tmp 16) (Operand.const (Value.int IntKind.i64 0)), type := 0, pos := "l17_extents.go:345", after := #[{ on := 0, ground := Ground.data }], guard := none }) (v := ?_) rfl (by kernel_rfl) (by kernel_rfl) (by kernel_rfl) (fun _ _ _ h => h) (Or.inl ⟨by rfl, ?hy⟩) hHeld ?_
    case hy => (intro w' hSw; (try dsimp only at hSw); go_simp; try with_reducible rfl)
    simp only [Act.put, List.setIfInBounds_toArray, List.set_cons_zero, List.set_cons_succ]
    refine wpAnyH_take (i := 2) (oi := { dst := some 18, op := Op.load 9 (Operand.tmp 17), type := 9, pos := "l17_extents.go:345", after := #[{ on := 1, ground := Ground.data }], guard := none }) (v := ?_) rfl (by kernel_rfl) (by kernel_rfl) (by kernel_rfl) (fun _ _ _ h => h) (Or.inl ⟨by rfl, ?hy⟩) hHeld ?_
    case hy => (intro w' hSw; (try dsimp only at hSw); go_simp; try with_reducible rfl)
    simp only [Act.put, List.setIfInBounds_toArray, List.set_cons_zero, List.set_cons_succ]
    refine wpAnyH_take (i := 3) (oi := { dst := some 19, op := Op.load 25 (Operand.tmp 4), type := 25, pos := "l17_extents.go:345", after := #[], guard := none }) (v := ?_) rfl (by kernel_rfl) (by kernel_rfl) (by kernel_rfl) (fun _ _ _ h => h) (Or.inl ⟨by rfl, ?hy⟩) hHeld ?_
    case hy => (intro w' hSw; (try dsimp only at hSw); go_simp; try with_reducible rfl)
    simp only [Act.put, List.setIfInBounds_toArray, List.set_cons_zero, List.set_cons_succ]
    refine wpAnyH_ready (rs := [4]) (by kernel_rfl) (by simp) ?_
    refine AllReadyH.cons (o := { dst := some 20, op := Op.call { callee := Callee.value (Operand.func 25), args := #[Operand.tmp 19], argTypes := #[25] }, type := 9, pos := "l17_extents.go:345", after := #[{ on := 3, ground := Ground.data }], guard := none }) rfl (fun K hK => ?_) AllReadyH.nil
    go_simp
    go_at_call 25; refine (EH.out _).mono ?_; rintro e wk1 ⟨rfl, hb1⟩; replace HC := Lib.hid (HC.out.trans (hb1.mono HC.out.size))
    go_wp2_with fail
    refine hK.out _ _ (KS.out _ HC.out) (fun hHeld => ?_)
    clear hK K
    try simp only [Act.put, List.setIfInBounds_toArray, List.set_cons_zero, List.set_cons_succ]
    refine wpAnyH_take (i := 5) (oi := { dst := some 21, op := Op.binOp BinOp.neq 9 (Operand.tmp 18) (Operand.tmp 20) 9, type := 4, pos := "l17_extents.go:345", after := #[{ on := 2, ground := Ground.data }, { on := 4, ground := Ground.data }], guard := none }) (v := ?_) rfl (by kernel_rfl) (by kernel_rfl) (by kernel_rfl) (fun _ _ _ h => h) (Or.inl ⟨by rfl, ?hy⟩) hHeld ?_
    case hy => (intro w' hSw; (try dsimp only at hSw); go_simp; try with_reducible rfl)
    simp only [Act.put, List.setIfInBounds_toArray, List.set_cons_zero, List.set_cons_succ]
    refine wpAnyH_done (by kernel_rfl) ?_ _
    obtain ⟨x0, x1, x2, x3⟩ := (KS.out _ HC.out).2
    obtain ⟨a0, z0⟩ := (R1.out.below HC.out (by omega)) 0 _ rfl
    obtain ⟨a1, z1⟩ := (R1.out.below HC.out (by omega)) 1 _ rfl
    obtain ⟨a2, z2⟩ := (R1.out.below HC.out (by omega)) 2 _ rfl
    obtain ⟨a3, z3⟩ := (R1.out.below HC.out (by omega)) 3 _ rfl
    replace FB := Lib.hid (FB.out.trans (HC.out.mono FB.out.size))
    clear KS HC B4 hHeld
    go_wp2
    first
    | (refine bodyPost_ret (v := .tuple #[.agg #[.int .i64 (es.length : Int), .int .i64 (e0.f0.size : Int), .int .i64 (q4 : Int), .int .i64 (dd : Int)], .int .i64 0]) (by simp [results, Try.results9, go_sem, a0, a1, a2, a3]) rfl ⟨rfl, ?_⟩; exact (((FB.out.setCell (by simp) _).setCell (by simp) _).setCell (by simp) _).setCell (by simp) _)
    | (refine bodyPost_ret (v := .tuple #[.agg #[.int .i64 0, .int .i64 0, .int .i64 0, .int .i64 0], .int .i64 7]) (by simp [results, Try.results9, go_sem, a0, a1, a2, a3]) rfl ⟨rfl, ?_⟩; exact (((FB.out.setCell (by simp) _).setCell (by simp) _).setCell (by simp) _).setCell (by simp) _)
end Go.Proofs.Ytommbiddbgageaa
