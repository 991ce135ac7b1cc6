/- The check value of a field: impl.checksumOf, impl.withChecksum, spec.l08Prefix, spec.l08Sum -/
import Derived.Test.YtffefhgemmjkoaaDoorMarkCells
import Derived.Test.YtffefhgemmjkoaaDoorCrc
import Derived.Test.YtffefhgemmjkoaaDoorPutWord
import Derived.Test.YtffefhgemmjkoaaDoorSpecPutWord
import Derived.Test.YtffefhgemmjkoaaDoorLayouts
import Derived.Deep.RegionHeld3
import Derived.BigRegion
namespace Go.Proofs.YtffefhgemmjkoaaDoor
open Go.RowKit
set_option maxRecDepth 20000
set_option linter.unusedVariables false
/-- What stands ahead of a mark's byte. -/
def befS (f : Int) : ByteArray := if f = 2 then ⟨#[161, 161, 161]⟩ else ⟨#[]⟩
def prefS (f k : Int) : ByteArray := befS f ++ byteS (mkByteN f k)
def sumN (pre fld : ByteArray) : Nat := crcT (pre ++ fld) 65535 (pre ++ fld).size
def sumS (pre fld : ByteArray) (bad : Bool) : ByteArray := fld ++ (if bad then wordBytes (65535 - (sumN pre fld : Int)) else wordBytes (sumN pre fld : Int))
theorem sumN_bd (pre fld : ByteArray) : sumN pre fld < 65536 := crcT_bd _ _ _ (by omega)
theorem crcV_sum (pre fld : ByteArray) : crcV (pre ++ fld) 65535 = (sumN pre fld : Int) := by
  unfold crcV
  rw [if_pos (by decide)]
  rfl
theorem wordBytes_size (n : Int) : (wordBytes n).size = 2 := rfl
theorem prefS_size (f k : Int) : (prefS f k).size ≤ 4 := by
  unfold prefS befS
  rw [ByteArray.size_append]
  split
  · show 3 + 1 ≤ 4; omega
  · show 0 + 1 ≤ 4; omega
/-- All tables that a field's check value reads. -/
structure SecTabs (w : World) : Prop where
  m : MkTabs w
  ll : 3 < w.heap.size
  l : LayTab w
theorem SecTabs.below {w w' : World} (h : SecTabs w) (hb : Below w.heap.size w w') : SecTabs w' :=
  ⟨h.m.below hb, Nat.lt_of_lt_of_le h.ll hb.size, h.l.below hb h.ll⟩
theorem SecTabs.of {w : World} (h1 : 2 < w.heap.size) (h2 : ClkTab w) (h3 : 1 < w.heap.size) (h4 : GpbTab w) (h5 : 3 < w.heap.size) (h6 : LayTab w) : SecTabs w := ⟨MkTabs.of h1 h2 h3 h4, h5, h6⟩
theorem lay_bef (f : Int) (hf : inB 1 3 f = true) : ∃ k : Nat, f = k ∧ k < 4 ∧ layV[k * 5 + 4]? = some (.string (befS f)) := by
  obtain ⟨f0, f1⟩ := inB_iff.1 hf
  have hff : f = 1 ∨ f = 2 ∨ f = 3 := by omega
  rcases hff with rfl | rfl | rfl
  · exact ⟨1, rfl, by omega, rfl⟩
  · exact ⟨2, rfl, by omega, rfl⟩
  · exact ⟨3, rfl, by omega, rfl⟩
set_option maxHeartbeats 8000000 in
theorem checksumOf_any (f k : Int) (fld : ByteArray) (w : World) (hok : markOk f k = true) (hfl : fld.size ≤ 100) (ht : SecTabs w) :
    Calls Tryd.prog 90 #[.int .i64 f, .int .i64 k, .string fld] w fun e w' => e = .returned (.int .i64 (sumN (prefS f k) fld : Int)) ∧ Below w.heap.size w w' := by
  have hf : inB 1 3 f = true := by unfold markOk at hok; simp only [Bool.and_eq_true] at hok; exact hok.1
  obtain ⟨n0, n1⟩ := mkByteN_bd hok
  have hB : markB f k = (mkByteN f k : Int) := by unfold markB; rw [if_pos hok]
  have HMB := Lib.hid (fun w' (hb : Below w.heap.size w w') => by
    have h := markByte_any f k w' (ht.below hb).m
    rw [hB] at h
    exact h)
  have HBT := Lib.hid (fun w' => byteText_any (mkByteN f k) n1 w')
  have hcz := prefS_size f k
  have HCR := Lib.hid (fun w' => by
    have h := crc16_any (prefS f k ++ fld) 65535 (by rw [ByteArray.size_append]; omega) w'
    rw [crcV_sum] at h
    exact h)
  unfold prefS at HCR hcz ⊢
  obtain ⟨j, rfl, hj, hlj⟩ := lay_bef f hf
  have KS := Lib.hid (fun w' (hb : Below w.heap.size w w') => (show w'.cell? ⟨3, j * 5 + 4, none⟩ = some (.string (befS (j : Int))) from (ht.below hb).l.cell0 _ _ hlj))
  have HC := Lib.hid (show Below w.heap.size w w.drew from (Below.refl _ _).drew)
  have hks : w.cell? ⟨3, j * 5 + 4, none⟩ = some (.string (befS (j : Int))) := KS.out _ (Below.refl _ _)
  have hsz1 : (befS (j : Int)).size ≤ 4 := by rw [ByteArray.size_append] at hcz; omega
  have hsz2 : (byteS (mkByteN (j : Int) k)).size = 1 := rfl
  have hj4 : (j : Int) < 4 := by omega
  clear hok hf n0 hB ht hlj hcz
  generalize sumN (befS (j : Int) ++ byteS (mkByteN (j : Int) k)) fld = r at *
  generalize befS (j : Int) = be at *
  generalize byteS (mkByteN (j : Int) k) = by0 at *
  generalize mkByteN (j : Int) k = b at *
  have hc1 : be.size + by0.size ≤ 9223372036854775807 := by omega
  have hc2 : be.size + by0.size + fld.size ≤ 9223372036854775807 := by omega
  have HZ := Lib.hid (And.intro hsz1 hsz2); clear hsz1 hsz2
  go_enter Tryd.func90, Tryd.ntmps90
  go_wp2
  refine wp_region_held_drew (S := (fun w' => w'.cell? ⟨3, j * 5 + 4, none⟩ = some (.string be))) (by kernel_rfl) (KS.out _ HC.out) (fun hHeld => ?_)
  refine wpAnyH_take (i := 0) (oi := { dst := some 7, op := Op.move (Operand.tmp 0), type := 2, pos := "l08_layout.go:145", after := #[], guard := none }) (v := ?_) rfl (by kernel_rfl) (by kernel_rfl) (by kernel_rfl) (fun _ _ _ h => h) (Or.inl ⟨by rfl, ?hy⟩) hHeld ?_
  case hy => (intro w' hSw; (try dsimp only at hSw); go_simp; try with_reducible rfl)
  simp only [Act.put, List.setIfInBounds_toArray, List.set_cons_zero, List.set_cons_succ]
  refine wpAnyH_take (i := 1) (oi := { dst := some 8, op := Op.indexAddr 112 (Operand.global 3) (Operand.tmp 7), type := 0, pos := "l08_layout.go:145", after := #[{ on := 0, ground := Ground.data }], guard := none }) (v := ?_) rfl (by kernel_rfl) (by kernel_rfl) (by kernel_rfl) (fun _ _ _ h => h) (Or.inl ⟨by rfl, ?hy⟩) hHeld ?_
  case hy => (intro w' hSw; (try dsimp only at hSw); go_simp; try with_reducible rfl)
  simp only [Act.put, List.setIfInBounds_toArray, List.set_cons_zero, List.set_cons_succ]
  refine wpAnyH_take (i := 2) (oi := { dst := some 9, op := Op.fieldAddr 111 (Operand.tmp 8) 4, type := 0, pos := "l08_layout.go:145", after := #[{ on := 1, ground := Ground.data }], guard := none }) (v := ?_) rfl (by kernel_rfl) (by kernel_rfl) (by kernel_rfl) (fun _ _ _ h => h) (Or.inl ⟨by rfl, ?hy⟩) hHeld ?_
  case hy => (intro w' hSw; (try dsimp only at hSw); go_simp; try with_reducible rfl)
  simp only [Act.put, List.setIfInBounds_toArray, List.set_cons_zero, List.set_cons_succ]
  refine wpAnyH_take (i := 3) (oi := { dst := some 10, op := Op.load 9 (Operand.tmp 9), type := 9, pos := "l08_layout.go:145", after := #[{ on := 2, ground := Ground.data }], guard := none }) (v := ?_) rfl (by kernel_rfl) (by kernel_rfl) (by kernel_rfl) (fun _ _ _ h => h) (Or.inl ⟨by rfl, ?hy⟩) hHeld ?_
  case hy => (intro w' hSw; (try dsimp only at hSw); go_simp; try with_reducible rfl)
  simp only [Act.put, List.setIfInBounds_toArray, List.set_cons_zero, List.set_cons_succ]
  refine wpAnyH_take (i := 4) (oi := { dst := some 11, op := Op.move (Operand.tmp 0), type := 2, pos := "l08_layout.go:145", after := #[], guard := none }) (v := ?_) rfl (by kernel_rfl) (by kernel_rfl) (by kernel_rfl) (fun _ _ _ h => h) (Or.inl ⟨by rfl, ?hy⟩) hHeld ?_
  case hy => (intro w' hSw; (try dsimp only at hSw); go_simp; try with_reducible rfl)
  simp only [Act.put, List.setIfInBounds_toArray, List.set_cons_zero, List.set_cons_succ]
  refine wpAnyH_take (i := 5) (oi := { dst := some 12, op := Op.move (Operand.tmp 1), type := 2, pos := "l08_layout.go:145", after := #[], guard := none }) (v := ?_) rfl (by kernel_rfl) (by kernel_rfl) (by kernel_rfl) (fun _ _ _ h => h) (Or.inl ⟨by rfl, ?hy⟩) hHeld ?_
  case hy => (intro w' hSw; (try dsimp only at hSw); go_simp; try with_reducible rfl)
  simp only [Act.put, List.setIfInBounds_toArray, List.set_cons_zero, List.set_cons_succ]
  refine wpAnyH_take (i := 9) (oi := { dst := some 16, op := Op.move (Operand.tmp 2), type := 9, pos := "l08_layout.go:145", after := #[], guard := none }) (v := ?_) rfl (by kernel_rfl) (by kernel_rfl) (by kernel_rfl) (fun _ _ _ h => h) (Or.inl ⟨by rfl, ?hy⟩) hHeld ?_
  case hy => (intro w' hSw; (try dsimp only at hSw); go_simp; try with_reducible rfl)
  simp only [Act.put, List.setIfInBounds_toArray, List.set_cons_zero, List.set_cons_succ]
  refine wpAnyH_ready (rs := [6]) (by kernel_rfl) (by simp) ?_
  refine AllReadyH.cons (o := { dst := some 13, op := Op.call { callee := Callee.value (Operand.func 33), args := #[Operand.tmp 11, Operand.tmp 12], argTypes := #[2, 2] }, type := 2, pos := "l08_layout.go:145", after := #[{ on := 4, ground := Ground.data }, { on := 5, ground := Ground.data }], guard := none }) rfl (fun K hK => ?_) AllReadyH.nil
  go_simp
  go_at_call 33; refine (HMB.out _ HC.out).mono ?_; rintro e w1 ⟨rfl, hb1⟩; replace HC := Lib.hid (HC.out.trans (hb1.mono HC.out.size))
  go_wp2_with fail
  refine hK.out _ _ (KS.out _ HC.out) (fun hHeld => ?_)
  clear hK K
  try simp only [Act.put, List.setIfInBounds_toArray, List.set_cons_zero, List.set_cons_succ]
  refine wpAnyH_ready (rs := [7]) (by kernel_rfl) (by simp) ?_
  refine AllReadyH.cons (o := { dst := some 14, op := Op.call { callee := Callee.value (Operand.func 38), args := #[Operand.tmp 13], argTypes := #[2] }, type := 9, pos := "l08_layout.go:145", after := #[{ on := 6, ground := Ground.data }, { on := 6, ground := Ground.chain }], guard := none }) rfl (fun K hK => ?_) AllReadyH.nil
  go_simp
  go_at_call 38; refine (HBT.out _).mono ?_; rintro e w2 ⟨rfl, hb2⟩; replace HC := Lib.hid (HC.out.trans (hb2.mono HC.out.size))
  go_wp2_with fail
  refine hK.out _ _ (KS.out _ HC.out) (fun hHeld => ?_)
  clear hK K
  try simp only [Act.put, List.setIfInBounds_toArray, List.set_cons_zero, List.set_cons_succ]
  refine wpAnyH_take (i := 8) (oi := { dst := some 15, op := Op.binOp BinOp.add 9 (Operand.tmp 10) (Operand.tmp 14) 9, type := 9, pos := "l08_layout.go:145", after := #[{ on := 3, ground := Ground.data }, { on := 7, ground := Ground.data }], guard := none }) (v := ?_) rfl (by kernel_rfl) (by kernel_rfl) (by kernel_rfl) (fun _ _ _ h => h) (Or.inl ⟨by rfl, ?hy⟩) hHeld ?_
  case hy => (intro w' hSw; (try dsimp only at hSw); go_simp; rw [if_neg (by omega)])
  simp only [Act.put, List.setIfInBounds_toArray, List.set_cons_zero, List.set_cons_succ]
  refine wpAnyH_take (i := 10) (oi := { dst := some 17, op := Op.binOp BinOp.add 9 (Operand.tmp 15) (Operand.tmp 16) 9, type := 9, pos := "l08_layout.go:145", after := #[{ on := 8, ground := Ground.data }, { on := 9, ground := Ground.data }], guard := none }) (v := ?_) rfl (by kernel_rfl) (by kernel_rfl) (by kernel_rfl) (fun _ _ _ h => h) (Or.inl ⟨by rfl, ?hy⟩) hHeld ?_
  case hy => (intro w' hSw; (try dsimp only at hSw); go_simp; rw [if_neg (by omega)])
  simp only [Act.put, List.setIfInBounds_toArray, List.set_cons_zero, List.set_cons_succ]
  refine wpAnyH_ready (rs := [11]) (by kernel_rfl) (by simp) ?_
  refine AllReadyH.cons (o := { dst := some 18, op := Op.call { callee := Callee.value (Operand.func 125), args := #[Operand.tmp 17, Operand.const (Value.int IntKind.i64 65535)], argTypes := #[9, 2] }, type := 2, pos := "l08_layout.go:145", after := #[{ on := 10, ground := Ground.data }, { on := 7, ground := Ground.chain }], guard := none }) rfl (fun K hK => ?_) AllReadyH.nil
  go_simp
  go_at_call 125; refine (HCR.out _).mono ?_; rintro e w3 ⟨rfl, hb3⟩; replace HC := Lib.hid (HC.out.trans (hb3.mono HC.out.size))
  go_wp2_with fail
  refine hK.out _ _ (KS.out _ HC.out) (fun hHeld => ?_)
  clear hK K
  try simp only [Act.put, List.setIfInBounds_toArray, List.set_cons_zero, List.set_cons_succ]
  refine wpAnyH_take (i := 12) (oi := { dst := some 6, op := Op.assign (Operand.tmp 18), type := 2, pos := "l08_layout.go:145", after := #[{ on := 11, ground := Ground.data }, { on := 11, ground := Ground.chain }, { on := 0, ground := Ground.phase }, { on := 1, ground := Ground.phase }, { on := 2, ground := Ground.phase }, { on := 3, ground := Ground.phase }, { on := 4, ground := Ground.phase }, { on := 5, ground := Ground.phase }, { on := 6, ground := Ground.phase }, { on := 7, ground := Ground.phase }, { on := 8, ground := Ground.phase }, { on := 9, ground := Ground.phase }, { on := 10, ground := Ground.phase }, { on := 11, ground := Ground.phase }], guard := none }) (v := ?_) rfl (by kernel_rfl) (by kernel_rfl) (by kernel_rfl) (fun _ _ _ h => h) (Or.inl ⟨by rfl, ?hy⟩) hHeld ?_
  case hy => (intro w' hSw; (try dsimp only at hSw); go_simp; try with_reducible rfl)
  simp only [Act.put, List.setIfInBounds_toArray, List.set_cons_zero, List.set_cons_succ]
  refine wpAnyH_done (by kernel_rfl) ?_ _
  go_wp2
  go_ret
  exact ⟨rfl, HC.out⟩
end Go.Proofs.YtffefhgemmjkoaaDoor
