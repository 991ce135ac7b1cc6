/- (impl.region).place and bytes over a copied disk without copies -/
import Derived.Test.YtpdodpnhohmjaaaGreatDoorPkGoneBlocksDiskRd
namespace Go.Proofs.YtpdodpnhohmjaaaGreatDoor
open Go.RowKit
set_option maxRecDepth 20000
set_option linter.unusedVariables false
set_option linter.unusedSimpArgs false
set_option maxRecDepth 20000
set_option maxHeartbeats 2000000 in
theorem placeK_any (p fr at_ z : Nat) (a : Option Addr) (c : Nat) (es : List StringV) (w : World) (h : CD w p a c es) (hsl : SlS rowString w a es) (hl : es.length ≤ 128) (hz : ∀ e ∈ es, e.f0.size = z) (hz0 : 0 < z) (hzm : z ≤ 1000) (hfr : fr < es.length) (hat : at_ ≤ 200000) :
    Calls Tryz.prog 64 #[.agg #[.iface 48 (.pointer (some ⟨p, 0, none⟩)), .int .i64 (fr : Int)], .int .i64 (at_ : Int)] w fun x w' => x = .returned (.tuple #[.int .i64 ((fr : Int) + ((at_ / z : Nat) : Int)), .int .i64 ((at_ % z : Nat) : Int)]) ∧ Below w.heap.size w w' := by
  obtain ⟨e, he⟩ : ∃ e, es[fr]? = some e := ⟨es[fr], by simp [hfr]⟩
  have hes := hz e (List.mem_of_getElem? he)
  have BL := Lib.hid (fun w' (hb : Below w.heap.size w w') => cdBlock_any p fr a c es e w' (h.below hb h.1) he hl (hsl.below hb (Nat.le_refl _)))
  have d1 : Int.tdiv (at_ : Int) (z : Int) = ((at_ / z : Nat) : Int) := by rw [Int.tdiv_eq_ediv_of_nonneg (by omega)]; exact (Int.natCast_ediv _ _).symm
  have d2 : Int.tmod (at_ : Int) (z : Int) = ((at_ % z : Nat) : Int) := by rw [Int.tmod_eq_emod_of_nonneg (by omega)]; exact (Int.natCast_emod _ _).symm
  have hq : at_ / z ≤ 200000 := Nat.le_trans (Nat.div_le_self _ _) hat
  have hr : at_ % z ≤ 1000 := Nat.le_trans (Nat.le_of_lt (Nat.mod_lt _ hz0)) hzm
  have c1 := (wrap_nat (show at_ / z ≤ 1000000 by omega)).1
  have c2 := wrap_add (show fr + at_ / z ≤ 1000000 by omega)
  have c3 := (wrap_nat (show at_ % z ≤ 1000000 by omega)).1
  have hz1 : ¬ z = 0 := by omega
  have hz2 : ¬ (z : Int) = 0 := by omega
  rw [← hes] at d1 d2 c1 c2 c3 hz1 hz2 hq hr ⊢
  have HES := Lib.hid hes
  clear h hsl hz he hes hq hr
  generalize at_ / e.f0.size = q at *
  generalize at_ % e.f0.size = r at *
  go_enter Tryz.func64, Tryz.ntmps64
  go_wp2_with fail
  have FA := (Below.refl w.heap.size w).alloc (Nat.le_refl _) (.cells #[.iface 48 (.pointer (some ⟨p, 0, none⟩)), .int .i64 (fr : Int)] 84)
  have BX := BoxAt.new w #[.iface 48 (.pointer (some ⟨p, 0, none⟩)), .int .i64 (fr : Int)] 84 _ rfl
  have hlt : w.heap.size < (w.alloc (.cells #[.iface 48 (.pointer (some ⟨p, 0, none⟩)), .int .i64 (fr : Int)] 84)).heap.size := by simp
  generalize w.alloc (.cells #[.iface 48 (.pointer (some ⟨p, 0, none⟩)), .int .i64 (fr : Int)] 84) = W at *
  refine (BL.out _ FA).mono ?_
  rintro x w1 ⟨rfl, rfl⟩
  go_upto_region 2 with (fail)
  have KS := Lib.hid (fun w' (hb : Below W.heap.size W w') => (show w'.cell? ⟨w.heap.size, 1, none⟩ = some (.int .i64 (fr : Int)) from (BX.below hb hlt) 1 _ rfl))
  have HC := Lib.hid (show Below W.heap.size W W.drew from (Below.refl _ _).drew)
  refine wp_region_held_drew (S := (fun w' => w'.cell? ⟨w.heap.size, 1, none⟩ = some (.int .i64 (fr : Int)))) (by kernel_rfl) (KS.out _ HC.out) (fun hHeld => ?_)
  refine wpAnyH_take (i := 0) (oi := { dst := some 13, op := Op.fieldAddr 84 (Operand.tmp 2) 1, type := 0, pos := "l16_chains.go:145", after := #[], guard := none }) (v := ?_) rfl (by kernel_rfl) (by kernel_rfl) (by kernel_rfl) (fun _ _ _ h => h) (Or.inl ⟨by rfl, ?hy⟩) hHeld ?_
  case hy => (intro w' hSw; (try dsimp only at hSw); go_simp; try with_reducible rfl)
  simp only [Act.put, List.setIfInBounds_toArray, List.set_cons_zero, List.set_cons_succ]
  refine wpAnyH_take (i := 1) (oi := { dst := some 14, op := Op.load 2 (Operand.tmp 13), type := 2, pos := "l16_chains.go:145", after := #[{ on := 0, ground := Ground.data }], guard := none }) (v := ?_) rfl (by kernel_rfl) (by kernel_rfl) (by kernel_rfl) (fun _ _ _ h => h) (Or.inl ⟨by rfl, ?hy⟩) hHeld ?_
  case hy => (intro w' hSw; (try dsimp only at hSw); go_simp; try with_reducible rfl)
  simp only [Act.put, List.setIfInBounds_toArray, List.set_cons_zero, List.set_cons_succ]
  refine wpAnyH_take (i := 2) (oi := { dst := some 15, op := Op.move (Operand.tmp 1), type := 2, pos := "l16_chains.go:145", after := #[], guard := none }) (v := ?_) rfl (by kernel_rfl) (by kernel_rfl) (by kernel_rfl) (fun _ _ _ h => h) (Or.inl ⟨by rfl, ?hy⟩) hHeld ?_
  case hy => (intro w' hSw; (try dsimp only at hSw); go_simp; try with_reducible rfl)
  simp only [Act.put, List.setIfInBounds_toArray, List.set_cons_zero, List.set_cons_succ]
  refine wpAnyH_take (i := 3) (oi := { dst := some 16, op := Op.move (Operand.tmp 6), type := 2, pos := "l16_chains.go:145", after := #[], guard := none }) (v := ?_) rfl (by kernel_rfl) (by kernel_rfl) (by kernel_rfl) (fun _ _ _ h => h) (Or.inl ⟨by rfl, ?hy⟩) hHeld ?_
  case hy => (intro w' hSw; (try dsimp only at hSw); go_simp; try with_reducible rfl)
  simp only [Act.put, List.setIfInBounds_toArray, List.set_cons_zero, List.set_cons_succ]
  refine wpAnyH_take (i := 4) (oi := { dst := some 17, op := Op.binOp BinOp.quo 2 (Operand.tmp 15) (Operand.tmp 16) 2, type := 2, pos := "l16_chains.go:145", after := #[{ on := 2, ground := Ground.data }, { on := 3, ground := Ground.data }], guard := none }) (v := ?_) rfl (by kernel_rfl) (by kernel_rfl) (by kernel_rfl) (fun _ _ _ h => h) (Or.inl ⟨by rfl, ?hy⟩) hHeld ?_
  case hy => (intro w' hSw; (try dsimp only at hSw); go_simp; try with_reducible rfl)
  simp only [Act.put, List.setIfInBounds_toArray, List.set_cons_zero, List.set_cons_succ]
  refine wpAnyH_take (i := 5) (oi := { dst := some 18, op := Op.binOp BinOp.add 2 (Operand.tmp 14) (Operand.tmp 17) 2, type := 2, pos := "l16_chains.go:145", after := #[{ on := 1, ground := Ground.data }, { on := 4, ground := Ground.data }], guard := none }) (v := ?_) rfl (by kernel_rfl) (by kernel_rfl) (by kernel_rfl) (fun _ _ _ h => h) (Or.inl ⟨by rfl, ?hy⟩) hHeld ?_
  case hy => (intro w' hSw; (try dsimp only at hSw); go_simp; try with_reducible rfl)
  simp only [Act.put, List.setIfInBounds_toArray, List.set_cons_zero, List.set_cons_succ]
  refine wpAnyH_take (i := 6) (oi := { dst := some 19, op := Op.move (Operand.tmp 1), type := 2, pos := "l16_chains.go:145", after := #[{ on := 9, ground := Ground.gcOnly Departure.lateStores }], guard := none }) (v := ?_) rfl (by kernel_rfl) (by kernel_rfl) (by kernel_rfl) (fun _ _ _ h => h) (Or.inl ⟨by rfl, ?hy⟩) hHeld ?_
  case hy => (intro w' hSw; (try dsimp only at hSw); go_simp; try with_reducible rfl)
  simp only [Act.put, List.setIfInBounds_toArray, List.set_cons_zero, List.set_cons_succ]
  refine wpAnyH_take (i := 7) (oi := { dst := some 20, op := Op.move (Operand.tmp 6), type := 2, pos := "l16_chains.go:145", after := #[{ on := 9, ground := Ground.gcOnly Departure.lateStores }], guard := none }) (v := ?_) rfl (by kernel_rfl) (by kernel_rfl) (by kernel_rfl) (fun _ _ _ h => h) (Or.inl ⟨by rfl, ?hy⟩) hHeld ?_
  case hy => (intro w' hSw; (try dsimp only at hSw); go_simp; try with_reducible rfl)
  simp only [Act.put, List.setIfInBounds_toArray, List.set_cons_zero, List.set_cons_succ]
  refine wpAnyH_take (i := 8) (oi := { dst := some 21, op := Op.binOp BinOp.rem 2 (Operand.tmp 19) (Operand.tmp 20) 2, type := 2, pos := "l16_chains.go:145", after := #[{ on := 6, ground := Ground.data }, { on := 7, ground := Ground.data }, { on := 9, ground := Ground.gcOnly Departure.lateStores }], guard := none }) (v := ?_) rfl (by kernel_rfl) (by kernel_rfl) (by kernel_rfl) (fun _ _ _ h => h) (Or.inl ⟨by rfl, ?hy⟩) hHeld ?_
  case hy => (intro w' hSw; (try dsimp only at hSw); go_simp; try with_reducible rfl)
  simp only [Act.put, List.setIfInBounds_toArray, List.set_cons_zero, List.set_cons_succ]
  refine wpAnyH_take (i := 9) (oi := { dst := some 4, op := Op.assign (Operand.tmp 18), type := 2, pos := "l16_chains.go:145", after := #[{ on := 5, ground := Ground.data }, { on := 0, ground := Ground.phase }, { on := 1, ground := Ground.phase }, { on := 2, ground := Ground.phase }, { on := 3, ground := Ground.phase }, { on := 4, ground := Ground.phase }, { on := 5, ground := Ground.phase }, { on := 6, ground := Ground.textOnly Departure.lateStores }, { on := 7, ground := Ground.textOnly Departure.lateStores }, { on := 8, ground := Ground.textOnly Departure.lateStores }], guard := none }) (v := ?_) rfl (by kernel_rfl) (by kernel_rfl) (by kernel_rfl) (fun _ _ _ h => h) (Or.inl ⟨by rfl, ?hy⟩) hHeld ?_
  case hy => (intro w' hSw; (try dsimp only at hSw); go_simp; try with_reducible rfl)
  simp only [Act.put, List.setIfInBounds_toArray, List.set_cons_zero, List.set_cons_succ]
  refine wpAnyH_take (i := 10) (oi := { dst := some 5, op := Op.assign (Operand.tmp 21), type := 2, pos := "l16_chains.go:145", after := #[{ on := 8, ground := Ground.data }, { on := 9, ground := Ground.chain }, { on := 0, ground := Ground.phase }, { on := 1, ground := Ground.phase }, { on := 2, ground := Ground.phase }, { on := 3, ground := Ground.phase }, { on := 4, ground := Ground.phase }, { on := 5, ground := Ground.phase }, { on := 6, ground := Ground.phase }, { on := 7, ground := Ground.phase }, { on := 8, ground := Ground.phase }, { on := 9, ground := Ground.phase }], guard := none }) (v := ?_) rfl (by kernel_rfl) (by kernel_rfl) (by kernel_rfl) (fun _ _ _ h => h) (Or.inl ⟨by rfl, ?hy⟩) hHeld ?_
  case hy => (intro w' hSw; (try dsimp only at hSw); go_simp; try with_reducible rfl)
  simp only [Act.put, List.setIfInBounds_toArray, List.set_cons_zero, List.set_cons_succ]
  refine wpAnyH_done (by kernel_rfl) ?_ _
  go_wp2
  go_ret2
  exact ⟨rfl, FA.drew⟩
set_option maxHeartbeats 4000000 in
theorem bytesK_any (p fr at_ n z : Nat) (a : Option Addr) (c : Nat) (es : List StringV) (w : World) (h : CD w p a c es) (hsl : SlS rowString w a es) (hl : es.length ≤ 128) (hz : ∀ e ∈ es, e.f0.size = z) (hz0 : 0 < z) (hzm : z ≤ 1000) (hfr : fr < es.length) (hat : fr * z + at_ + n ≤ es.length * z) :
    Calls Tryz.prog 46 #[.agg #[.iface 48 (.pointer (some ⟨p, 0, none⟩)), .int .i64 (fr : Int)], .int .i64 (at_ : Int), .int .i64 (n : Int)] w fun x w' => x = .returned (.string ⟨(cutL (flatL es) (fr * z + at_) n).toArray⟩) ∧ Below w.heap.size w w' := by
  have hfl := flatL_len hz
  have hbig : es.length * z ≤ 100000000 := Nat.le_trans (Nat.mul_le_mul hl hzm) (by omega)
  have hbig2 : es.length * z ≤ 128000 := Nat.le_trans (Nat.mul_le_mul hl hzm) (by omega)
  have ha2 : at_ + n ≤ 128000 := by omega
  have PL := Lib.hid (fun k (hk : k < n) w' (hb : Below w.heap.size w w') => placeK_any p fr (at_ + k) z a c es w' (h.below hb h.1) (hsl.below hb (Nat.le_refl _)) hl hz hz0 hzm hfr (by omega))
  have AT := Lib.hid (show ∀ k, k < n → ∃ e, es[fr + (at_ + k) / z]? = some e ∧ ∃ hr : (at_ + k) % z < e.f0.size, (flatL es)[fr * z + at_ + k]? = some e.f0[(at_ + k) % z] from fun k hk => by
    have hm := Nat.div_add_mod (at_ + k) z
    have hr := Nat.mod_lt (at_ + k) hz0
    have e2 : (fr + (at_ + k) / z) * z = fr * z + z * ((at_ + k) / z) := by rw [Nat.add_mul, Nat.mul_comm ((at_ + k) / z)]
    have hlt : fr + (at_ + k) / z < es.length := by
      apply Nat.lt_of_mul_lt_mul_right (a := z)
      omega
    obtain ⟨e, he⟩ : ∃ e, es[fr + (at_ + k) / z]? = some e := ⟨es[fr + (at_ + k) / z], by simp [hlt]⟩
    have hes := hz e (List.mem_of_getElem? he)
    refine ⟨e, he, by omega, ?_⟩
    have h1 := flatL_at hz he hr
    have e1 : (fr + (at_ + k) / z) * z + (at_ + k) % z = fr * z + at_ + k := by omega
    rw [e1] at h1
    rw [h1, List.getElem?_eq_getElem (by rw [bytes_len]; omega)]
    simp [ByteArray.getElem_eq_getElem_data])
  have BL := Lib.hid (fun k (e : StringV) (he : es[fr + (at_ + k) / z]? = some e) w' (hb : Below w.heap.size w w') => cdBlock_any p (fr + (at_ + k) / z) a c es e w' (h.below hb h.1) he hl (hsl.below hb (Nat.le_refl _)))
  have LN := Lib.hid (fun k (hk : k ≤ n) => cutL_len (bs := flatL es) (k := fr * z + at_) (n := k) (by rw [hfl]; omega))
  have SN := Lib.hid (fun k (x : UInt8) (hx : (flatL es)[fr * z + at_ + k]? = some x) => cutL_snoc (n := k) hx)
  have hz9 : (0 : Nat) ≤ n := Nat.zero_le _
  have hn2 : n ≤ 128000 := by omega
  have ha3 : at_ ≤ 128000 := by omega
  have L0 := Lib.hid (show cutL (flatL es) (fr * z + at_) 0 = [] from rfl)
  clear h hsl hl hz hz0 hzm hfr hat hfl hbig hbig2
  generalize fr * z + at_ = base at *
  generalize flatL es = fl at *
  go_enter Tryz.func46, Tryz.ntmps46
  have R0 := Lib.hid (BoxAt.new w #[.iface 48 (.pointer (some ⟨p, 0, none⟩)), .int .i64 (fr : Int)] 84 _ rfl)
  have FB0 := (Below.refl w.heap.size w).alloc (Nat.le_refl _) (.cells #[.iface 48 (.pointer (some ⟨p, 0, none⟩)), .int .i64 (fr : Int)] 84)
  have hlt0 : w.heap.size < (w.alloc (.cells #[.iface 48 (.pointer (some ⟨p, 0, none⟩)), .int .i64 (fr : Int)] 84)).heap.size := by simp
  have hs0 : (w.alloc (.cells #[.iface 48 (.pointer (some ⟨p, 0, none⟩)), .int .i64 (fr : Int)] 84)).heap.size = w.heap.size + 1 := by simp
  go_wp2
  generalize w.alloc (.cells #[.iface 48 (.pointer (some ⟨p, 0, none⟩)), .int .i64 (fr : Int)] 84) = W0 at *
  have BF := Bld.fresh W0
  have R1 := R0.out.alloc (.cells #[.pointer none, .slice none 0 0] 102) hlt0
  have FB1 := FB0.alloc (by omega) (.cells #[.pointer none, .slice none 0 0] 102)
  have hzW : W0.heap.size < (W0.alloc (.cells #[.pointer none, .slice none 0 0] 102)).heap.size := by simp
  generalize W0.alloc (.cells #[.pointer none, .slice none 0 0] 102) = W1 at *
  have hbw : w.heap.size < w.heap.size + 1 := by omega
  rw [hs0] at BF hzW
  clear hs0 hlt0 FB0
  go_loopw [12] (fun i wr => ∃ k : Nat, k ≤ n ∧ i = .int .i64 k ∧ Bld (w.heap.size + 1) (w.heap.size + 1) (cutL fl base k) wr ∧ BoxAt wr w.heap.size #[.iface 48 (.pointer (some ⟨p, 0, none⟩)), .int .i64 (fr : Int)] ∧ Below w.heap.size w wr ∧ Hid (w.heap.size + 1 ≤ wr.heap.size)) (fun i _ => n - (intOf i).toNat)
  case atStart => exact ⟨0, Nat.zero_le _, rfl, by rw [L0.out]; exact BF, R1, FB1, Lib.hid (Nat.le_of_lt hzW)⟩
  case round =>
    obtain ⟨k, hk, rfl, hbl, hbx, hb, hzb⟩ := hrel
    by_cases hlt : k < n
    · obtain ⟨e, he, hr, hfk⟩ := AT.out k hlt
      have pk := PL.out k hlt
      have bk := BL.out k e he
      simp only [Int.natCast_add] at pk bk
      have HSN := Lib.hid (SN.out k _ hfk)
      have HLN := Lib.hid (LN.out k hk)
      have hq : (at_ + k) / z ≤ 1000000 := Nat.le_trans (Nat.div_le_self _ _) (by omega)
      have hfr2 : fr < es.length := Nat.lt_of_le_of_lt (Nat.le_add_right _ _) (List.getElem?_eq_some_iff.1 he).1
      clear he hfk
      generalize (at_ + k) / z = q at *
      generalize (at_ + k) % z = r at *
      have PK := Lib.hid pk; have BK := Lib.hid bk
      have e1 : (k : Int) < (n : Int) := by omega
      have x0 := hbx 0 _ rfl
      have x1 := hbx 1 _ rfl
      have hbt := byte_bd e.f0[r]
      have HBX := Lib.hid hbx; have HB := Lib.hid hb; have HBL := Lib.hid hbl
      clear hbx hb hbl pk bk
      go_wp2_with fail
      refine (PK.out _ HB.out).mono ?_
      rintro x w2 ⟨rfl, hb2⟩
      have hz2 := hb2.size
      have BX2 := Lib.hid (HBX.out.below hb2 (HBX.out.lt (by simp)))
      have HB2 := Lib.hid (HB.out.trans (hb2.mono HB.out.size))
      have BL2 := Lib.hid (HBL.out.same (fun i hi1 hi2 => hb2.block i hi2))
      have hzb2 := Nat.le_trans hzb.out hz2
      have x3 := BX2.out 0 _ rfl
      clear hb2 x0 x1
      go_wp2_with fail
      refine (BK.out _ HB2.out).mono ?_
      rintro x w3 ⟨rfl, rfl⟩
      go_wp2_with fail
      refine (writeByte_any (w.heap.size + 1) (w.heap.size + 1) (cutL fl base k) (e.f0[r].toNat : Int) _ hbt.1 hbt.2 BL2.out (by rw [HLN.out]; omega) hzb2).mono ?_
      rintro x w4 ⟨rfl, hB4, hb4⟩
      rw [byte_back] at hB4
      have HB4 := Lib.hid (show Bld (w.heap.size + 1) (w.heap.size + 1) (cutL fl base (k + 1)) w4 by rw [HSN.out]; exact hB4)
      have BX4 := Lib.hid (show BoxAt w4 w.heap.size #[.iface 48 (.pointer (some ⟨p, 0, none⟩)), .int .i64 (fr : Int)] from BX2.out.below hb4 hbw)
      have FB4 := Lib.hid (HB2.out.trans (hb4.mono (Nat.le_of_lt hbw)))
      have HZ4 := Lib.hid (Nat.le_trans hzb2 hb4.size)
      clear hB4 hb4 x3
      go_wp2
      go_roundw
      case rel => exact ⟨k + 1, by omega, by go_num, HB4.out, BX4.out, FB4.out, HZ4⟩
      case measure => simp [intOf]; omega
    · obtain rfl : k = n := by omega
      have e1 : ¬ (k : Int) < (k : Int) := by omega
      have hsz := hzb.out
      have HB := Lib.hid hb
      clear hbx hb
      go_wp2_with (go_at_call 66; refine (Tryz.Builder_String_any (w.heap.size + 1) (w.heap.size + 1) (cutL fl base k) _ hbl hsz).mono ?_; rintro e w1 ⟨rfl, hb1⟩)
      go_ret
      exact ⟨rfl, HB.out.trans (hb1.mono (Nat.le_of_lt hbw))⟩
end Go.Proofs.YtpdodpnhohmjaaaGreatDoor
