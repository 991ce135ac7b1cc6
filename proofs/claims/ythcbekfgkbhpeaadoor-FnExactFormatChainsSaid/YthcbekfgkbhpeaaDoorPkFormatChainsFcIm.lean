/- (impl.region).put over a new disk; impl.FormatChains -/
import Derived.Test.YthcbekfgkbhpeaaDoorPkFormatChainsFcVal
import Derived.Test.YthcbekfgkbhpeaaDoorPkFormatChainsFmtIm
import Derived.Test.YthcbekfgkbhpeaaDoorPkFormatChainsE
import Derived.Test.YthcbekfgkbhpeaaDoorPkFormatChainsDiskRd
namespace Go.Proofs.YthcbekfgkbhpeaaDoor
open Go.RowKit
set_option maxRecDepth 20000
set_option linter.unusedVariables false
set_option linter.unusedSimpArgs false
set_option maxRecDepth 20000
set_option maxHeartbeats 2000000 in
theorem blkN_any (g n q : Nat) (s : ByteArray) (w : World) (hc : w.cell? ⟨g, q, none⟩ = some (.string s)) (hq : q < n) (hn : n ≤ 128) :
    Calls Tryd.prog 142 #[.slice (some ⟨g, 0, none⟩) n n, .int .i64 (q : Int)] w fun e w' => e = .returned (.string s) ∧ w = w' := by
  have e1 : (q : Int) < (n : Int) := by omega
  go_enter Tryd.func142, Tryd.ntmps142
  go_wp2
  go_ret
  exact ⟨rfl, rfl⟩
set_option maxHeartbeats 2000000 in
theorem setN_any (g n q : Nat) (s : ByteArray) (v : Value) (w : World) (hc : w.cell? ⟨g, q, none⟩ = some v) (hf : w.frozen? ⟨g, q, none⟩ = false) (hq : q < n) (hn : n ≤ 128) :
    Calls Tryd.prog 143 #[.slice (some ⟨g, 0, none⟩) n n, .int .i64 (q : Int), .string s] w fun e w' => e = .returned (.tuple #[]) ∧ w.setCell ⟨g, q, none⟩ (.string s) = w' := by
  have e1 : (q : Int) < (n : Int) := by omega
  go_enter Tryd.func143, Tryd.ntmps143
  go_wp2
  go_end0
  exact ⟨rfl, rfl⟩
set_option maxHeartbeats 2000000 in
theorem placeN_any (g n B fr at_ z : Nat) (es : List StringV) (w : World) (h : OwnBS w B g es) (hl : es.length = n) (hn : n ≤ 128) (hz : ∀ e ∈ es, e.f0.size = z) (hz0 : 0 < z) (hzm : z ≤ 1000) (hfr : fr < n) (hat : at_ ≤ 200000) :
    Calls Tryd.prog 68 #[.agg #[.iface 64 (.slice (some ⟨g, 0, none⟩) n n), .int .i64 (fr : Int)], .int .i64 (at_ : Int)] w fun x w' => x = .returned (.tuple #[.int .i64 ((fr : Int) + ((at_ / z : Nat) : Int)), .int .i64 ((at_ % z : Nat) : Int)]) ∧ Below w.heap.size w w' := by
  obtain ⟨e, he⟩ : ∃ e, es[fr]? = some e := ⟨es[fr], by simp [hl, hfr]⟩
  have hes := hz e (List.mem_of_getElem? he)
  have BL := Lib.hid (fun w' (hb : Below w.heap.size w w') => blkN_any g n fr e.f0 w' ((h.below hb h.lt).cell he) hfr hn)
  have d1 : Int.tdiv (at_ : Int) (z : Int) = ((at_ / z : Nat) : Int) := by rw [Int.tdiv_eq_ediv_of_nonneg (by omega)]; exact (Int.natCast_ediv _ _).symm
  have d2 : Int.tmod (at_ : Int) (z : Int) = ((at_ % z : Nat) : Int) := by rw [Int.tmod_eq_emod_of_nonneg (by omega)]; exact (Int.natCast_emod _ _).symm
  have hq : at_ / z ≤ 200000 := Nat.le_trans (Nat.div_le_self _ _) hat
  have hr : at_ % z ≤ 1000 := Nat.le_trans (Nat.le_of_lt (Nat.mod_lt _ hz0)) hzm
  have c1 := (wrap_nat (show at_ / z ≤ 1000000 by omega)).1
  have c2 := wrap_add (show fr + at_ / z ≤ 1000000 by omega)
  have c3 := (wrap_nat (show at_ % z ≤ 1000000 by omega)).1
  have hz1 : ¬ z = 0 := by omega
  have hz2 : ¬ (z : Int) = 0 := by omega
  rw [← hes] at d1 d2 c1 c2 c3 hz1 hz2 hq hr ⊢
  clear h hz he hes hq hr hl
  generalize at_ / e.f0.size = q at *
  generalize at_ % e.f0.size = r at *
  go_enter Tryd.func68, Tryd.ntmps68
  go_wp2_with fail
  have FA := (Below.refl w.heap.size w).alloc (Nat.le_refl _) (.cells #[.iface 64 (.slice (some ⟨g, 0, none⟩) n n), .int .i64 (fr : Int)] 62)
  have BX := BoxAt.new w #[.iface 64 (.slice (some ⟨g, 0, none⟩) n n), .int .i64 (fr : Int)] 62 _ rfl
  have hlt : w.heap.size < (w.alloc (.cells #[.iface 64 (.slice (some ⟨g, 0, none⟩) n n), .int .i64 (fr : Int)] 62)).heap.size := by simp
  generalize w.alloc (.cells #[.iface 64 (.slice (some ⟨g, 0, none⟩) n n), .int .i64 (fr : Int)] 62) = W at *
  refine (BL.out _ FA).mono ?_
  rintro x w1 ⟨rfl, rfl⟩
  go_upto_region 2 with (fail)
  have KS := Lib.hid (fun w' (hb : Below W.heap.size W w') => (show w'.cell? ⟨w.heap.size, 1, none⟩ = some (.int .i64 (fr : Int)) from (BX.below hb hlt) 1 _ rfl))
  have HC := Lib.hid (show Below W.heap.size W W.drew from (Below.refl _ _).drew)
  refine wp_region_held_drew (S := (fun w' => w'.cell? ⟨w.heap.size, 1, none⟩ = some (.int .i64 (fr : Int)))) (by kernel_rfl) (KS.out _ HC.out) (fun hHeld => ?_)
  refine wpAnyH_take (i := 0) (oi := { dst := some 13, op := Op.fieldAddr 62 (Operand.tmp 2) 1, type := 0, pos := "l16_chains.go:145", after := #[], guard := none }) (v := ?_) rfl (by kernel_rfl) (by kernel_rfl) (by kernel_rfl) (fun _ _ _ h => h) (Or.inl ⟨by rfl, ?hy⟩) hHeld ?_
  case hy => (intro w' hSw; (try dsimp only at hSw); go_simp; try with_reducible rfl)
  simp only [Act.put, List.setIfInBounds_toArray, List.set_cons_zero, List.set_cons_succ]
  refine wpAnyH_take (i := 1) (oi := { dst := some 14, op := Op.load 2 (Operand.tmp 13), type := 2, pos := "l16_chains.go:145", after := #[{ on := 0, ground := Ground.data }], guard := none }) (v := ?_) rfl (by kernel_rfl) (by kernel_rfl) (by kernel_rfl) (fun _ _ _ h => h) (Or.inl ⟨by rfl, ?hy⟩) hHeld ?_
  case hy => (intro w' hSw; (try dsimp only at hSw); go_simp; try with_reducible rfl)
  simp only [Act.put, List.setIfInBounds_toArray, List.set_cons_zero, List.set_cons_succ]
  refine wpAnyH_take (i := 2) (oi := { dst := some 15, op := Op.move (Operand.tmp 1), type := 2, pos := "l16_chains.go:145", after := #[], guard := none }) (v := ?_) rfl (by kernel_rfl) (by kernel_rfl) (by kernel_rfl) (fun _ _ _ h => h) (Or.inl ⟨by rfl, ?hy⟩) hHeld ?_
  case hy => (intro w' hSw; (try dsimp only at hSw); go_simp; try with_reducible rfl)
  simp only [Act.put, List.setIfInBounds_toArray, List.set_cons_zero, List.set_cons_succ]
  refine wpAnyH_take (i := 3) (oi := { dst := some 16, op := Op.move (Operand.tmp 6), type := 2, pos := "l16_chains.go:145", after := #[], guard := none }) (v := ?_) rfl (by kernel_rfl) (by kernel_rfl) (by kernel_rfl) (fun _ _ _ h => h) (Or.inl ⟨by rfl, ?hy⟩) hHeld ?_
  case hy => (intro w' hSw; (try dsimp only at hSw); go_simp; try with_reducible rfl)
  simp only [Act.put, List.setIfInBounds_toArray, List.set_cons_zero, List.set_cons_succ]
  refine wpAnyH_take (i := 4) (oi := { dst := some 17, op := Op.binOp BinOp.quo 2 (Operand.tmp 15) (Operand.tmp 16) 2, type := 2, pos := "l16_chains.go:145", after := #[{ on := 2, ground := Ground.data }, { on := 3, ground := Ground.data }], guard := none }) (v := ?_) rfl (by kernel_rfl) (by kernel_rfl) (by kernel_rfl) (fun _ _ _ h => h) (Or.inl ⟨by rfl, ?hy⟩) hHeld ?_
  case hy => (intro w' hSw; (try dsimp only at hSw); go_simp; try with_reducible rfl)
  simp only [Act.put, List.setIfInBounds_toArray, List.set_cons_zero, List.set_cons_succ]
  refine wpAnyH_take (i := 5) (oi := { dst := some 18, op := Op.binOp BinOp.add 2 (Operand.tmp 14) (Operand.tmp 17) 2, type := 2, pos := "l16_chains.go:145", after := #[{ on := 1, ground := Ground.data }, { on := 4, ground := Ground.data }], guard := none }) (v := ?_) rfl (by kernel_rfl) (by kernel_rfl) (by kernel_rfl) (fun _ _ _ h => h) (Or.inl ⟨by rfl, ?hy⟩) hHeld ?_
  case hy => (intro w' hSw; (try dsimp only at hSw); go_simp; try with_reducible rfl)
  simp only [Act.put, List.setIfInBounds_toArray, List.set_cons_zero, List.set_cons_succ]
  refine wpAnyH_take (i := 6) (oi := { dst := some 19, op := Op.move (Operand.tmp 1), type := 2, pos := "l16_chains.go:145", after := #[{ on := 9, ground := Ground.gcOnly Departure.lateStores }], guard := none }) (v := ?_) rfl (by kernel_rfl) (by kernel_rfl) (by kernel_rfl) (fun _ _ _ h => h) (Or.inl ⟨by rfl, ?hy⟩) hHeld ?_
  case hy => (intro w' hSw; (try dsimp only at hSw); go_simp; try with_reducible rfl)
  simp only [Act.put, List.setIfInBounds_toArray, List.set_cons_zero, List.set_cons_succ]
  refine wpAnyH_take (i := 7) (oi := { dst := some 20, op := Op.move (Operand.tmp 6), type := 2, pos := "l16_chains.go:145", after := #[{ on := 9, ground := Ground.gcOnly Departure.lateStores }], guard := none }) (v := ?_) rfl (by kernel_rfl) (by kernel_rfl) (by kernel_rfl) (fun _ _ _ h => h) (Or.inl ⟨by rfl, ?hy⟩) hHeld ?_
  case hy => (intro w' hSw; (try dsimp only at hSw); go_simp; try with_reducible rfl)
  simp only [Act.put, List.setIfInBounds_toArray, List.set_cons_zero, List.set_cons_succ]
  refine wpAnyH_take (i := 8) (oi := { dst := some 21, op := Op.binOp BinOp.rem 2 (Operand.tmp 19) (Operand.tmp 20) 2, type := 2, pos := "l16_chains.go:145", after := #[{ on := 6, ground := Ground.data }, { on := 7, ground := Ground.data }, { on := 9, ground := Ground.gcOnly Departure.lateStores }], guard := none }) (v := ?_) rfl (by kernel_rfl) (by kernel_rfl) (by kernel_rfl) (fun _ _ _ h => h) (Or.inl ⟨by rfl, ?hy⟩) hHeld ?_
  case hy => (intro w' hSw; (try dsimp only at hSw); go_simp; try with_reducible rfl)
  simp only [Act.put, List.setIfInBounds_toArray, List.set_cons_zero, List.set_cons_succ]
  refine wpAnyH_take (i := 9) (oi := { dst := some 4, op := Op.assign (Operand.tmp 18), type := 2, pos := "l16_chains.go:145", after := #[{ on := 5, ground := Ground.data }, { on := 0, ground := Ground.phase }, { on := 1, ground := Ground.phase }, { on := 2, ground := Ground.phase }, { on := 3, ground := Ground.phase }, { on := 4, ground := Ground.phase }, { on := 5, ground := Ground.phase }, { on := 6, ground := Ground.textOnly Departure.lateStores }, { on := 7, ground := Ground.textOnly Departure.lateStores }, { on := 8, ground := Ground.textOnly Departure.lateStores }], guard := none }) (v := ?_) rfl (by kernel_rfl) (by kernel_rfl) (by kernel_rfl) (fun _ _ _ h => h) (Or.inl ⟨by rfl, ?hy⟩) hHeld ?_
  case hy => (intro w' hSw; (try dsimp only at hSw); go_simp; try with_reducible rfl)
  simp only [Act.put, List.setIfInBounds_toArray, List.set_cons_zero, List.set_cons_succ]
  refine wpAnyH_take (i := 10) (oi := { dst := some 5, op := Op.assign (Operand.tmp 21), type := 2, pos := "l16_chains.go:145", after := #[{ on := 8, ground := Ground.data }, { on := 9, ground := Ground.chain }, { on := 0, ground := Ground.phase }, { on := 1, ground := Ground.phase }, { on := 2, ground := Ground.phase }, { on := 3, ground := Ground.phase }, { on := 4, ground := Ground.phase }, { on := 5, ground := Ground.phase }, { on := 6, ground := Ground.phase }, { on := 7, ground := Ground.phase }, { on := 8, ground := Ground.phase }, { on := 9, ground := Ground.phase }], guard := none }) (v := ?_) rfl (by kernel_rfl) (by kernel_rfl) (by kernel_rfl) (fun _ _ _ h => h) (Or.inl ⟨by rfl, ?hy⟩) hHeld ?_
  case hy => (intro w' hSw; (try dsimp only at hSw); go_simp; try with_reducible rfl)
  simp only [Act.put, List.setIfInBounds_toArray, List.set_cons_zero, List.set_cons_succ]
  refine wpAnyH_done (by kernel_rfl) ?_ _
  go_wp2
  go_ret2
  exact ⟨rfl, FA.drew⟩
set_option maxHeartbeats 8000000 in
theorem putN_any (g n z m B : Nat) (fl : List UInt8) (v : UInt8) (t : ByteArray) (w : World) (h : OwnBS w B g (unflatL fl n z)) (hB : B ≤ w.heap.size) (hfl : fl.length = n * z) (hz0 : 0 < z) (hzm : z ≤ 32) (hn : n ≤ 128) (hm : z + m ≤ n * z) (ht : t.size = m) (hv : ∀ k (hk : k < t.size), t[k] = v) :
    Calls Tryd.prog 41 #[.agg #[.iface 64 (.slice (some ⟨g, 0, none⟩) n n), .int .i64 1], .int .i64 0, .string t] w fun e w' => e = .returned (.tuple #[]) ∧ OwnBS w' B g (unflatL (setsL fl z v m) n z) ∧ Below B w w' := by
  have hcv2 := Lib.hid (fun w s => run_bytes_of_string (P := Tryd.prog) w 9 49 5 s Tryd.underlying9 Tryd.underlying49 Tryd.underlying5)
  have hnz : n * z ≤ 4096 := Nat.le_trans (Nat.mul_le_mul hn hzm) (by omega)
  have hmn : m ≤ 4096 := by omega
  have hn1 : 1 < n ∨ m = 0 := by
    rcases Nat.lt_or_ge 1 n with h1 | h1
    · exact .inl h1
    · right
      have : n * z ≤ 1 * z := Nat.mul_le_mul_right z h1
      omega
  have hsz : ∀ k, ∀ e ∈ unflatL (setsL fl z v k) n z, e.f0.size = z := fun k e he => by
    obtain ⟨i, hi, rfl⟩ := List.mem_map.1 he
    have hi := List.mem_range.1 hi
    have h1 : (i + 1) * z ≤ n * z := Nat.mul_le_mul_right z hi
    rw [Nat.add_mul] at h1
    show (cutL _ _ _).toArray.size = z
    rw [List.size_toArray]
    exact cutL_len (by rw [setsL_len, hfl]; omega)
  have PL := Lib.hid (fun k (hk : k < m) w' (hw : OwnBS w' B g (unflatL (setsL fl z v k) n z)) => show Calls Tryd.prog 68 #[.agg #[.iface 64 (.slice (some ⟨g, 0, none⟩) n n), .int .i64 1], .int .i64 (k : Int)] w' fun x w2 => x = .returned (.tuple #[.int .i64 ((1 + k / z : Nat) : Int), .int .i64 ((k % z : Nat) : Int)]) ∧ Below w'.heap.size w' w2 from by
    have h9 := placeN_any g n B 1 k z _ w' hw (unflatL_len _ _ _) hn (hsz k) hz0 (by omega) (by omega) (by omega)
    rw [← Int.natCast_add] at h9
    exact h9)
  have AT := Lib.hid (show ∀ k, k < m → ∃ l : List UInt8, l.length = z ∧ k % z < z ∧ 1 + k / z < n ∧ (∀ w', OwnBS w' B g (unflatL (setsL fl z v k) n z) → w'.cell? ⟨g, 1 + k / z, none⟩ = some (.string ⟨l.toArray⟩) ∧ w'.frozen? ⟨g, 1 + k / z, none⟩ = false ∧ OwnBS (w'.setCell ⟨g, 1 + k / z, none⟩ (.string ⟨(l.set (k % z) v).toArray⟩)) B g (unflatL (setsL fl z v (k + 1)) n z)) from fun k hk => by
    have hmd := Nat.div_add_mod k z
    have hr := Nat.mod_lt k hz0
    have e2 : (1 + k / z) * z = z + z * (k / z) := by rw [Nat.add_mul, Nat.mul_comm (k / z)]; omega
    have hq : 1 + k / z < n := by
      apply Nat.lt_of_mul_lt_mul_right (a := z)
      omega
    have e3 : z + k = (1 + k / z) * z + k % z := by omega
    have hle : (1 + k / z + 1) * z ≤ n * z := Nat.mul_le_mul_right z hq
    rw [Nat.add_mul (1 + k / z) 1 z] at hle
    refine ⟨cutL (setsL fl z v k) ((1 + k / z) * z) z, cutL_len (by rw [setsL_len, hfl]; omega), hr, hq, fun w' hw => ⟨hw.cell (unflatL_at hq), hw.free _, ?_⟩⟩
    have h1 := hw.put (1 + k / z) ⟨((cutL (setsL fl z v k) ((1 + k / z) * z) z).set (k % z) v).toArray⟩ (by rw [unflatL_len]; exact hq)
    rw [← unflatL_set hq hr, ← e3] at h1
    exact h1)
  have hz9 : (0 : Nat) ≤ m := Nat.zero_le _
  have HV := Lib.hid hv
  have hgB : B ≤ g := h.choose_spec.1
  have H0 := Lib.hid (show OwnBS w B g (unflatL (setsL fl z v 0) n z) from h)
  have KP := Lib.hid (fun (k : Nat) (w1 w2 : World) (hw : OwnBS w1 B g (unflatL (setsL fl z v k) n z)) (hb : Below w1.heap.size w1 w2) => show OwnBS w2 B g (unflatL (setsL fl z v k) n z) from hw.below hb hw.lt)
  have LT := Lib.hid (fun (k : Nat) (w1 : World) (hw : OwnBS w1 B g (unflatL (setsL fl z v k) n z)) => hw.lt)
  clear hfl hnz hsz hv h hm
  obtain ⟨es, hes⟩ : ∃ es : Nat → List StringV, (fun k => unflatL (setsL fl z v k) n z) = es := ⟨_, rfl⟩
  have he9 : ∀ k, unflatL (setsL fl z v k) n z = es k := fun k => congrFun hes k
  simp only [he9] at PL AT H0 KP LT ⊢
  clear he9 hes
  go_enter Tryd.func41, Tryd.ntmps41
  have R0 := Lib.hid (BoxAt.new w #[.iface 64 (.slice (some ⟨g, 0, none⟩) n n), .int .i64 1] 62 _ rfl)
  have FB0 := (Below.refl w.heap.size w).alloc (Nat.le_refl _) (.cells #[.iface 64 (.slice (some ⟨g, 0, none⟩) n n), .int .i64 1] 62)
  have H1 := Lib.hid (KP.out 0 _ _ H0.out FB0)
  have hs0 : w.heap.size < (w.alloc (.cells #[.iface 64 (.slice (some ⟨g, 0, none⟩) n n), .int .i64 1] 62)).heap.size := by simp
  have FB1 := Lib.hid (FB0.mono hB)
  have hg0 := LT.out 0 _ H0.out
  have hgw : g ≠ w.heap.size := by omega
  clear FB0 hg0
  go_wp2
  generalize w.alloc (.cells #[.iface 64 (.slice (some ⟨g, 0, none⟩) n n), .int .i64 1] 62) = W0 at *
  go_loopw [12] (fun i wr => ∃ k : Nat, k ≤ m ∧ i = .int .i64 k ∧ OwnBS wr B g (es k) ∧ BoxAt wr w.heap.size #[.iface 64 (.slice (some ⟨g, 0, none⟩) n n), .int .i64 1] ∧ Below B w wr ∧ Hid (w.heap.size < wr.heap.size)) (fun i _ => m - (intOf i).toNat)
  case atStart => exact ⟨0, Nat.zero_le _, rfl, H1.out, R0.out, FB1.out, Lib.hid hs0⟩
  case round =>
    obtain ⟨k, hk, rfl, hob, hbx, hb, hzb⟩ := hrel
    by_cases hlt : k < m
    · obtain ⟨l, hll, hr, hq, hat⟩ := AT.out k hlt
      have pk := PL.out k hlt
      have hkd : k / z ≤ 5000 := Nat.le_trans (Nat.div_le_self _ _) (by omega)
      have vk := HV.out k (by omega)
      have w3 := (wrap_nat (show k ≤ 1000000 by omega)).1
      generalize 1 + k / z = q at *
      generalize k % z = r at *
      have hkt : k < t.size := by omega
      have e1 : (k : Int) < (m : Int) := by omega
      have x0 := hbx 0 _ rfl
      have x1 := hbx 1 _ rfl
      have HBX := Lib.hid hbx; have HB := Lib.hid hb; have HOB := Lib.hid hob; have PK := Lib.hid pk; have HAT := Lib.hid hat
      clear hbx hb hob pk hat
      go_wp2_with fail
      refine (PK.out _ HOB.out).mono ?_
      rintro x w2 ⟨rfl, hb2⟩
      have hz2 := hb2.size
      have BX2 := Lib.hid (HBX.out.below hb2 (HBX.out.lt (by simp)))
      have HB2 := Lib.hid (HB.out.trans (hb2.mono (Nat.le_trans hB HB.out.size)))
      have HO2 := Lib.hid (KP.out _ _ _ HOB.out hb2)
      have hzb2 := Nat.lt_of_lt_of_le hzb.out hz2
      obtain ⟨cg, fg, _⟩ := HAT.out _ HO2.out
      have x3 := BX2.out 0 _ rfl
      clear hb2 x0 x1
      go_wp2_with fail
      refine (blkN_any g n q _ _ cg hq hn).mono ?_
      rintro x w3 ⟨rfl, rfl⟩
      clear cg fg x3
      have hcv := hcv2.out w2 ⟨l.toArray⟩
      have hsl : (⟨l.toArray⟩ : ByteArray).size = z := by show l.toArray.size = z; rw [List.size_toArray]; exact hll
      have hcap := grownCap_ge w2 z 0 5
      rw [hsl] at hcv
      obtain ⟨cap, hcp⟩ : ∃ cap, grownCap w2 z 0 5 = cap := ⟨_, rfl⟩
      rw [hcp] at hcv hcap
      have hRB := RowB.ofBytes ⟨l.toArray⟩ cap (by rw [hsl]; exact hcap)
      rw [hRB.1] at hcv
      obtain ⟨C, hC⟩ : ∃ C, bytesRow ⟨l.toArray⟩ cap = C := ⟨_, rfl⟩
      rw [hC] at hcv hRB
      obtain ⟨W3, hW3⟩ : ∃ W, w2.drew.alloc (.cells C 5 (cap, cap + 1)) = W := ⟨_, rfl⟩
      rw [hW3] at hcv
      have hC3 : W3.heap[w2.heap.size]? = some (.cells C 5 (cap, cap + 1)) := by rw [← hW3]; show (w2.heap.push _)[w2.heap.size]? = _; simp
      have hb3 : Below w2.heap.size w2 W3 := by rw [← hW3]; exact ((Below.refl _ _).drew).alloc (by simp) _
      have hRC : RowB C l cap := hRB
      clear hW3 hC hcp hRB
      have hcl := hRC.cell hC3 r (by omega)
      have hfr : W3.frozen? ⟨w2.heap.size, r, none⟩ = false := by
        have := hRC.1; have := hRC.2.1
        simp [World.frozen?, hC3]; omega
      have hRS := hRC.set r v (by omega)
      have hC4 := heap_set_marked W3 w2.heap.size r C 5 (cap, cap + 1) (.int .u8 (v.toNat : Int)) hC3
      have hcv4 := hRS.conv hC4 z cap (by rw [List.length_set]; exact hll)
      have hb4 := hb3.setCell (p := ⟨w2.heap.size, r, none⟩) (Nat.le_refl _) (.int .u8 (v.toNat : Int))
      have HO4 := Lib.hid (KP.out _ _ _ HO2.out hb4)
      have BX4 := Lib.hid (BX2.out.below hb4 (BX2.out.lt (by simp)))
      have FB4 := Lib.hid (HB2.out.trans (hb4.mono (Nat.le_trans hB HB2.out.size)))
      have HZ4 := Lib.hid (Nat.lt_of_lt_of_le hzb2 hb4.size)
      obtain ⟨cg, fg, on⟩ := HAT.out _ HO4.out
      have ON := Lib.hid on
      have x3 := (BX2.out.below hb4 (BX2.out.lt (by simp))) 0 _ rfl
      have hr2 : r < l.length := by omega
      clear hRC hRS hC3 hC4 hb3 hb4 on
      generalize l[r].toNat = ov at *
      go_wp2_with fail
      refine (setN_any g n q _ _ _ cg fg hq hn).mono ?_
      rintro x w5 ⟨rfl, rfl⟩
      have BX5 := Lib.hid (show BoxAt ((W3.setCell ⟨w2.heap.size, r, none⟩ (.int .u8 (v.toNat : Int))).setCell ⟨g, q, none⟩ (.string ⟨(l.set r v).toArray⟩)) w.heap.size #[.iface 64 (.slice (some ⟨g, 0, none⟩) n n), .int .i64 1] from fun i u hu => by rw [World.cell?_of_block (heap_setCell_ne _ _ _ _ _ (Ne.symm hgw))]; exact BX4.out i u hu)
      have FB5 := Lib.hid (FB4.out.setCell (p := ⟨g, q, none⟩) hgB (.string ⟨(l.set r v).toArray⟩))
      have HZ5 : w.heap.size < ((W3.setCell ⟨w2.heap.size, r, none⟩ (.int .u8 (v.toNat : Int))).setCell ⟨g, q, none⟩ (.string ⟨(l.set r v).toArray⟩)).heap.size := by simpa [World.setCell] using HZ4.out
      have ON5 := Lib.hid ON.out
      generalize (W3.setCell ⟨w2.heap.size, r, none⟩ (.int .u8 (v.toNat : Int))).setCell ⟨g, q, none⟩ (.string ⟨(l.set r v).toArray⟩) = W5 at *
      clear cg fg x3 hcv hcv4 hcl hfr
      go_wp2
      go_roundw
      case rel => exact ⟨k + 1, by omega, by go_num, ON5.out, BX5.out, FB5.out, Lib.hid HZ5⟩
      case measure => simp [intOf]; omega
    · obtain rfl : k = m := by omega
      have e1 : ¬ (k : Int) < (k : Int) := by omega
      have HB := Lib.hid hb; have HOB := Lib.hid hob
      clear hbx hb hob
      go_wp2
      go_end0
      exact ⟨rfl, HOB.out, HB.out⟩
theorem tableN_any (g n : Nat) (w : World) :
    Calls Tryd.prog 40 #[.iface 64 (.slice (some ⟨g, 0, none⟩) n n)] w fun e w' => e = .returned (.agg #[.iface 64 (.slice (some ⟨g, 0, none⟩) n n), .int .i64 1]) ∧ Below w.heap.size w w' := by
  go_enter Tryd.func40, Tryd.ntmps40
  go_wp2
  refine bodyPost_ret (v := .agg #[.iface 64 (.slice (some ⟨g, 0, none⟩) n n), .int .i64 1]) (by simp [results, Tryd.results40, go_sem]) rfl ⟨rfl, ?_⟩
  go_grown
theorem pad_at (n : Nat) (c : UInt8) (k : Nat) (hk : k < (padB ⟨#[]⟩ n c).size) : (padB ⟨#[]⟩ n c)[k] = c := by
  have h : (padB ⟨#[]⟩ n c).data.toList = List.replicate n c := by
    unfold padB
    simp [ByteArray.size]
  have h1 : (padB ⟨#[]⟩ n c).data.toList[k]? = some c := by
    rw [h, List.getElem?_replicate, if_pos]
    have := congrArg List.length h
    rw [bytes_len, List.length_replicate] at this
    omega
  rw [List.getElem?_eq_getElem (by rw [bytes_len]; exact hk)] at h1
  have h2 := Option.some.inj h1
  have h3 : (padB ⟨#[]⟩ n c)[k] = (padB ⟨#[]⟩ n c).data.toList[k]'(by rw [bytes_len]; exact hk) := by simp [ByteArray.getElem_eq_getElem_data]
  exact h3.trans h2
set_option maxHeartbeats 4000000 in
theorem formatChains_any (n z : Int) (w : World) :
    Calls Tryd.prog 16 #[.int .i64 n, .int .i64 z] w (RecRes2 rowString 9 (fcL n z) (fcC n z) w) := by
  have WI := Lib.hid (fun w T b hb => within_r 8 128 n w T b hb)
  have BS := Lib.hid (fun w => isBlockSize_any z w)
  unfold RecRes2
  by_cases h1 : inB 8 128 n = true
  case neg =>
    have h1 : inB 8 128 n = false := by simpa using h1
    have hC : fcC n z = 2 := by unfold fcC; rw [h1]; rfl
    have hL : fcL n z = [] := by unfold fcL; rw [hC]; rfl
    rw [h1] at WI
    rw [hC, hL]
    clear h1 hC hL
    go_enter Tryd.func16, Tryd.ntmps16
    go_wp2_with fail
    refine (WI.out _ _ _ (by simp)).mono ?_
    rintro e w1 ⟨rfl, hb1⟩
    go_wp2
    go_ret2
    exact ⟨none, 0, rfl, .inl rfl, hb1⟩
  rw [h1] at WI
  by_cases h2 : sizeI z = true
  case neg =>
    have h2 : sizeI z = false := by simpa using h2
    have hC : fcC n z = 2 := by unfold fcC; rw [h1, h2]; rfl
    have hL : fcL n z = [] := by unfold fcL; rw [hC]; rfl
    rw [h2] at BS
    rw [hC, hL]
    clear h1 h2 hC hL
    go_enter Tryd.func16, Tryd.ntmps16
    go_wp2_with fail
    refine (WI.out _ _ _ (by simp)).mono ?_
    rintro e w1 ⟨rfl, hb1⟩
    go_wp2_with fail
    refine (BS.out _).mono ?_
    rintro e w2 ⟨rfl, hb2⟩
    have HB := Lib.hid (hb1.trans (hb2.mono hb1.size)); clear hb1 hb2
    go_wp2
    go_ret2
    exact ⟨none, 0, rfl, .inl rfl, HB.out⟩
  have hC : fcC n z = 0 := by unfold fcC; rw [h1, h2]; rfl
  have hn := inB_iff.1 h1
  have hz := sizeI_iff.1 h2
  rw [h2] at BS
  obtain ⟨n, rfl⟩ : ∃ k : Nat, n = (k : Int) := ⟨n.toNat, by omega⟩
  obtain ⟨z, rfl⟩ : ∃ k : Nat, z = (k : Int) := ⟨z.toNat, by omega⟩
  have hz' : z = 8 ∨ z = 16 ∨ z = 32 := by omega
  have hL : fcL (n : Int) (z : Int) = fcL9 n z := by unfold fcL; rw [if_pos hC]; rfl
  have hfit := chData_fit (n := n) (z := z) (by omega) hz'
  have EL := Lib.hid (fun w => chainLayout_any n z w (by omega) (by omega) (by omega))
  have EH := Lib.hid (fun w => chHeader_any n z (chDir n z) (chData n z) w hz' (by omega))
  have BD := Lib.hid (fun w => blankDisk_any n z (chHead n z) w (by omega) (by omega) (by omega))
  have BT := Lib.hid (fun w => byteT_any 253 (by omega) w)
  have PD := Lib.hid (fun w => padded_any ⟨#[]⟩ (chData n z) 253 w (Nat.zero_le _) (by have := (chDir_bd (n := n) (by omega) hz').2.2.2; omega))
  have PU := Lib.hid (show ∀ g B w, OwnBS w B g (blankL n z (chHead n z)) → B ≤ w.heap.size → Calls Tryd.prog 41 #[.agg #[.iface 64 (.slice (some ⟨g, 0, none⟩) n n), .int .i64 1], .int .i64 0, .string (padB ⟨#[]⟩ (chData n z) 253)] w fun e w' => e = .returned (.tuple #[]) ∧ OwnBS w' B g (fcL9 n z) ∧ Below B w w' from fun g B w h hB => putN_any g n z (chData n z) B (fcFl n z) 253 (padB ⟨#[]⟩ (chData n z) 253) w (by rw [fcFl_blank (by omega) hz']; exact h) hB (fcFl_len hfit.2) (by omega) (by omega) (by omega) hfit.1 (padB_size (Nat.zero_le _)) (pad_at _ _))
  have HLN := Lib.hid (show (fcL9 n z).length = n from unflatL_len _ _ _)
  rw [hC, hL]
  clear h1 h2 hC hL hn hz hfit hz'
  have TB := Lib.hid (fun g w => tableN_any g n w)
  generalize chHead n z = hd at *
  generalize padB ⟨#[]⟩ (chData n z) 253 = pd at *
  generalize fcL9 n z = r9 at *
  generalize chDir n z = d1 at *
  generalize chData n z = d2 at *
  generalize n / 8 = q8 at *
  go_enter Tryd.func16, Tryd.ntmps16
  go_wp2_with fail
  refine (WI.out _ _ _ (by simp)).mono ?_
  rintro e w1 ⟨rfl, hb1⟩
  go_wp2_with fail
  refine (BS.out _).mono ?_
  rintro e w2 ⟨rfl, hb2⟩
  have HB := Lib.hid (hb1.trans (hb2.mono hb1.size)); clear hb1 hb2
  go_wp2_with fail
  refine (EL.out _).mono ?_
  rintro e w3 ⟨rfl, hb3⟩
  replace HB := Lib.hid (HB.out.trans (hb3.mono HB.out.size)); clear hb3
  go_wp2_with fail
  have BX := BoxAt.new w3 #[.int .i64 (n : Int), .int .i64 (z : Int), .int .i64 (q8 : Int), .int .i64 (d1 : Int), .int .i64 (d2 : Int)] 25 _ rfl
  have hlt : w3.heap.size < (w3.alloc (.cells #[.int .i64 (n : Int), .int .i64 (z : Int), .int .i64 (q8 : Int), .int .i64 (d1 : Int), .int .i64 (d2 : Int)] 25)).heap.size := by simp
  replace HB := Lib.hid (HB.out.alloc HB.out.size (.cells #[.int .i64 (n : Int), .int .i64 (z : Int), .int .i64 (q8 : Int), .int .i64 (d1 : Int), .int .i64 (d2 : Int)] 25))
  generalize w3.alloc (.cells #[.int .i64 (n : Int), .int .i64 (z : Int), .int .i64 (q8 : Int), .int .i64 (d1 : Int), .int .i64 (d2 : Int)] 25) = W3 at *
  refine (EH.out _).mono ?_
  rintro e w4 ⟨rfl, hb4⟩
  replace HB := Lib.hid (HB.out.trans (hb4.mono HB.out.size))
  have BX4 := BX.below hb4 hlt
  have hlt4 := Nat.lt_of_lt_of_le hlt hb4.size
  clear hb4
  go_wp2_with fail
  refine (BD.out _).mono ?_
  rintro e w5 ⟨g, rfl, ho, hb5⟩
  have HO := Lib.hid (show OwnBS w5.drew w4.heap.size g (blankL n z hd) from ho); clear ho
  have HS := Lib.hid (show w4.heap.size ≤ w5.drew.heap.size from hb5.size)
  have KS := Lib.hid (fun w' (hb : Below w4.heap.size w4 w') => (show w'.cell? ⟨w3.heap.size, 4, none⟩ = some (.int .i64 (d2 : Int)) from (BX4.below hb hlt4) 4 _ rfl))
  have HC := Lib.hid (show Below w4.heap.size w4 w5.drew from hb5.drew)
  clear hb5 BX BX4 hlt hlt4
  go_upto_region 5 with (fail)
  refine wp_region_held_drew (S := (fun w' => w'.cell? ⟨w3.heap.size, 4, none⟩ = some (.int .i64 (d2 : Int)))) (by kernel_rfl) (KS.out _ HC.out) (fun hHeld => ?_)
  refine wpAnyH_take (i := 0) (oi := { dst := some 25, op := Op.move (Operand.tmp 7), type := 22, pos := "l16_chains.go:424", after := #[], guard := none }) (v := ?_) rfl (by kernel_rfl) (by kernel_rfl) (by kernel_rfl) (fun _ _ _ h => h) (Or.inl ⟨by rfl, ?hy⟩) hHeld ?_
  case hy => (intro w' hSw; (try dsimp only at hSw); go_simp; try with_reducible rfl)
  simp only [Act.put, List.setIfInBounds_toArray, List.set_cons_zero, List.set_cons_succ]
  refine wpAnyH_take (i := 1) (oi := { dst := some 26, op := Op.makeInterface 64 (Operand.tmp 25), type := 60, pos := "l16_chains.go:424", after := #[{ on := 0, ground := Ground.data }], guard := none }) (v := ?_) rfl (by kernel_rfl) (by kernel_rfl) (by kernel_rfl) (fun _ _ _ h => h) (Or.inl ⟨by rfl, ?hy⟩) hHeld ?_
  case hy => (intro w' hSw; (try dsimp only at hSw); go_simp; try with_reducible rfl)
  simp only [Act.put, List.setIfInBounds_toArray, List.set_cons_zero, List.set_cons_succ]
  refine wpAnyH_take (i := 3) (oi := { dst := some 28, op := Op.fieldAddr 25 (Operand.tmp 6) 4, type := 0, pos := "l16_chains.go:424", after := #[], guard := none }) (v := ?_) rfl (by kernel_rfl) (by kernel_rfl) (by kernel_rfl) (fun _ _ _ h => h) (Or.inl ⟨by rfl, ?hy⟩) hHeld ?_
  case hy => (intro w' hSw; (try dsimp only at hSw); go_simp; try with_reducible rfl)
  simp only [Act.put, List.setIfInBounds_toArray, List.set_cons_zero, List.set_cons_succ]
  refine wpAnyH_take (i := 4) (oi := { dst := some 29, op := Op.load 2 (Operand.tmp 28), type := 2, pos := "l16_chains.go:424", after := #[{ on := 3, ground := Ground.data }], guard := none }) (v := ?_) rfl (by kernel_rfl) (by kernel_rfl) (by kernel_rfl) (fun _ _ _ h => h) (Or.inl ⟨by rfl, ?hy⟩) hHeld ?_
  case hy => (intro w' hSw; (try dsimp only at hSw); go_simp; try with_reducible rfl)
  simp only [Act.put, List.setIfInBounds_toArray, List.set_cons_zero, List.set_cons_succ]
  refine wpAnyH_ready (rs := [2]) (by kernel_rfl) (by simp) ?_
  refine AllReadyH.cons (o := { dst := some 27, op := Op.call { callee := Callee.value (Operand.func 40), args := #[Operand.tmp 26], argTypes := #[60] }, type := 62, pos := "l16_chains.go:424", after := #[{ on := 1, ground := Ground.data }], guard := none }) rfl (fun K hK => ?_) AllReadyH.nil
  go_simp
  go_at_call 40; refine (TB.out g _).mono ?_; rintro e wk0 ⟨rfl, hb0⟩; replace HC := Lib.hid (HC.out.trans (hb0.mono HS.out)); replace HO := Lib.hid (HO.out.below hb0 HO.out.lt); replace HS := Lib.hid (Nat.le_trans HS.out hb0.size)
  go_wp2_with fail
  refine hK.out _ _ (KS.out _ HC.out) (fun hHeld => ?_)
  clear hK K
  try simp only [Act.put, List.setIfInBounds_toArray, List.set_cons_zero, List.set_cons_succ]
  refine wpAnyH_ready (rs := [5]) (by kernel_rfl) (by simp) ?_
  refine AllReadyH.cons (o := { dst := some 30, op := Op.call { callee := Callee.value (Operand.func 43), args := #[Operand.const (Value.int IntKind.i64 253)], argTypes := #[2] }, type := 9, pos := "l16_chains.go:424", after := #[{ on := 2, ground := Ground.chain }], guard := none }) rfl (fun K hK => ?_) AllReadyH.nil
  go_simp
  go_at_call 43; refine (BT.out _).mono ?_; rintro e wk1 ⟨rfl, hb0⟩; replace HC := Lib.hid (HC.out.trans (hb0.mono HS.out)); replace HO := Lib.hid (HO.out.below hb0 HO.out.lt); replace HS := Lib.hid (Nat.le_trans HS.out hb0.size)
  go_wp2_with fail
  refine hK.out _ _ (KS.out _ HC.out) (fun hHeld => ?_)
  clear hK K
  try simp only [Act.put, List.setIfInBounds_toArray, List.set_cons_zero, List.set_cons_succ]
  refine wpAnyH_ready (rs := [6]) (by kernel_rfl) (by simp) ?_
  refine AllReadyH.cons (o := { dst := some 31, op := Op.call { callee := Callee.value (Operand.func 42), args := #[Operand.const (Value.string { data := #[] }), Operand.tmp 29, Operand.tmp 30], argTypes := #[9, 2, 9] }, type := 9, pos := "l16_chains.go:424", after := #[{ on := 4, ground := Ground.data }, { on := 5, ground := Ground.data }, { on := 5, ground := Ground.chain }], guard := none }) rfl (fun K hK => ?_) AllReadyH.nil
  go_simp
  go_at_call 42; refine (PD.out _).mono ?_; rintro e wk2 ⟨rfl, hb0⟩; replace HC := Lib.hid (HC.out.trans (hb0.mono HS.out)); replace HO := Lib.hid (HO.out.below hb0 HO.out.lt); replace HS := Lib.hid (Nat.le_trans HS.out hb0.size)
  go_wp2_with fail
  refine hK.out _ _ (KS.out _ HC.out) (fun hHeld => ?_)
  clear hK K
  try simp only [Act.put, List.setIfInBounds_toArray, List.set_cons_zero, List.set_cons_succ]
  refine wpAnyH_ready (rs := [7]) (by kernel_rfl) (by simp) ?_
  refine AllReadyH.cons (o := { dst := some 32, op := Op.call { callee := Callee.value (Operand.func 41), args := #[Operand.tmp 27, Operand.const (Value.int IntKind.i64 0), Operand.tmp 31], argTypes := #[62, 2, 9] }, type := 0, pos := "l16_chains.go:424", after := #[{ on := 2, ground := Ground.data }, { on := 6, ground := Ground.data }, { on := 6, ground := Ground.chain }], guard := none }) rfl (fun K hK => ?_) AllReadyH.nil
  go_simp
  go_at_call 41; refine (PU.out g _ _ HO.out HS.out).mono ?_; rintro e wk3 ⟨rfl, HF, hb0⟩; replace HC := Lib.hid (HC.out.trans hb0)
  go_wp2_with fail
  refine hK.out _ _ (KS.out _ HC.out) (fun hHeld => ?_)
  clear hK K
  try simp only [Act.put, List.setIfInBounds_toArray, List.set_cons_zero, List.set_cons_succ]
  refine wpAnyH_done (by kernel_rfl) ?_ _
  have HG := Lib.hid (OwnBS.so (HF.mono HB.out.size))
  replace HB := Lib.hid (HB.out.trans (HC.out.mono HB.out.size))
  clear HF
  go_wp2
  go_ret2
  exact ⟨some ⟨g, 0, none⟩, n, by rw [HLN.out]; rfl, HG.out, HB.out⟩
end Go.Proofs.YthcbekfgkbhpeaaDoor
