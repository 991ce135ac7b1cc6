/- spec.l09Ask, l09DataMark, DataMarkOf -/
import Derived.Test.YtidedgcmpkahgaaDataMkIm
import Derived.Test.YtidedgcmpkahgaaSpecValidCells
namespace Go.Proofs.Ytidedgcmpkahgaa
open Go.RowKit
set_option linter.unusedVariables false
set_option linter.unusedSimpArgs false
set_option maxRecDepth 20000
set_option maxHeartbeats 1000000 in
theorem specValidCells_any (s : ByteArray) (w : World) (hs : s.size ≤ maxLen) :
    Calls Try.prog 53 #[.string s] w fun e w' => e = .returned (.bool (validCells s)) ∧ Below w.heap.size w w' := by
  have VC := Lib.hid (fun w => l02Cells_any s w hs)
  clear hs
  go_enter Try.func53, Try.ntmps53
  go_wp2_with fail
  refine (VC.out _).mono ?_
  rintro e w1 ⟨rfl, rfl⟩
  go_wp2
  go_ret
  exact ⟨rfl, Below.refl _ _⟩
set_option maxHeartbeats 4000000 in
theorem l09Ask_any (s : ByteArray) (f : Int) (a : Option Addr) (es : List MarkV) (c : Nat) (k : Int) (w : World) (hs : s.size ≤ 1048576) (hm : es.length ≤ 1048576) (h : SlS rowMark w a es) :
    Calls Try.prog 26 #[.string s, .int .i64 f, .slice a es.length c, .int .i64 k] w fun e w' => e = .returned (.int .i64 (askC s f es k)) ∧ Below w.heap.size w w' := by
  have vc := fun w => (specValidCells_any s w (by unfold maxLen; omega)).mono (fun e w' h => (show e = Ending.returned (.bool (validCells s)) ∧ Below w.heap.size w w' from ⟨h.1, by first | exact h.2 | (obtain ⟨_, rfl⟩ := h; exact Below.refl _ _)⟩))
  have lf := fun w => l07Format_any f w
  have li := fun w => l00In_any k 0 ((es.length : Int) - 1) w
  have EL := Lib.hid (fun w' (hb : Below w.heap.size w w') => h.below hb (Nat.le_refl _))
  have lo := fun t0 t1 w' (hb : Below w.heap.size w w') => l07Ok_any a es c (s.size : Int) w' t0 t1 hm (h.below hb (Nat.le_refl _))
  have hwl : wrap64 ((es.length : Int) - 1) = (es.length : Int) - 1 := by unfold wrap64; omega
  unfold askC mtOk
  clear h
  cases hv : validCells s with
  | false =>
    rw [hv] at vc
    simp only [Bool.false_and]
    rw [if_neg (by simp)]
    have VC := Lib.hid vc
    clear vc hv lf li lo
    go_enter Try.func26, Try.ntmps26
    go_wp2_with fail
    refine (VC.out _).mono ?_
    rintro e w1 ⟨rfl, hb1⟩
    go_wp2
    go_ret
    exact ⟨rfl, hb1⟩
  | true =>
  obtain ⟨hz1, hz2⟩ := validCells_bd hv
  rw [hv] at vc
  have VC := Lib.hid vc
  simp only [Bool.true_and]
  clear vc hv
  cases hf : inB 1 3 f with
  | false =>
    rw [hf] at lf
    simp only [Bool.false_and]
    rw [if_neg (by simp)]
    have LF := Lib.hid lf
    clear lf hf li lo
    go_enter Try.func26, Try.ntmps26
    go_wp2_with fail
    refine (VC.out _).mono ?_
    rintro e w1 ⟨rfl, hb1⟩
    go_wp2_with fail
    refine (LF.out _).mono ?_
    rintro e _ ⟨rfl, rfl⟩
    go_wp2
    go_ret
    exact ⟨rfl, hb1⟩
  | true =>
  rw [hf] at lf
  have LF := Lib.hid lf
  simp only [Bool.true_and]
  have hmv : mkValid (s.size : Int) es = mkList (s.size : Int) es := by unfold mkValid; rw [inB_iff.2 (show (1 : Int) ≤ s.size ∧ (s.size : Int) ≤ 8000 by omega), Bool.true_and]
  rw [hmv]
  have lo2 := lo (by omega) (by omega)
  clear lf hf hmv lo
  cases hq : mkList (s.size : Int) es with
  | false =>
    rw [hq] at lo2
    rw [if_neg (by simp)]
    have LO := Lib.hid lo2
    clear lo2 hq li
    go_enter Try.func26, Try.ntmps26
    go_wp2_with fail
    refine (VC.out _).mono ?_
    rintro e w1 ⟨rfl, hb1⟩
    go_wp2_with fail
    refine (LF.out _).mono ?_
    rintro e _ ⟨rfl, rfl⟩
    go_wp2_with fail
    refine (LO.out _ hb1).mono ?_
    rintro e w2 ⟨rfl, hb2⟩
    have F2 := Lib.hid (hb1.trans (hb2.mono hb1.size))
    clear hb1 hb2
    go_wp2
    go_ret
    exact ⟨rfl, F2.out⟩
  | true =>
  rw [hq] at lo2
  rw [if_pos rfl]
  have LO := Lib.hid lo2
  clear lo2 hq
  cases hp : inB 0 ((es.length : Int) - 1) k with
  | false =>
    rw [hp] at li
    rw [if_neg (by simp)]
    have LI := Lib.hid li
    clear li hp
    go_enter Try.func26, Try.ntmps26
    go_wp2_with fail
    refine (VC.out _).mono ?_
    rintro e w1 ⟨rfl, hb1⟩
    go_wp2_with fail
    refine (LF.out _).mono ?_
    rintro e _ ⟨rfl, rfl⟩
    go_wp2_with fail
    refine (LO.out _ hb1).mono ?_
    rintro e w2 ⟨rfl, hb2⟩
    have F2 := Lib.hid (hb1.trans (hb2.mono hb1.size))
    clear hb1 hb2
    go_wp2_with fail
    refine (LI.out _).mono ?_
    rintro e _ ⟨rfl, rfl⟩
    go_wp2
    go_ret
    exact ⟨rfl, F2.out⟩
  | true =>
  rw [hp] at li
  rw [if_pos rfl]
  have LI := Lib.hid li
  obtain ⟨i0, i1⟩ := inB_iff.1 hp
  obtain ⟨m, rfl⟩ : ∃ m : Nat, k = (m : Int) := ⟨k.toNat, by omega⟩
  have hml : m < es.length := by omega
  have e1 : (m : Int) < es.length := by omega
  obtain ⟨x, hx⟩ : ∃ e, es[m]? = some e := ⟨es[m], by simp [hml]⟩
  have hkk : kindAt es (m : Int) = x.f0 := by unfold kindAt; rw [Int.toNat_natCast, hx]
  rw [hkk]
  have HXX := Lib.hid hx
  clear li hp i0 i1 hkk hx
  by_cases hk : x.f0 = 1
  · have hk1 : (x.f0 != 1) = false := by simp [hk]
    rw [if_pos hk]
    clear hk
    go_enter Try.func26, Try.ntmps26
    go_wp2_with fail
    refine (VC.out _).mono ?_
    rintro e w1 ⟨rfl, hb1⟩
    go_wp2_with fail
    refine (LF.out _).mono ?_
    rintro e _ ⟨rfl, rfl⟩
    go_wp2_with fail
    refine (LO.out _ hb1).mono ?_
    rintro e w2 ⟨rfl, hb2⟩
    have F2 := Lib.hid (hb1.trans (hb2.mono hb1.size))
    clear hb1 hb2
    go_wp2_with fail
    refine (LI.out _).mono ?_
    rintro e _ ⟨rfl, rfl⟩
    obtain ⟨bb, off, rfl, hbl, hcc⟩ := (EL.out _ F2.out).at rowMark_len HXX.out
    have c0 : w2.cell? ⟨bb, off + m * 3, none⟩ = some (.int .i64 x.f0) := hcc 0 _ rfl
    clear hcc
    go_wp2
    go_ret
    exact ⟨rfl, F2.out⟩
  · have hk1 : (x.f0 != 1) = true := by simp [hk]
    rw [if_neg hk]
    clear hk
    go_enter Try.func26, Try.ntmps26
    go_wp2_with fail
    refine (VC.out _).mono ?_
    rintro e w1 ⟨rfl, hb1⟩
    go_wp2_with fail
    refine (LF.out _).mono ?_
    rintro e _ ⟨rfl, rfl⟩
    go_wp2_with fail
    refine (LO.out _ hb1).mono ?_
    rintro e w2 ⟨rfl, hb2⟩
    have F2 := Lib.hid (hb1.trans (hb2.mono hb1.size))
    clear hb1 hb2
    go_wp2_with fail
    refine (LI.out _).mono ?_
    rintro e _ ⟨rfl, rfl⟩
    obtain ⟨bb, off, rfl, hbl, hcc⟩ := (EL.out _ F2.out).at rowMark_len HXX.out
    have c0 : w2.cell? ⟨bb, off + m * 3, none⟩ = some (.int .i64 x.f0) := hcc 0 _ rfl
    clear hcc
    go_wp2
    go_ret
    exact ⟨rfl, F2.out⟩
set_option maxHeartbeats 8000000 in
theorem l09DataMark_any (t : Int) (a : Option Addr) (es : List MarkV) (c : Nat) (m j : Nat) (x y : MarkV) (w : World) (hm : es.length ≤ 1048576) (h : SlS rowMark w a es) (hx : es[m]? = some x) (hy : es[j]? = some y) (hj : j = (m + 1) % es.length) :
    Calls Try.prog 27 #[.int .i64 t, .slice a es.length c, .int .i64 (m : Int)] w fun e w' => e = .returned (.int .i64 (if dmGood t x y = true then (j : Int) else -1)) ∧ Below w.heap.size w w' := by
  obtain ⟨g, hg⟩ : ∃ g, dmGood t x y = g := ⟨_, rfl⟩
  rw [hg]
  obtain ⟨nn, hnn⟩ : ∃ nn, (if g = true then (j : Int) else -1) = nn := ⟨_, rfl⟩
  rw [hnn]
  have HQ := Lib.hid (And.intro hg hnn)
  clear hg hnn
  have hml : m < es.length := (List.getElem?_eq_some_iff.1 hx).1
  have hjl : j < es.length := (List.getElem?_eq_some_iff.1 hy).1
  have CB := Lib.hid (fun w => specCellsBetween_any t x.f2 y.f1 w)
  have hn0 : ¬ (es.length : Int) = 0 := by omega
  have hn1 : ¬ es.length = 0 := by omega
  have hjm : ((m : Int) + 1) % (es.length : Int) = (j : Int) := by rw [hj]; simp
  have hjt : ((m : Int) + 1).tmod (es.length : Int) = (j : Int) := by rw [Int.tmod_eq_emod_of_nonneg (by omega)]; exact hjm
  have hlen0 : ¬ es = [] := by intro h9; rw [h9] at hml; simp at hml
  obtain ⟨bb, off, rfl, hbl, hcx⟩ := h.at rowMark_len hx
  obtain ⟨b2, o2, hba, _, hcy⟩ := h.at rowMark_len hy
  cases hba
  have x2 : w.cell? ⟨bb, off + m * 3 + 2, none⟩ = some (.int .i64 x.f2) := hcx 2 _ rfl
  have y0 : w.cell? ⟨bb, off + j * 3, none⟩ = some (.int .i64 y.f0) := hcy 0 _ rfl
  have y1 : w.cell? ⟨bb, off + j * 3 + 1, none⟩ = some (.int .i64 y.f1) := hcy 1 _ rfl
  have KS := Lib.hid (fun w' (hb : Below w.heap.size w w') => (show w'.cell? ⟨bb, off + j * 3, none⟩ = some (.int .i64 y.f0) ∧ w'.cell? ⟨bb, off + j * 3 + 1, none⟩ = some (.int .i64 y.f1) ∧ w'.cell? ⟨bb, off + m * 3 + 2, none⟩ = some (.int .i64 x.f2) from ⟨by rw [hb.cell (p := ⟨bb, _, none⟩) hbl]; exact y0, by rw [hb.cell (p := ⟨bb, _, none⟩) hbl]; exact y1, by rw [hb.cell (p := ⟨bb, _, none⟩) hbl]; exact x2⟩))
  have HC := Lib.hid (show Below w.heap.size w w.drew from (Below.refl _ _).drew)
  have e1 : (m : Int) < es.length := by omega
  have e2 : (j : Int) < es.length := by omega
  clear hcx hcy h hx hy hj
  by_cases hk : y.f0 = 1
  · have hyk : (y.f0 == 1) = true := by simp [hk]
    have HG := Lib.hid (show dmGood t x y = false by unfold dmGood; rw [hyk]; rfl)
    clear hk
    go_enter Try.func27, Try.ntmps27
    go_upto_region 2 with (fail)
    refine wp_region_held_drew (S := (fun w' => w'.cell? ⟨bb, off + j * 3, none⟩ = some (.int .i64 y.f0) ∧ w'.cell? ⟨bb, off + j * 3 + 1, none⟩ = some (.int .i64 y.f1) ∧ w'.cell? ⟨bb, off + m * 3 + 2, none⟩ = some (.int .i64 x.f2))) (by kernel_rfl) (KS.out _ HC.out) (fun hHeld => ?_)
    refine wpAnyH_take (i := 0) (oi := { dst := some 13, op := Op.move (Operand.tmp 1), type := 26, pos := "l09_reader.go:89", after := #[], guard := none }) (v := ?_) rfl (by kernel_rfl) (by kernel_rfl) (by kernel_rfl) (fun _ _ _ h => h) (Or.inl ⟨by rfl, ?hy⟩) hHeld ?_
    case hy => (intro w' hSw; (try dsimp only at hSw); go_simp; try with_reducible rfl)
    simp only [Act.put, List.setIfInBounds_toArray, List.set_cons_zero, List.set_cons_succ]
    refine wpAnyH_take (i := 1) (oi := { dst := some 14, op := Op.move (Operand.tmp 7), type := 2, pos := "l09_reader.go:89", after := #[], guard := none }) (v := ?_) rfl (by kernel_rfl) (by kernel_rfl) (by kernel_rfl) (fun _ _ _ h => h) (Or.inl ⟨by rfl, ?hy⟩) hHeld ?_
    case hy => (intro w' hSw; (try dsimp only at hSw); go_simp; try with_reducible rfl)
    simp only [Act.put, List.setIfInBounds_toArray, List.set_cons_zero, List.set_cons_succ]
    refine wpAnyH_take (i := 2) (oi := { dst := some 15, op := Op.indexAddr 26 (Operand.tmp 13) (Operand.tmp 14), type := 0, pos := "l09_reader.go:89", after := #[{ on := 0, ground := Ground.data }, { on := 1, ground := Ground.data }], guard := none }) (v := ?_) rfl (by kernel_rfl) (by kernel_rfl) (by kernel_rfl) (fun _ _ _ h => h) (Or.inl ⟨by rfl, ?hy⟩) hHeld ?_
    case hy => (intro w' hSw; (try dsimp only at hSw); go_simp; try with_reducible rfl)
    simp only [Act.put, List.setIfInBounds_toArray, List.set_cons_zero, List.set_cons_succ]
    refine wpAnyH_take (i := 3) (oi := { dst := some 16, op := Op.fieldAddr 58 (Operand.tmp 15) 0, type := 0, pos := "l09_reader.go:89", after := #[{ on := 2, ground := Ground.data }], guard := none }) (v := ?_) rfl (by kernel_rfl) (by kernel_rfl) (by kernel_rfl) (fun _ _ _ h => h) (Or.inl ⟨by rfl, ?hy⟩) hHeld ?_
    case hy => (intro w' hSw; (try dsimp only at hSw); go_simp; try with_reducible rfl)
    simp only [Act.put, List.setIfInBounds_toArray, List.set_cons_zero, List.set_cons_succ]
    refine wpAnyH_take (i := 4) (oi := { dst := some 17, op := Op.load 2 (Operand.tmp 16), type := 2, pos := "l09_reader.go:89", after := #[{ on := 3, ground := Ground.data }], guard := none }) (v := ?_) rfl (by kernel_rfl) (by kernel_rfl) (by kernel_rfl) (fun _ _ _ h => h) (Or.inl ⟨by rfl, ?hy⟩) hHeld ?_
    case hy => (intro w' hSw; (try dsimp only at hSw); go_simp; try with_reducible rfl)
    simp only [Act.put, List.setIfInBounds_toArray, List.set_cons_zero, List.set_cons_succ]
    refine wpAnyH_take (i := 5) (oi := { dst := some 18, op := Op.binOp BinOp.eql 2 (Operand.tmp 17) (Operand.const (Value.int IntKind.i64 1)) 2, type := 4, pos := "l09_reader.go:89", after := #[{ on := 4, ground := Ground.data }], guard := none }) (v := ?_) rfl (by kernel_rfl) (by kernel_rfl) (by kernel_rfl) (fun _ _ _ h => h) (Or.inl ⟨by rfl, ?hy⟩) hHeld ?_
    case hy => (intro w' hSw; (try dsimp only at hSw); go_simp; try with_reducible rfl)
    simp only [Act.put, List.setIfInBounds_toArray, List.set_cons_zero, List.set_cons_succ]
    refine wpAnyH_take (i := 6) (oi := { dst := some 19, op := Op.move (Operand.tmp 18), type := 4, pos := "l09_reader.go:89", after := #[{ on := 5, ground := Ground.data }], guard := none }) (v := ?_) rfl (by kernel_rfl) (by kernel_rfl) (by kernel_rfl) (fun _ _ _ h => h) (Or.inl ⟨by rfl, ?hy⟩) hHeld ?_
    case hy => (intro w' hSw; (try dsimp only at hSw); go_simp; try with_reducible rfl)
    simp only [Act.put, List.setIfInBounds_toArray, List.set_cons_zero, List.set_cons_succ]
    refine wpAnyH_take (i := 7) (oi := { dst := some 20, op := Op.move (Operand.tmp 0), type := 2, pos := "l09_reader.go:89", after := #[{ on := 6, ground := Ground.guard }], guard := some (6, false) }) (v := undef) rfl (by kernel_rfl) (by kernel_rfl) (by kernel_rfl) (fun _ _ _ h => h) (Or.inr ⟨by rfl, rfl⟩) hHeld ?_
    simp only [Act.put, List.setIfInBounds_toArray, List.set_cons_zero, List.set_cons_succ]
    refine wpAnyH_take (i := 8) (oi := { dst := some 21, op := Op.move (Operand.tmp 1), type := 26, pos := "l09_reader.go:89", after := #[{ on := 6, ground := Ground.guard }], guard := some (6, false) }) (v := undef) rfl (by kernel_rfl) (by kernel_rfl) (by kernel_rfl) (fun _ _ _ h => h) (Or.inr ⟨by rfl, rfl⟩) hHeld ?_
    simp only [Act.put, List.setIfInBounds_toArray, List.set_cons_zero, List.set_cons_succ]
    refine wpAnyH_take (i := 9) (oi := { dst := some 22, op := Op.move (Operand.tmp 2), type := 2, pos := "l09_reader.go:89", after := #[{ on := 6, ground := Ground.guard }], guard := some (6, false) }) (v := undef) rfl (by kernel_rfl) (by kernel_rfl) (by kernel_rfl) (fun _ _ _ h => h) (Or.inr ⟨by rfl, rfl⟩) hHeld ?_
    simp only [Act.put, List.setIfInBounds_toArray, List.set_cons_zero, List.set_cons_succ]
    refine wpAnyH_take (i := 10) (oi := { dst := some 23, op := Op.indexAddr 26 (Operand.tmp 21) (Operand.tmp 22), type := 0, pos := "l09_reader.go:89", after := #[{ on := 8, ground := Ground.data }, { on := 9, ground := Ground.data }, { on := 6, ground := Ground.guard }], guard := some (6, false) }) (v := undef) rfl (by kernel_rfl) (by kernel_rfl) (by kernel_rfl) (fun _ _ _ h => h) (Or.inr ⟨by rfl, rfl⟩) hHeld ?_
    simp only [Act.put, List.setIfInBounds_toArray, List.set_cons_zero, List.set_cons_succ]
    refine wpAnyH_take (i := 11) (oi := { dst := some 24, op := Op.fieldAddr 58 (Operand.tmp 23) 2, type := 0, pos := "l09_reader.go:89", after := #[{ on := 10, ground := Ground.data }, { on := 6, ground := Ground.guard }], guard := some (6, false) }) (v := undef) rfl (by kernel_rfl) (by kernel_rfl) (by kernel_rfl) (fun _ _ _ h => h) (Or.inr ⟨by rfl, rfl⟩) hHeld ?_
    simp only [Act.put, List.setIfInBounds_toArray, List.set_cons_zero, List.set_cons_succ]
    refine wpAnyH_take (i := 12) (oi := { dst := some 25, op := Op.load 2 (Operand.tmp 24), type := 2, pos := "l09_reader.go:89", after := #[{ on := 11, ground := Ground.data }, { on := 6, ground := Ground.guard }], guard := some (6, false) }) (v := undef) rfl (by kernel_rfl) (by kernel_rfl) (by kernel_rfl) (fun _ _ _ h => h) (Or.inr ⟨by rfl, rfl⟩) hHeld ?_
    simp only [Act.put, List.setIfInBounds_toArray, List.set_cons_zero, List.set_cons_succ]
    refine wpAnyH_take (i := 13) (oi := { dst := some 26, op := Op.move (Operand.tmp 1), type := 26, pos := "l09_reader.go:89", after := #[{ on := 6, ground := Ground.guard }], guard := some (6, false) }) (v := undef) rfl (by kernel_rfl) (by kernel_rfl) (by kernel_rfl) (fun _ _ _ h => h) (Or.inr ⟨by rfl, rfl⟩) hHeld ?_
    simp only [Act.put, List.setIfInBounds_toArray, List.set_cons_zero, List.set_cons_succ]
    refine wpAnyH_take (i := 14) (oi := { dst := some 27, op := Op.move (Operand.tmp 7), type := 2, pos := "l09_reader.go:89", after := #[{ on := 6, ground := Ground.guard }], guard := some (6, false) }) (v := undef) rfl (by kernel_rfl) (by kernel_rfl) (by kernel_rfl) (fun _ _ _ h => h) (Or.inr ⟨by rfl, rfl⟩) hHeld ?_
    simp only [Act.put, List.setIfInBounds_toArray, List.set_cons_zero, List.set_cons_succ]
    refine wpAnyH_take (i := 15) (oi := { dst := some 28, op := Op.indexAddr 26 (Operand.tmp 26) (Operand.tmp 27), type := 0, pos := "l09_reader.go:89", after := #[{ on := 13, ground := Ground.data }, { on := 14, ground := Ground.data }, { on := 6, ground := Ground.guard }], guard := some (6, false) }) (v := undef) rfl (by kernel_rfl) (by kernel_rfl) (by kernel_rfl) (fun _ _ _ h => h) (Or.inr ⟨by rfl, rfl⟩) hHeld ?_
    simp only [Act.put, List.setIfInBounds_toArray, List.set_cons_zero, List.set_cons_succ]
    refine wpAnyH_take (i := 16) (oi := { dst := some 29, op := Op.fieldAddr 58 (Operand.tmp 28) 1, type := 0, pos := "l09_reader.go:89", after := #[{ on := 15, ground := Ground.data }, { on := 6, ground := Ground.guard }], guard := some (6, false) }) (v := undef) rfl (by kernel_rfl) (by kernel_rfl) (by kernel_rfl) (fun _ _ _ h => h) (Or.inr ⟨by rfl, rfl⟩) hHeld ?_
    simp only [Act.put, List.setIfInBounds_toArray, List.set_cons_zero, List.set_cons_succ]
    refine wpAnyH_take (i := 17) (oi := { dst := some 30, op := Op.load 2 (Operand.tmp 29), type := 2, pos := "l09_reader.go:89", after := #[{ on := 16, ground := Ground.data }, { on := 6, ground := Ground.guard }], guard := some (6, false) }) (v := undef) rfl (by kernel_rfl) (by kernel_rfl) (by kernel_rfl) (fun _ _ _ h => h) (Or.inr ⟨by rfl, rfl⟩) hHeld ?_
    simp only [Act.put, List.setIfInBounds_toArray, List.set_cons_zero, List.set_cons_succ]
    refine wpAnyH_take (i := 18) (oi := { dst := some 31, op := Op.call { callee := Callee.value (Operand.func 56), args := #[Operand.tmp 20, Operand.tmp 25, Operand.tmp 30], argTypes := #[2, 2, 2] }, type := 2, pos := "l09_reader.go:89", after := #[{ on := 7, ground := Ground.data }, { on := 12, ground := Ground.data }, { on := 17, ground := Ground.data }, { on := 6, ground := Ground.chain }, { on := 6, ground := Ground.guard }], guard := some (6, false) }) (v := undef) rfl (by kernel_rfl) (by kernel_rfl) (by kernel_rfl) (fun _ _ _ h => h) (Or.inr ⟨by rfl, rfl⟩) hHeld ?_
    simp only [Act.put, List.setIfInBounds_toArray, List.set_cons_zero, List.set_cons_succ]
    refine wpAnyH_take (i := 19) (oi := { dst := some 32, op := Op.binOp BinOp.gtr 2 (Operand.tmp 31) (Operand.const (Value.int IntKind.i64 320)) 2, type := 4, pos := "l09_reader.go:89", after := #[{ on := 18, ground := Ground.data }, { on := 6, ground := Ground.guard }], guard := some (6, false) }) (v := undef) rfl (by kernel_rfl) (by kernel_rfl) (by kernel_rfl) (fun _ _ _ h => h) (Or.inr ⟨by rfl, rfl⟩) hHeld ?_
    simp only [Act.put, List.setIfInBounds_toArray, List.set_cons_zero, List.set_cons_succ]
    refine wpAnyH_take (i := 20) (oi := { dst := some 33, op := Op.pick (Operand.tmp 19) (Operand.const (Value.bool true)) (Operand.tmp 32), type := 4, pos := "l09_reader.go:89", after := #[{ on := 6, ground := Ground.data }, { on := 19, ground := Ground.data }], guard := none }) (v := ?_) rfl (by kernel_rfl) (by kernel_rfl) (by kernel_rfl) (fun _ _ _ h => h) (Or.inl ⟨by rfl, ?hy⟩) hHeld ?_
    case hy => (intro w' hSw; (try dsimp only at hSw); go_simp; try with_reducible rfl)
    simp only [Act.put, List.setIfInBounds_toArray, List.set_cons_zero, List.set_cons_succ]
    refine wpAnyH_done (by kernel_rfl) ?_ _
    go_wp2
    go_ret
    obtain ⟨hg9, hn9⟩ := HQ.out
    have hg8 := hg9.symm.trans HG.out
    rw [hg8] at hn9
    subst hg8
    subst hn9
    exact ⟨rfl, HC.out⟩
  have hyk : (y.f0 == 1) = false := by simp [hk]
  have HG0 := Lib.hid (show dmGood t x y = !decide (320 < betV t x.f2 y.f1) by unfold dmGood; rw [hyk]; rfl)
  clear hk
  generalize betV t x.f2 y.f1 = B at *
  by_cases hB : 320 < B
  · have HG := Lib.hid (show dmGood t x y = false by rw [HG0.out]; simp [hB])
    go_enter Try.func27, Try.ntmps27
    go_upto_region 2 with (fail)
    refine wp_region_held_drew (S := (fun w' => w'.cell? ⟨bb, off + j * 3, none⟩ = some (.int .i64 y.f0) ∧ w'.cell? ⟨bb, off + j * 3 + 1, none⟩ = some (.int .i64 y.f1) ∧ w'.cell? ⟨bb, off + m * 3 + 2, none⟩ = some (.int .i64 x.f2))) (by kernel_rfl) (KS.out _ HC.out) (fun hHeld => ?_)
    refine wpAnyH_take (i := 0) (oi := { dst := some 13, op := Op.move (Operand.tmp 1), type := 26, pos := "l09_reader.go:89", after := #[], guard := none }) (v := ?_) rfl (by kernel_rfl) (by kernel_rfl) (by kernel_rfl) (fun _ _ _ h => h) (Or.inl ⟨by rfl, ?hy⟩) hHeld ?_
    case hy => (intro w' hSw; (try dsimp only at hSw); go_simp; try with_reducible rfl)
    simp only [Act.put, List.setIfInBounds_toArray, List.set_cons_zero, List.set_cons_succ]
    refine wpAnyH_take (i := 1) (oi := { dst := some 14, op := Op.move (Operand.tmp 7), type := 2, pos := "l09_reader.go:89", after := #[], guard := none }) (v := ?_) rfl (by kernel_rfl) (by kernel_rfl) (by kernel_rfl) (fun _ _ _ h => h) (Or.inl ⟨by rfl, ?hy⟩) hHeld ?_
    case hy => (intro w' hSw; (try dsimp only at hSw); go_simp; try with_reducible rfl)
    simp only [Act.put, List.setIfInBounds_toArray, List.set_cons_zero, List.set_cons_succ]
    refine wpAnyH_take (i := 2) (oi := { dst := some 15, op := Op.indexAddr 26 (Operand.tmp 13) (Operand.tmp 14), type := 0, pos := "l09_reader.go:89", after := #[{ on := 0, ground := Ground.data }, { on := 1, ground := Ground.data }], guard := none }) (v := ?_) rfl (by kernel_rfl) (by kernel_rfl) (by kernel_rfl) (fun _ _ _ h => h) (Or.inl ⟨by rfl, ?hy⟩) hHeld ?_
    case hy => (intro w' hSw; (try dsimp only at hSw); go_simp; try with_reducible rfl)
    simp only [Act.put, List.setIfInBounds_toArray, List.set_cons_zero, List.set_cons_succ]
    refine wpAnyH_take (i := 3) (oi := { dst := some 16, op := Op.fieldAddr 58 (Operand.tmp 15) 0, type := 0, pos := "l09_reader.go:89", after := #[{ on := 2, ground := Ground.data }], guard := none }) (v := ?_) rfl (by kernel_rfl) (by kernel_rfl) (by kernel_rfl) (fun _ _ _ h => h) (Or.inl ⟨by rfl, ?hy⟩) hHeld ?_
    case hy => (intro w' hSw; (try dsimp only at hSw); go_simp; try with_reducible rfl)
    simp only [Act.put, List.setIfInBounds_toArray, List.set_cons_zero, List.set_cons_succ]
    refine wpAnyH_take (i := 4) (oi := { dst := some 17, op := Op.load 2 (Operand.tmp 16), type := 2, pos := "l09_reader.go:89", after := #[{ on := 3, ground := Ground.data }], guard := none }) (v := ?_) rfl (by kernel_rfl) (by kernel_rfl) (by kernel_rfl) (fun _ _ _ h => h) (Or.inl ⟨by rfl, ?hy⟩) hHeld ?_
    case hy => (intro w' hSw; (try dsimp only at hSw); go_simp; try with_reducible rfl)
    simp only [Act.put, List.setIfInBounds_toArray, List.set_cons_zero, List.set_cons_succ]
    refine wpAnyH_take (i := 5) (oi := { dst := some 18, op := Op.binOp BinOp.eql 2 (Operand.tmp 17) (Operand.const (Value.int IntKind.i64 1)) 2, type := 4, pos := "l09_reader.go:89", after := #[{ on := 4, ground := Ground.data }], guard := none }) (v := ?_) rfl (by kernel_rfl) (by kernel_rfl) (by kernel_rfl) (fun _ _ _ h => h) (Or.inl ⟨by rfl, ?hy⟩) hHeld ?_
    case hy => (intro w' hSw; (try dsimp only at hSw); go_simp; try with_reducible rfl)
    simp only [Act.put, List.setIfInBounds_toArray, List.set_cons_zero, List.set_cons_succ]
    refine wpAnyH_take (i := 6) (oi := { dst := some 19, op := Op.move (Operand.tmp 18), type := 4, pos := "l09_reader.go:89", after := #[{ on := 5, ground := Ground.data }], guard := none }) (v := ?_) rfl (by kernel_rfl) (by kernel_rfl) (by kernel_rfl) (fun _ _ _ h => h) (Or.inl ⟨by rfl, ?hy⟩) hHeld ?_
    case hy => (intro w' hSw; (try dsimp only at hSw); go_simp; try with_reducible rfl)
    simp only [Act.put, List.setIfInBounds_toArray, List.set_cons_zero, List.set_cons_succ]
    refine wpAnyH_take (i := 7) (oi := { dst := some 20, op := Op.move (Operand.tmp 0), type := 2, pos := "l09_reader.go:89", after := #[{ on := 6, ground := Ground.guard }], guard := some (6, false) }) (v := ?_) rfl (by kernel_rfl) (by kernel_rfl) (by kernel_rfl) (fun _ _ _ h => h) (Or.inl ⟨by rfl, ?hy⟩) hHeld ?_
    case hy => (intro w' hSw; (try dsimp only at hSw); go_simp; try with_reducible rfl)
    simp only [Act.put, List.setIfInBounds_toArray, List.set_cons_zero, List.set_cons_succ]
    refine wpAnyH_take (i := 8) (oi := { dst := some 21, op := Op.move (Operand.tmp 1), type := 26, pos := "l09_reader.go:89", after := #[{ on := 6, ground := Ground.guard }], guard := some (6, false) }) (v := ?_) rfl (by kernel_rfl) (by kernel_rfl) (by kernel_rfl) (fun _ _ _ h => h) (Or.inl ⟨by rfl, ?hy⟩) hHeld ?_
    case hy => (intro w' hSw; (try dsimp only at hSw); go_simp; try with_reducible rfl)
    simp only [Act.put, List.setIfInBounds_toArray, List.set_cons_zero, List.set_cons_succ]
    refine wpAnyH_take (i := 9) (oi := { dst := some 22, op := Op.move (Operand.tmp 2), type := 2, pos := "l09_reader.go:89", after := #[{ on := 6, ground := Ground.guard }], guard := some (6, false) }) (v := ?_) rfl (by kernel_rfl) (by kernel_rfl) (by kernel_rfl) (fun _ _ _ h => h) (Or.inl ⟨by rfl, ?hy⟩) hHeld ?_
    case hy => (intro w' hSw; (try dsimp only at hSw); go_simp; try with_reducible rfl)
    simp only [Act.put, List.setIfInBounds_toArray, List.set_cons_zero, List.set_cons_succ]
    refine wpAnyH_take (i := 10) (oi := { dst := some 23, op := Op.indexAddr 26 (Operand.tmp 21) (Operand.tmp 22), type := 0, pos := "l09_reader.go:89", after := #[{ on := 8, ground := Ground.data }, { on := 9, ground := Ground.data }, { on := 6, ground := Ground.guard }], guard := some (6, false) }) (v := ?_) rfl (by kernel_rfl) (by kernel_rfl) (by kernel_rfl) (fun _ _ _ h => h) (Or.inl ⟨by rfl, ?hy⟩) hHeld ?_
    case hy => (intro w' hSw; (try dsimp only at hSw); go_simp; try with_reducible rfl)
    simp only [Act.put, List.setIfInBounds_toArray, List.set_cons_zero, List.set_cons_succ]
    refine wpAnyH_take (i := 11) (oi := { dst := some 24, op := Op.fieldAddr 58 (Operand.tmp 23) 2, type := 0, pos := "l09_reader.go:89", after := #[{ on := 10, ground := Ground.data }, { on := 6, ground := Ground.guard }], guard := some (6, false) }) (v := ?_) rfl (by kernel_rfl) (by kernel_rfl) (by kernel_rfl) (fun _ _ _ h => h) (Or.inl ⟨by rfl, ?hy⟩) hHeld ?_
    case hy => (intro w' hSw; (try dsimp only at hSw); go_simp; try with_reducible rfl)
    simp only [Act.put, List.setIfInBounds_toArray, List.set_cons_zero, List.set_cons_succ]
    refine wpAnyH_take (i := 12) (oi := { dst := some 25, op := Op.load 2 (Operand.tmp 24), type := 2, pos := "l09_reader.go:89", after := #[{ on := 11, ground := Ground.data }, { on := 6, ground := Ground.guard }], guard := some (6, false) }) (v := ?_) rfl (by kernel_rfl) (by kernel_rfl) (by kernel_rfl) (fun _ _ _ h => h) (Or.inl ⟨by rfl, ?hy⟩) hHeld ?_
    case hy => (intro w' hSw; (try dsimp only at hSw); go_simp; try with_reducible rfl)
    simp only [Act.put, List.setIfInBounds_toArray, List.set_cons_zero, List.set_cons_succ]
    refine wpAnyH_take (i := 13) (oi := { dst := some 26, op := Op.move (Operand.tmp 1), type := 26, pos := "l09_reader.go:89", after := #[{ on := 6, ground := Ground.guard }], guard := some (6, false) }) (v := ?_) rfl (by kernel_rfl) (by kernel_rfl) (by kernel_rfl) (fun _ _ _ h => h) (Or.inl ⟨by rfl, ?hy⟩) hHeld ?_
    case hy => (intro w' hSw; (try dsimp only at hSw); go_simp; try with_reducible rfl)
    simp only [Act.put, List.setIfInBounds_toArray, List.set_cons_zero, List.set_cons_succ]
    refine wpAnyH_take (i := 14) (oi := { dst := some 27, op := Op.move (Operand.tmp 7), type := 2, pos := "l09_reader.go:89", after := #[{ on := 6, ground := Ground.guard }], guard := some (6, false) }) (v := ?_) rfl (by kernel_rfl) (by kernel_rfl) (by kernel_rfl) (fun _ _ _ h => h) (Or.inl ⟨by rfl, ?hy⟩) hHeld ?_
    case hy => (intro w' hSw; (try dsimp only at hSw); go_simp; try with_reducible rfl)
    simp only [Act.put, List.setIfInBounds_toArray, List.set_cons_zero, List.set_cons_succ]
    refine wpAnyH_take (i := 15) (oi := { dst := some 28, op := Op.indexAddr 26 (Operand.tmp 26) (Operand.tmp 27), type := 0, pos := "l09_reader.go:89", after := #[{ on := 13, ground := Ground.data }, { on := 14, ground := Ground.data }, { on := 6, ground := Ground.guard }], guard := some (6, false) }) (v := ?_) rfl (by kernel_rfl) (by kernel_rfl) (by kernel_rfl) (fun _ _ _ h => h) (Or.inl ⟨by rfl, ?hy⟩) hHeld ?_
    case hy => (intro w' hSw; (try dsimp only at hSw); go_simp; try with_reducible rfl)
    simp only [Act.put, List.setIfInBounds_toArray, List.set_cons_zero, List.set_cons_succ]
    refine wpAnyH_take (i := 16) (oi := { dst := some 29, op := Op.fieldAddr 58 (Operand.tmp 28) 1, type := 0, pos := "l09_reader.go:89", after := #[{ on := 15, ground := Ground.data }, { on := 6, ground := Ground.guard }], guard := some (6, false) }) (v := ?_) rfl (by kernel_rfl) (by kernel_rfl) (by kernel_rfl) (fun _ _ _ h => h) (Or.inl ⟨by rfl, ?hy⟩) hHeld ?_
    case hy => (intro w' hSw; (try dsimp only at hSw); go_simp; try with_reducible rfl)
    simp only [Act.put, List.setIfInBounds_toArray, List.set_cons_zero, List.set_cons_succ]
    refine wpAnyH_take (i := 17) (oi := { dst := some 30, op := Op.load 2 (Operand.tmp 29), type := 2, pos := "l09_reader.go:89", after := #[{ on := 16, ground := Ground.data }, { on := 6, ground := Ground.guard }], guard := some (6, false) }) (v := ?_) rfl (by kernel_rfl) (by kernel_rfl) (by kernel_rfl) (fun _ _ _ h => h) (Or.inl ⟨by rfl, ?hy⟩) hHeld ?_
    case hy => (intro w' hSw; (try dsimp only at hSw); go_simp; try with_reducible rfl)
    simp only [Act.put, List.setIfInBounds_toArray, List.set_cons_zero, List.set_cons_succ]
    refine wpAnyH_ready (rs := [18]) (by kernel_rfl) (by simp) ?_
    refine AllReadyH.cons (o := { dst := some 31, op := Op.call { callee := Callee.value (Operand.func 56), args := #[Operand.tmp 20, Operand.tmp 25, Operand.tmp 30], argTypes := #[2, 2, 2] }, type := 2, pos := "l09_reader.go:89", after := #[{ on := 7, ground := Ground.data }, { on := 12, ground := Ground.data }, { on := 17, ground := Ground.data }, { on := 6, ground := Ground.chain }, { on := 6, ground := Ground.guard }], guard := some (6, false) }) rfl (fun K hK => ?_) AllReadyH.nil
    go_simp
    go_at_call 56; refine (CB.out _).mono ?_; rintro e w5 ⟨rfl, hb5⟩; replace HC := Lib.hid (HC.out.trans (hb5.mono HC.out.size))
    go_wp2_with fail
    refine hK.out _ _ (KS.out _ HC.out) (fun hHeld => ?_)
    clear hK K
    try simp only [Act.put, List.setIfInBounds_toArray, List.set_cons_zero, List.set_cons_succ]
    refine wpAnyH_take (i := 19) (oi := { dst := some 32, op := Op.binOp BinOp.gtr 2 (Operand.tmp 31) (Operand.const (Value.int IntKind.i64 320)) 2, type := 4, pos := "l09_reader.go:89", after := #[{ on := 18, ground := Ground.data }, { on := 6, ground := Ground.guard }], guard := some (6, false) }) (v := ?_) rfl (by kernel_rfl) (by kernel_rfl) (by kernel_rfl) (fun _ _ _ h => h) (Or.inl ⟨by rfl, ?hy⟩) hHeld ?_
    case hy => (intro w' hSw; (try dsimp only at hSw); go_simp; try with_reducible rfl)
    simp only [Act.put, List.setIfInBounds_toArray, List.set_cons_zero, List.set_cons_succ]
    refine wpAnyH_take (i := 20) (oi := { dst := some 33, op := Op.pick (Operand.tmp 19) (Operand.const (Value.bool true)) (Operand.tmp 32), type := 4, pos := "l09_reader.go:89", after := #[{ on := 6, ground := Ground.data }, { on := 19, ground := Ground.data }], guard := none }) (v := ?_) rfl (by kernel_rfl) (by kernel_rfl) (by kernel_rfl) (fun _ _ _ h => h) (Or.inl ⟨by rfl, ?hy⟩) hHeld ?_
    case hy => (intro w' hSw; (try dsimp only at hSw); go_simp; try with_reducible rfl)
    simp only [Act.put, List.setIfInBounds_toArray, List.set_cons_zero, List.set_cons_succ]
    refine wpAnyH_done (by kernel_rfl) ?_ _
    go_wp2
    go_ret
    obtain ⟨hg9, hn9⟩ := HQ.out
    have hg8 := hg9.symm.trans HG.out
    rw [hg8] at hn9
    subst hg8
    subst hn9
    exact ⟨rfl, HC.out⟩
  have HG := Lib.hid (show dmGood t x y = true by rw [HG0.out]; simp [hB])
  go_enter Try.func27, Try.ntmps27
  go_upto_region 2 with (fail)
  refine wp_region_held_drew (S := (fun w' => w'.cell? ⟨bb, off + j * 3, none⟩ = some (.int .i64 y.f0) ∧ w'.cell? ⟨bb, off + j * 3 + 1, none⟩ = some (.int .i64 y.f1) ∧ w'.cell? ⟨bb, off + m * 3 + 2, none⟩ = some (.int .i64 x.f2))) (by kernel_rfl) (KS.out _ HC.out) (fun hHeld => ?_)
  refine wpAnyH_take (i := 0) (oi := { dst := some 13, op := Op.move (Operand.tmp 1), type := 26, pos := "l09_reader.go:89", after := #[], guard := none }) (v := ?_) rfl (by kernel_rfl) (by kernel_rfl) (by kernel_rfl) (fun _ _ _ h => h) (Or.inl ⟨by rfl, ?hy⟩) hHeld ?_
  case hy => (intro w' hSw; (try dsimp only at hSw); go_simp; try with_reducible rfl)
  simp only [Act.put, List.setIfInBounds_toArray, List.set_cons_zero, List.set_cons_succ]
  refine wpAnyH_take (i := 1) (oi := { dst := some 14, op := Op.move (Operand.tmp 7), type := 2, pos := "l09_reader.go:89", after := #[], guard := none }) (v := ?_) rfl (by kernel_rfl) (by kernel_rfl) (by kernel_rfl) (fun _ _ _ h => h) (Or.inl ⟨by rfl, ?hy⟩) hHeld ?_
  case hy => (intro w' hSw; (try dsimp only at hSw); go_simp; try with_reducible rfl)
  simp only [Act.put, List.setIfInBounds_toArray, List.set_cons_zero, List.set_cons_succ]
  refine wpAnyH_take (i := 2) (oi := { dst := some 15, op := Op.indexAddr 26 (Operand.tmp 13) (Operand.tmp 14), type := 0, pos := "l09_reader.go:89", after := #[{ on := 0, ground := Ground.data }, { on := 1, ground := Ground.data }], guard := none }) (v := ?_) rfl (by kernel_rfl) (by kernel_rfl) (by kernel_rfl) (fun _ _ _ h => h) (Or.inl ⟨by rfl, ?hy⟩) hHeld ?_
  case hy => (intro w' hSw; (try dsimp only at hSw); go_simp; try with_reducible rfl)
  simp only [Act.put, List.setIfInBounds_toArray, List.set_cons_zero, List.set_cons_succ]
  refine wpAnyH_take (i := 3) (oi := { dst := some 16, op := Op.fieldAddr 58 (Operand.tmp 15) 0, type := 0, pos := "l09_reader.go:89", after := #[{ on := 2, ground := Ground.data }], guard := none }) (v := ?_) rfl (by kernel_rfl) (by kernel_rfl) (by kernel_rfl) (fun _ _ _ h => h) (Or.inl ⟨by rfl, ?hy⟩) hHeld ?_
  case hy => (intro w' hSw; (try dsimp only at hSw); go_simp; try with_reducible rfl)
  simp only [Act.put, List.setIfInBounds_toArray, List.set_cons_zero, List.set_cons_succ]
  refine wpAnyH_take (i := 4) (oi := { dst := some 17, op := Op.load 2 (Operand.tmp 16), type := 2, pos := "l09_reader.go:89", after := #[{ on := 3, ground := Ground.data }], guard := none }) (v := ?_) rfl (by kernel_rfl) (by kernel_rfl) (by kernel_rfl) (fun _ _ _ h => h) (Or.inl ⟨by rfl, ?hy⟩) hHeld ?_
  case hy => (intro w' hSw; (try dsimp only at hSw); go_simp; try with_reducible rfl)
  simp only [Act.put, List.setIfInBounds_toArray, List.set_cons_zero, List.set_cons_succ]
  refine wpAnyH_take (i := 5) (oi := { dst := some 18, op := Op.binOp BinOp.eql 2 (Operand.tmp 17) (Operand.const (Value.int IntKind.i64 1)) 2, type := 4, pos := "l09_reader.go:89", after := #[{ on := 4, ground := Ground.data }], guard := none }) (v := ?_) rfl (by kernel_rfl) (by kernel_rfl) (by kernel_rfl) (fun _ _ _ h => h) (Or.inl ⟨by rfl, ?hy⟩) hHeld ?_
  case hy => (intro w' hSw; (try dsimp only at hSw); go_simp; try with_reducible rfl)
  simp only [Act.put, List.setIfInBounds_toArray, List.set_cons_zero, List.set_cons_succ]
  refine wpAnyH_take (i := 6) (oi := { dst := some 19, op := Op.move (Operand.tmp 18), type := 4, pos := "l09_reader.go:89", after := #[{ on := 5, ground := Ground.data }], guard := none }) (v := ?_) rfl (by kernel_rfl) (by kernel_rfl) (by kernel_rfl) (fun _ _ _ h => h) (Or.inl ⟨by rfl, ?hy⟩) hHeld ?_
  case hy => (intro w' hSw; (try dsimp only at hSw); go_simp; try with_reducible rfl)
  simp only [Act.put, List.setIfInBounds_toArray, List.set_cons_zero, List.set_cons_succ]
  refine wpAnyH_take (i := 7) (oi := { dst := some 20, op := Op.move (Operand.tmp 0), type := 2, pos := "l09_reader.go:89", after := #[{ on := 6, ground := Ground.guard }], guard := some (6, false) }) (v := ?_) rfl (by kernel_rfl) (by kernel_rfl) (by kernel_rfl) (fun _ _ _ h => h) (Or.inl ⟨by rfl, ?hy⟩) hHeld ?_
  case hy => (intro w' hSw; (try dsimp only at hSw); go_simp; try with_reducible rfl)
  simp only [Act.put, List.setIfInBounds_toArray, List.set_cons_zero, List.set_cons_succ]
  refine wpAnyH_take (i := 8) (oi := { dst := some 21, op := Op.move (Operand.tmp 1), type := 26, pos := "l09_reader.go:89", after := #[{ on := 6, ground := Ground.guard }], guard := some (6, false) }) (v := ?_) rfl (by kernel_rfl) (by kernel_rfl) (by kernel_rfl) (fun _ _ _ h => h) (Or.inl ⟨by rfl, ?hy⟩) hHeld ?_
  case hy => (intro w' hSw; (try dsimp only at hSw); go_simp; try with_reducible rfl)
  simp only [Act.put, List.setIfInBounds_toArray, List.set_cons_zero, List.set_cons_succ]
  refine wpAnyH_take (i := 9) (oi := { dst := some 22, op := Op.move (Operand.tmp 2), type := 2, pos := "l09_reader.go:89", after := #[{ on := 6, ground := Ground.guard }], guard := some (6, false) }) (v := ?_) rfl (by kernel_rfl) (by kernel_rfl) (by kernel_rfl) (fun _ _ _ h => h) (Or.inl ⟨by rfl, ?hy⟩) hHeld ?_
  case hy => (intro w' hSw; (try dsimp only at hSw); go_simp; try with_reducible rfl)
  simp only [Act.put, List.setIfInBounds_toArray, List.set_cons_zero, List.set_cons_succ]
  refine wpAnyH_take (i := 10) (oi := { dst := some 23, op := Op.indexAddr 26 (Operand.tmp 21) (Operand.tmp 22), type := 0, pos := "l09_reader.go:89", after := #[{ on := 8, ground := Ground.data }, { on := 9, ground := Ground.data }, { on := 6, ground := Ground.guard }], guard := some (6, false) }) (v := ?_) rfl (by kernel_rfl) (by kernel_rfl) (by kernel_rfl) (fun _ _ _ h => h) (Or.inl ⟨by rfl, ?hy⟩) hHeld ?_
  case hy => (intro w' hSw; (try dsimp only at hSw); go_simp; try with_reducible rfl)
  simp only [Act.put, List.setIfInBounds_toArray, List.set_cons_zero, List.set_cons_succ]
  refine wpAnyH_take (i := 11) (oi := { dst := some 24, op := Op.fieldAddr 58 (Operand.tmp 23) 2, type := 0, pos := "l09_reader.go:89", after := #[{ on := 10, ground := Ground.data }, { on := 6, ground := Ground.guard }], guard := some (6, false) }) (v := ?_) rfl (by kernel_rfl) (by kernel_rfl) (by kernel_rfl) (fun _ _ _ h => h) (Or.inl ⟨by rfl, ?hy⟩) hHeld ?_
  case hy => (intro w' hSw; (try dsimp only at hSw); go_simp; try with_reducible rfl)
  simp only [Act.put, List.setIfInBounds_toArray, List.set_cons_zero, List.set_cons_succ]
  refine wpAnyH_take (i := 12) (oi := { dst := some 25, op := Op.load 2 (Operand.tmp 24), type := 2, pos := "l09_reader.go:89", after := #[{ on := 11, ground := Ground.data }, { on := 6, ground := Ground.guard }], guard := some (6, false) }) (v := ?_) rfl (by kernel_rfl) (by kernel_rfl) (by kernel_rfl) (fun _ _ _ h => h) (Or.inl ⟨by rfl, ?hy⟩) hHeld ?_
  case hy => (intro w' hSw; (try dsimp only at hSw); go_simp; try with_reducible rfl)
  simp only [Act.put, List.setIfInBounds_toArray, List.set_cons_zero, List.set_cons_succ]
  refine wpAnyH_take (i := 13) (oi := { dst := some 26, op := Op.move (Operand.tmp 1), type := 26, pos := "l09_reader.go:89", after := #[{ on := 6, ground := Ground.guard }], guard := some (6, false) }) (v := ?_) rfl (by kernel_rfl) (by kernel_rfl) (by kernel_rfl) (fun _ _ _ h => h) (Or.inl ⟨by rfl, ?hy⟩) hHeld ?_
  case hy => (intro w' hSw; (try dsimp only at hSw); go_simp; try with_reducible rfl)
  simp only [Act.put, List.setIfInBounds_toArray, List.set_cons_zero, List.set_cons_succ]
  refine wpAnyH_take (i := 14) (oi := { dst := some 27, op := Op.move (Operand.tmp 7), type := 2, pos := "l09_reader.go:89", after := #[{ on := 6, ground := Ground.guard }], guard := some (6, false) }) (v := ?_) rfl (by kernel_rfl) (by kernel_rfl) (by kernel_rfl) (fun _ _ _ h => h) (Or.inl ⟨by rfl, ?hy⟩) hHeld ?_
  case hy => (intro w' hSw; (try dsimp only at hSw); go_simp; try with_reducible rfl)
  simp only [Act.put, List.setIfInBounds_toArray, List.set_cons_zero, List.set_cons_succ]
  refine wpAnyH_take (i := 15) (oi := { dst := some 28, op := Op.indexAddr 26 (Operand.tmp 26) (Operand.tmp 27), type := 0, pos := "l09_reader.go:89", after := #[{ on := 13, ground := Ground.data }, { on := 14, ground := Ground.data }, { on := 6, ground := Ground.guard }], guard := some (6, false) }) (v := ?_) rfl (by kernel_rfl) (by kernel_rfl) (by kernel_rfl) (fun _ _ _ h => h) (Or.inl ⟨by rfl, ?hy⟩) hHeld ?_
  case hy => (intro w' hSw; (try dsimp only at hSw); go_simp; try with_reducible rfl)
  simp only [Act.put, List.setIfInBounds_toArray, List.set_cons_zero, List.set_cons_succ]
  refine wpAnyH_take (i := 16) (oi := { dst := some 29, op := Op.fieldAddr 58 (Operand.tmp 28) 1, type := 0, pos := "l09_reader.go:89", after := #[{ on := 15, ground := Ground.data }, { on := 6, ground := Ground.guard }], guard := some (6, false) }) (v := ?_) rfl (by kernel_rfl) (by kernel_rfl) (by kernel_rfl) (fun _ _ _ h => h) (Or.inl ⟨by rfl, ?hy⟩) hHeld ?_
  case hy => (intro w' hSw; (try dsimp only at hSw); go_simp; try with_reducible rfl)
  simp only [Act.put, List.setIfInBounds_toArray, List.set_cons_zero, List.set_cons_succ]
  refine wpAnyH_take (i := 17) (oi := { dst := some 30, op := Op.load 2 (Operand.tmp 29), type := 2, pos := "l09_reader.go:89", after := #[{ on := 16, ground := Ground.data }, { on := 6, ground := Ground.guard }], guard := some (6, false) }) (v := ?_) rfl (by kernel_rfl) (by kernel_rfl) (by kernel_rfl) (fun _ _ _ h => h) (Or.inl ⟨by rfl, ?hy⟩) hHeld ?_
  case hy => (intro w' hSw; (try dsimp only at hSw); go_simp; try with_reducible rfl)
  simp only [Act.put, List.setIfInBounds_toArray, List.set_cons_zero, List.set_cons_succ]
  refine wpAnyH_ready (rs := [18]) (by kernel_rfl) (by simp) ?_
  refine AllReadyH.cons (o := { dst := some 31, op := Op.call { callee := Callee.value (Operand.func 56), args := #[Operand.tmp 20, Operand.tmp 25, Operand.tmp 30], argTypes := #[2, 2, 2] }, type := 2, pos := "l09_reader.go:89", after := #[{ on := 7, ground := Ground.data }, { on := 12, ground := Ground.data }, { on := 17, ground := Ground.data }, { on := 6, ground := Ground.chain }, { on := 6, ground := Ground.guard }], guard := some (6, false) }) rfl (fun K hK => ?_) AllReadyH.nil
  go_simp
  go_at_call 56; refine (CB.out _).mono ?_; rintro e w5 ⟨rfl, hb5⟩; replace HC := Lib.hid (HC.out.trans (hb5.mono HC.out.size))
  go_wp2_with fail
  refine hK.out _ _ (KS.out _ HC.out) (fun hHeld => ?_)
  clear hK K
  try simp only [Act.put, List.setIfInBounds_toArray, List.set_cons_zero, List.set_cons_succ]
  refine wpAnyH_take (i := 19) (oi := { dst := some 32, op := Op.binOp BinOp.gtr 2 (Operand.tmp 31) (Operand.const (Value.int IntKind.i64 320)) 2, type := 4, pos := "l09_reader.go:89", after := #[{ on := 18, ground := Ground.data }, { on := 6, ground := Ground.guard }], guard := some (6, false) }) (v := ?_) rfl (by kernel_rfl) (by kernel_rfl) (by kernel_rfl) (fun _ _ _ h => h) (Or.inl ⟨by rfl, ?hy⟩) hHeld ?_
  case hy => (intro w' hSw; (try dsimp only at hSw); go_simp; try with_reducible rfl)
  simp only [Act.put, List.setIfInBounds_toArray, List.set_cons_zero, List.set_cons_succ]
  refine wpAnyH_take (i := 20) (oi := { dst := some 33, op := Op.pick (Operand.tmp 19) (Operand.const (Value.bool true)) (Operand.tmp 32), type := 4, pos := "l09_reader.go:89", after := #[{ on := 6, ground := Ground.data }, { on := 19, ground := Ground.data }], guard := none }) (v := ?_) rfl (by kernel_rfl) (by kernel_rfl) (by kernel_rfl) (fun _ _ _ h => h) (Or.inl ⟨by rfl, ?hy⟩) hHeld ?_
  case hy => (intro w' hSw; (try dsimp only at hSw); go_simp; try with_reducible rfl)
  simp only [Act.put, List.setIfInBounds_toArray, List.set_cons_zero, List.set_cons_succ]
  refine wpAnyH_done (by kernel_rfl) ?_ _
  go_wp2
  go_ret
  obtain ⟨hg9, hn9⟩ := HQ.out
  have hg8 := hg9.symm.trans HG.out
  rw [hg8] at hn9
  subst hg8
  subst hn9
  exact ⟨rfl, HC.out⟩
set_option maxHeartbeats 4000000 in
theorem specDataMarkOf_g (s : ByteArray) (f : Int) (a : Option Addr) (c : Nat) (es : List MarkV) (k : Int) (hs : s.size ≤ 1048576) (hm : es.length ≤ 1048576) (w : World) (h : SlS rowMark w a es) :
    Calls Try.prog 8 #[.string s, .int .i64 f, .slice a es.length c, .int .i64 k] w fun e w' => e = .returned (.tuple #[.int .i64 (dmN s f es k), .bool (dmB s f es k)]) ∧ Below w.heap.size w w' := by
  have ic := fun w' (hb : Below w.heap.size w w') => l09Ask_any s f a es c k w' hs hm (h.below hb (Nat.le_refl _))
  by_cases hk : askC s f es k = 0
  case neg =>
    have HB := Lib.hid (show dmB s f es k = false by unfold dmB; simp [hk])
    unfold dmN
    rw [HB.out]
    obtain ⟨q, hq⟩ : ∃ q, askC s f es k = q := ⟨_, rfl⟩
    rw [hq] at hk ic
    have hne : (q != 0) = true := by simp [hk]
    have IC := Lib.hid ic
    clear ic hk hq h
    go_enter Try.func8, Try.ntmps8
    go_wp2_with fail
    refine (IC.out _ (Below.refl _ _)).mono ?_
    rintro e w1 ⟨rfl, hb1⟩
    go_wp2
    go_ret2
    exact ⟨rfl, hb1⟩
  obtain ⟨m, hkm, hml⟩ : ∃ m : Nat, k = (m : Int) ∧ m < es.length := by
    unfold askC at hk
    split at hk
    · split at hk
      · rename_i hp
        obtain ⟨i0, i1⟩ := inB_iff.1 hp
        exact ⟨k.toNat, by omega, by omega⟩
      · omega
    · omega
  subst hkm
  have hjl : (m + 1) % es.length < es.length := Nat.mod_lt _ (by omega)
  obtain ⟨x, hx⟩ : ∃ e, es[m]? = some e := ⟨es[m], by simp [hml]⟩
  obtain ⟨y, hy⟩ : ∃ e, es[(m + 1) % es.length]? = some e := ⟨es[(m + 1) % es.length], by simp [hjl]⟩
  have HB := Lib.hid (show dmB s f es (m : Int) = dmGood s.size x y by unfold dmB nextI; rw [Int.toNat_natCast, hx, hy]; simp [hk])
  have HN := Lib.hid (show nextI es (m : Int) = (m + 1) % es.length by unfold nextI; rw [Int.toNat_natCast])
  unfold dmN
  rw [HB.out, HN.out]
  rw [hk] at ic
  have dm := fun w' (hb : Below w.heap.size w w') => l09DataMark_any (s.size : Int) a es c m ((m + 1) % es.length) x y w' hm (h.below hb (Nat.le_refl _)) hx hy rfl
  generalize (m + 1) % es.length = j at *
  generalize dmGood s.size x y = q at *
  have IC := Lib.hid ic
  clear ic hk h hx hy HB HN
  cases q with
  | false =>
    simp only [Bool.false_eq_true, if_false] at dm ⊢
    have DM := Lib.hid dm
    clear dm
    go_enter Try.func8, Try.ntmps8
    go_wp2_with fail
    refine (IC.out _ (Below.refl _ _)).mono ?_
    rintro e w1 ⟨rfl, hb1⟩
    go_wp2_with fail
    refine (DM.out _ hb1).mono ?_
    rintro e w2 ⟨rfl, hb2⟩
    have F2 := Lib.hid (hb1.trans (hb2.mono hb1.size))
    clear hb1 hb2
    go_wp2
    go_ret2
    exact ⟨rfl, F2.out⟩
  | true =>
    simp only [if_true] at dm ⊢
    have DM := Lib.hid dm
    have hj0 : ¬ (j : Int) < 0 := by omega
    clear dm
    go_enter Try.func8, Try.ntmps8
    go_wp2_with fail
    refine (IC.out _ (Below.refl _ _)).mono ?_
    rintro e w1 ⟨rfl, hb1⟩
    go_wp2_with fail
    refine (DM.out _ hb1).mono ?_
    rintro e w2 ⟨rfl, hb2⟩
    have F2 := Lib.hid (hb1.trans (hb2.mono hb1.size))
    clear hb1 hb2
    go_wp2
    go_ret2
    exact ⟨rfl, F2.out⟩
end Go.Proofs.Ytidedgcmpkahgaa
