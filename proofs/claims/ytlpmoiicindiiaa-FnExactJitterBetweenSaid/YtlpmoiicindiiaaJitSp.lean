/- spec.JitterBetween -/
import Derived.Test.YtlpmoiicindiiaaSpecChanges
import Derived.Test.YtlpmoiicindiiaaJitVal
import Derived.Deep.DeepCutAuto
namespace Go.Proofs.Ytlpmoiicindiiaa
open Go.RowKit
set_option linter.unusedVariables false
set_option linter.unusedSimpArgs false
set_option maxRecDepth 20000
theorem maxJ_any (a b : Int) (w : World) : Calls Try.prog 12 #[.int .i64 a, .int .i64 b] w fun e w' => e = .returned (.int .i64 (max a b)) ∧ w = w' := by
  by_cases h : b < a
  all_goals
    go_enter Try.func12, Try.ntmps12
    go_wp2
    go_ret
    exact ⟨ret_int (by omega), rfl⟩
set_option maxHeartbeats 8000000 in
theorem specJitterBetween_any (c0 f0 : Int) (s0 : Option Addr) (cap0 : Nat) (xs0 : List Int) (c1 f1 : Int) (s1 : Option Addr) (cap1 : Nat) (xs1 : List Int) (hl0 : xs0.length ≤ 1048576) (hl1 : xs1.length ≤ 1048576) (w : World) (h0 : SlA w s0 xs0) (h1 : SlA w s1 xs1) :
    Calls Try.prog 5 #[.agg #[.int .i64 c0, .int .i64 f0, .slice s0 xs0.length cap0], .agg #[.int .i64 c1, .int .i64 f1, .slice s1 xs1.length cap1]] w fun e w' => e = .returned (.tuple #[.int .i64 (jtV c0 f0 xs0 c1 f1 xs1), .bool (jtOk c0 f0 xs0 c1 f1 xs1)]) ∧ Below w.heap.size w w' := by
  have K0 := Lib.hid (fun w' (hb : Below w.heap.size w w') (hf : FluxAt w' w.heap.size c0 f0 s0 xs0.length cap0) => l02Ok_any w.heap.size c0 f0 s0 xs0 cap0 w' hl0 hf (h0.below hb (Nat.le_refl _)))
  have K1 := Lib.hid (fun w' (hb : Below w.heap.size w w') (hf : FluxAt w' (w.heap.size + 1) c1 f1 s1 xs1.length cap1) => l02Ok_any (w.heap.size + 1) c1 f1 s1 xs1 cap1 w' hl1 hf (h1.below hb (Nat.le_refl _)))
  have B0 := Lib.hid ((FluxAt.new w c0 f0 s0 xs0.length cap0 28 w.heap.size rfl).below (Below.alloc (Below.refl _ _) (Nat.le_refl _) (.cells #[.int .i64 c1, .int .i64 f1, .slice s1 xs1.length cap1] 28)) (by simp))
  have B1 := Lib.hid (FluxAt.new (w.alloc (.cells #[.int .i64 c0, .int .i64 f0, .slice s0 xs0.length cap0] 28)) c1 f1 s1 xs1.length cap1 28 (w.heap.size + 1) (by simp))
  by_cases hv0 : fluxOk c0 f0 xs0 = true
  case neg =>
    have hv0 : fluxOk c0 f0 xs0 = false := by simpa using hv0
    have hJ : jtOk c0 f0 xs0 c1 f1 xs1 = false := by unfold jtOk; rw [hv0]; rfl
    have hV : jtV c0 f0 xs0 c1 f1 xs1 = 0 := by unfold jtV; rw [hJ]; rfl
    rw [hJ, hV]
    rw [hv0] at K0
    clear hv0 hJ hV h0 h1
    go_enter Try.func5, Try.ntmps5
    go_wp2_with fail
    refine (K0.out _ (by go_grown) B0.out).mono ?_
    rintro e w1 ⟨rfl, hb1⟩
    go_wp2
    go_ret2
    exact ⟨rfl, Below.trans (by go_grown) (hb1.mono (by simp; omega))⟩
  rw [hv0] at K0
  by_cases hv1 : fluxOk c1 f1 xs1 = true
  case neg =>
    have hv1 : fluxOk c1 f1 xs1 = false := by simpa using hv1
    have hJ : jtOk c0 f0 xs0 c1 f1 xs1 = false := by unfold jtOk; rw [hv1, hv0]; rfl
    have hV : jtV c0 f0 xs0 c1 f1 xs1 = 0 := by unfold jtV; rw [hJ]; rfl
    rw [hJ, hV]
    rw [hv1] at K1
    clear hv0 hv1 hJ hV h0 h1
    go_enter Try.func5, Try.ntmps5
    go_wp2_with fail
    refine (K0.out _ (by go_grown) B0.out).mono ?_
    rintro e w1 ⟨rfl, hb1⟩
    have FB1 := Lib.hid (show Below w.heap.size w w1 from Below.trans (by go_grown) (hb1.mono (by simp; omega)))
    have B2 := Lib.hid (B1.out.below hb1 (by simp))
    clear hb1
    go_wp2_with fail
    refine (K1.out _ FB1.out B2.out).mono ?_
    rintro e w2 ⟨rfl, hb2⟩
    go_wp2
    go_ret2
    exact ⟨rfl, FB1.out.trans (hb2.mono FB1.out.size)⟩
  rw [hv1] at K1
  by_cases hln : xs0.length = xs1.length
  case neg =>
    have hJ : jtOk c0 f0 xs0 c1 f1 xs1 = false := by unfold jtOk; rw [hv1, hv0, decide_eq_false hln]; rfl
    have hV : jtV c0 f0 xs0 c1 f1 xs1 = 0 := by unfold jtV; rw [hJ]; rfl
    rw [hJ, hV]
    have hnl : ((xs0.length : Int) != (xs1.length : Int)) = true := by simp; omega
    clear hv0 hv1 hJ hV h0 h1
    go_enter Try.func5, Try.ntmps5
    go_wp2_with fail
    refine (K0.out _ (by go_grown) B0.out).mono ?_
    rintro e w1 ⟨rfl, hb1⟩
    have FB1 := Lib.hid (show Below w.heap.size w w1 from Below.trans (by go_grown) (hb1.mono (by simp; omega)))
    replace B0 := Lib.hid (B0.out.below hb1 (by simp; omega))
    have B2 := Lib.hid (B1.out.below hb1 (by simp))
    clear hb1
    go_wp2_with fail
    refine (K1.out _ FB1.out B2.out).mono ?_
    rintro e w2 ⟨rfl, hb2⟩
    obtain ⟨_, _, a2⟩ := B0.out.below hb2 B0.out.lt
    obtain ⟨_, _, b2⟩ := B2.out.below hb2 B2.out.lt
    go_wp2
    go_ret2
    exact ⟨rfl, FB1.out.trans (hb2.mono FB1.out.size)⟩
  have hJ : jtOk c0 f0 xs0 c1 f1 xs1 = true := by unfold jtOk; rw [hv1, hv0, decide_eq_true hln]; rfl
  have hV : jtV c0 f0 xs0 c1 f1 xs1 = jtK (timesOf f0 xs0) (timesOf f1 xs1) xs0.length := by unfold jtV; rw [if_pos hJ]
  rw [hJ, hV]
  obtain ⟨_, ⟨_, hz40⟩, hz0, _, hf00, _⟩ := fluxOk_iff.1 hv0
  obtain ⟨_, ⟨_, hz41⟩, hz1, _, hf01, _⟩ := fluxOk_iff.1 hv1
  have M0 := Lib.hid (fun w' (hb : Below w.heap.size w w') (hf : FluxAt w' w.heap.size c0 f0 s0 xs0.length cap0) => l02Changes_any w.heap.size c0 f0 s0 xs0 cap0 w' hz40 hz0 hf00 (last_bd hv0) hf (h0.below hb (Nat.le_refl _)))
  have M1 := Lib.hid (fun w' (hb : Below w.heap.size w w') (hf : FluxAt w' (w.heap.size + 1) c1 f1 s1 xs1.length cap1) => l02Changes_any (w.heap.size + 1) c1 f1 s1 xs1 cap1 w' hz41 hz1 hf01 (last_bd hv1) hf (h1.below hb (Nat.le_refl _)))
  have HB0 := Lib.hid (times_bd hv0 (last_bd hv0))
  have HB1 := Lib.hid (times_bd hv1 (last_bd hv1))
  have HT := Lib.hid (And.intro (timesOf_length f0 xs0) (timesOf_length f1 xs1))
  generalize timesOf f0 xs0 = xs at *
  generalize timesOf f1 xs1 = ys at *
  have hlx : xs0.length ≤ 4000 := by omega
  have hnl : ((xs0.length : Int) != (xs1.length : Int)) = false := by simp; omega
  have HLN := Lib.hid hln
  clear hv0 hv1 hJ hV h0 h1 hz0 hz1 hf00 hf01 hln
  go_enter Try.func5, Try.ntmps5
  go_wp2_with fail
  refine (K0.out _ (by go_grown) B0.out).mono ?_
  rintro e w1 ⟨rfl, hb1⟩
  have FB1 := Lib.hid (show Below w.heap.size w w1 from Below.trans (by go_grown) (hb1.mono (by simp; omega)))
  replace B0 := Lib.hid (B0.out.below hb1 (by simp; omega))
  replace B1 := Lib.hid (B1.out.below hb1 (by simp))
  clear hb1 K0
  go_wp2_with fail
  refine (K1.out _ FB1.out B1.out).mono ?_
  rintro e w2 ⟨rfl, hb2⟩
  have FB2 := Lib.hid (show Below w.heap.size w w2 from FB1.out.trans (hb2.mono FB1.out.size))
  replace B0 := Lib.hid (B0.out.below hb2 B0.out.lt)
  replace B1 := Lib.hid (B1.out.below hb2 B1.out.lt)
  obtain ⟨_, _, a2⟩ := B0.out
  obtain ⟨_, _, b2⟩ := B1.out
  clear hb2 K1 FB1
  go_wp2_with fail
  refine (M0.out _ FB2.out B0.out).mono ?_
  rintro e w3 ⟨a3, d3, rfl, hs3, hb3⟩
  have FB3 := Lib.hid (show Below w.heap.size w w3 from FB2.out.trans (hb3.mono FB2.out.size))
  replace B1 := Lib.hid (B1.out.below hb3 B1.out.lt)
  have S0 := Lib.hid hs3.sl
  clear hb3 M0 FB2 hs3 a2 b2
  go_wp2_with fail
  refine (M1.out _ FB3.out B1.out).mono ?_
  rintro e w4 ⟨a4, d4, rfl, hs4, hb4⟩
  have FB4 := Lib.hid (show Below w.heap.size w w4 from FB3.out.trans (hb4.mono FB3.out.size))
  replace S0 := Lib.hid (S0.out.below hb4 (Nat.le_refl _))
  have S1 := Lib.hid hs4.sl
  clear hb4 M1 FB3 hs4 B0 B1
  go_wp2
  go_loopw [8, 9] (fun s i wr => ∃ k : Nat, k ≤ xs0.length ∧ i = .int .i64 (k : Int) ∧ s = .int .i64 (jtK xs ys k) ∧ Below w4.heap.size w4 wr) (fun _ i _ => xs0.length - (intOf i).toNat)
  case atStart => exact ⟨0, Nat.zero_le _, rfl, rfl, Below.refl _ _⟩
  case round =>
    obtain ⟨k, hk, rfl, rfl, hb⟩ := hrel
    by_cases hlt : k < xs0.length
    · obtain ⟨x, hx⟩ : ∃ x, xs[k]? = some x := getOf (by rw [HT.out.1]; exact hlt)
      obtain ⟨y, hy⟩ : ∃ y, ys[k]? = some y := getOf (by rw [HT.out.2, ← HLN.out]; exact hlt)
      have e1 : (k : Int) < (xs0.length : Int) := by omega
      have e2 : (k : Int) < (xs1.length : Int) := by have := HLN.out; omega
      have e3 : k < xs1.length := by have := HLN.out; omega
      obtain ⟨b, off, rfl, hcx⟩ := (S0.out.below hb (Nat.le_refl _)).cell hx
      obtain ⟨b', off', rfl, hcy⟩ := (S1.out.below hb (Nat.le_refl _)).cell hy
      have hxb := HB0.out k x hx
      have hyb := HB1.out k y hy
      have hjb := jtK_bd HB0.out HB1.out k
      have HS := Lib.hid (jtK_succ hx hy)
      have HK := Lib.hid hb
      have MX := Lib.hid (fun a b w => maxJ_any a b w)
      have hw1 : IntKind.i64.wrap (x - y) = x - y := IntWalk.i64_in _ (by omega)
      have hw2 : IntKind.i64.wrap (y - x) = y - x := IntWalk.i64_in _ (by omega)
      clear hx hy hb
      generalize jtK xs ys k = m at *
      go_upto_region 9 with (fail)
      refine wp_region_held_drew (S := (fun w' => w'.cell? ⟨b, off + k, none⟩ = some (.int .i64 x) ∧ w'.cell? ⟨b', off' + k, none⟩ = some (.int .i64 y))) (by kernel_rfl) ⟨hcx, hcy⟩ (fun hHeld => ?_)
      refine wpAnyH_take (i := 0) (oi := { dst := some 33, op := Op.move (Operand.tmp 8), type := 2, pos := "l04_noise.go:156", after := #[], guard := none }) (v := ?_) rfl (by kernel_rfl) (by kernel_rfl) (by kernel_rfl) (fun _ _ _ h => h) (Or.inl ⟨by rfl, ?hy⟩) hHeld ?_
      case hy => (intro w' hSw; (try dsimp only at hSw); go_simp; try with_reducible rfl)
      simp only [Act.put, List.setIfInBounds_toArray, List.set_cons_zero, List.set_cons_succ]
      refine wpAnyH_take (i := 1) (oi := { dst := some 34, op := Op.move (Operand.tmp 6), type := 22, pos := "l04_noise.go:156", after := #[], guard := none }) (v := ?_) rfl (by kernel_rfl) (by kernel_rfl) (by kernel_rfl) (fun _ _ _ h => h) (Or.inl ⟨by rfl, ?hy⟩) hHeld ?_
      case hy => (intro w' hSw; (try dsimp only at hSw); go_simp; try with_reducible rfl)
      simp only [Act.put, List.setIfInBounds_toArray, List.set_cons_zero, List.set_cons_succ]
      refine wpAnyH_take (i := 2) (oi := { dst := some 35, op := Op.move (Operand.tmp 9), type := 3, pos := "l04_noise.go:156", after := #[], guard := none }) (v := ?_) rfl (by kernel_rfl) (by kernel_rfl) (by kernel_rfl) (fun _ _ _ h => h) (Or.inl ⟨by rfl, ?hy⟩) hHeld ?_
      case hy => (intro w' hSw; (try dsimp only at hSw); go_simp; try with_reducible rfl)
      simp only [Act.put, List.setIfInBounds_toArray, List.set_cons_zero, List.set_cons_succ]
      refine wpAnyH_take (i := 3) (oi := { dst := some 36, op := Op.indexAddr 22 (Operand.tmp 34) (Operand.tmp 35), type := 0, pos := "l04_noise.go:156", after := #[{ on := 1, ground := Ground.data }, { on := 2, ground := Ground.data }], guard := none }) (v := ?_) rfl (by kernel_rfl) (by kernel_rfl) (by kernel_rfl) (fun _ _ _ h => h) (Or.inl ⟨by rfl, ?hy⟩) hHeld ?_
      case hy => (intro w' hSw; (try dsimp only at hSw); go_simp; try with_reducible rfl)
      simp only [Act.put, List.setIfInBounds_toArray, List.set_cons_zero, List.set_cons_succ]
      refine wpAnyH_take (i := 4) (oi := { dst := some 37, op := Op.load 2 (Operand.tmp 36), type := 2, pos := "l04_noise.go:156", after := #[{ on := 3, ground := Ground.data }], guard := none }) (v := ?_) rfl (by kernel_rfl) (by kernel_rfl) (by kernel_rfl) (fun _ _ _ h => h) (Or.inl ⟨by rfl, ?hy⟩) hHeld ?_
      case hy => (intro w' hSw; (try dsimp only at hSw); go_simp; try with_reducible rfl)
      simp only [Act.put, List.setIfInBounds_toArray, List.set_cons_zero, List.set_cons_succ]
      refine wpAnyH_take (i := 5) (oi := { dst := some 38, op := Op.move (Operand.tmp 7), type := 22, pos := "l04_noise.go:156", after := #[], guard := none }) (v := ?_) rfl (by kernel_rfl) (by kernel_rfl) (by kernel_rfl) (fun _ _ _ h => h) (Or.inl ⟨by rfl, ?hy⟩) hHeld ?_
      case hy => (intro w' hSw; (try dsimp only at hSw); go_simp; try with_reducible rfl)
      simp only [Act.put, List.setIfInBounds_toArray, List.set_cons_zero, List.set_cons_succ]
      refine wpAnyH_take (i := 6) (oi := { dst := some 39, op := Op.move (Operand.tmp 9), type := 3, pos := "l04_noise.go:156", after := #[], guard := none }) (v := ?_) rfl (by kernel_rfl) (by kernel_rfl) (by kernel_rfl) (fun _ _ _ h => h) (Or.inl ⟨by rfl, ?hy⟩) hHeld ?_
      case hy => (intro w' hSw; (try dsimp only at hSw); go_simp; try with_reducible rfl)
      simp only [Act.put, List.setIfInBounds_toArray, List.set_cons_zero, List.set_cons_succ]
      refine wpAnyH_take (i := 7) (oi := { dst := some 40, op := Op.indexAddr 22 (Operand.tmp 38) (Operand.tmp 39), type := 0, pos := "l04_noise.go:156", after := #[{ on := 5, ground := Ground.data }, { on := 6, ground := Ground.data }], guard := none }) (v := ?_) rfl (by kernel_rfl) (by kernel_rfl) (by kernel_rfl) (fun _ _ _ h => h) (Or.inl ⟨by rfl, ?hy⟩) hHeld ?_
      case hy => (intro w' hSw; (try dsimp only at hSw); go_simp; try with_reducible rfl)
      simp only [Act.put, List.setIfInBounds_toArray, List.set_cons_zero, List.set_cons_succ]
      refine wpAnyH_take (i := 8) (oi := { dst := some 41, op := Op.load 2 (Operand.tmp 40), type := 2, pos := "l04_noise.go:156", after := #[{ on := 7, ground := Ground.data }], guard := none }) (v := ?_) rfl (by kernel_rfl) (by kernel_rfl) (by kernel_rfl) (fun _ _ _ h => h) (Or.inl ⟨by rfl, ?hy⟩) hHeld ?_
      case hy => (intro w' hSw; (try dsimp only at hSw); go_simp; try with_reducible rfl)
      simp only [Act.put, List.setIfInBounds_toArray, List.set_cons_zero, List.set_cons_succ]
      refine wpAnyH_take (i := 9) (oi := { dst := some 42, op := Op.binOp BinOp.sub 2 (Operand.tmp 37) (Operand.tmp 41) 2, type := 2, pos := "l04_noise.go:156", after := #[{ on := 4, ground := Ground.data }, { on := 8, ground := Ground.data }], guard := none }) (v := ?_) rfl (by kernel_rfl) (by kernel_rfl) (by kernel_rfl) (fun _ _ _ h => h) (Or.inl ⟨by rfl, ?hy⟩) hHeld ?_
      case hy => (intro w' hSw; (try dsimp only at hSw); go_simp; try with_reducible rfl)
      simp only [Act.put, List.setIfInBounds_toArray, List.set_cons_zero, List.set_cons_succ]
      refine wpAnyH_take (i := 10) (oi := { dst := some 43, op := Op.move (Operand.tmp 7), type := 22, pos := "l04_noise.go:156", after := #[], guard := none }) (v := ?_) rfl (by kernel_rfl) (by kernel_rfl) (by kernel_rfl) (fun _ _ _ h => h) (Or.inl ⟨by rfl, ?hy⟩) hHeld ?_
      case hy => (intro w' hSw; (try dsimp only at hSw); go_simp; try with_reducible rfl)
      simp only [Act.put, List.setIfInBounds_toArray, List.set_cons_zero, List.set_cons_succ]
      refine wpAnyH_take (i := 11) (oi := { dst := some 44, op := Op.move (Operand.tmp 9), type := 3, pos := "l04_noise.go:156", after := #[], guard := none }) (v := ?_) rfl (by kernel_rfl) (by kernel_rfl) (by kernel_rfl) (fun _ _ _ h => h) (Or.inl ⟨by rfl, ?hy⟩) hHeld ?_
      case hy => (intro w' hSw; (try dsimp only at hSw); go_simp; try with_reducible rfl)
      simp only [Act.put, List.setIfInBounds_toArray, List.set_cons_zero, List.set_cons_succ]
      refine wpAnyH_take (i := 12) (oi := { dst := some 45, op := Op.indexAddr 22 (Operand.tmp 43) (Operand.tmp 44), type := 0, pos := "l04_noise.go:156", after := #[{ on := 10, ground := Ground.data }, { on := 11, ground := Ground.data }], guard := none }) (v := ?_) rfl (by kernel_rfl) (by kernel_rfl) (by kernel_rfl) (fun _ _ _ h => h) (Or.inl ⟨by rfl, ?hy⟩) hHeld ?_
      case hy => (intro w' hSw; (try dsimp only at hSw); go_simp; try with_reducible rfl)
      simp only [Act.put, List.setIfInBounds_toArray, List.set_cons_zero, List.set_cons_succ]
      refine wpAnyH_take (i := 13) (oi := { dst := some 46, op := Op.load 2 (Operand.tmp 45), type := 2, pos := "l04_noise.go:156", after := #[{ on := 12, ground := Ground.data }], guard := none }) (v := ?_) rfl (by kernel_rfl) (by kernel_rfl) (by kernel_rfl) (fun _ _ _ h => h) (Or.inl ⟨by rfl, ?hy⟩) hHeld ?_
      case hy => (intro w' hSw; (try dsimp only at hSw); go_simp; try with_reducible rfl)
      simp only [Act.put, List.setIfInBounds_toArray, List.set_cons_zero, List.set_cons_succ]
      refine wpAnyH_take (i := 14) (oi := { dst := some 47, op := Op.move (Operand.tmp 6), type := 22, pos := "l04_noise.go:156", after := #[], guard := none }) (v := ?_) rfl (by kernel_rfl) (by kernel_rfl) (by kernel_rfl) (fun _ _ _ h => h) (Or.inl ⟨by rfl, ?hy⟩) hHeld ?_
      case hy => (intro w' hSw; (try dsimp only at hSw); go_simp; try with_reducible rfl)
      simp only [Act.put, List.setIfInBounds_toArray, List.set_cons_zero, List.set_cons_succ]
      refine wpAnyH_take (i := 15) (oi := { dst := some 48, op := Op.move (Operand.tmp 9), type := 3, pos := "l04_noise.go:156", after := #[], guard := none }) (v := ?_) rfl (by kernel_rfl) (by kernel_rfl) (by kernel_rfl) (fun _ _ _ h => h) (Or.inl ⟨by rfl, ?hy⟩) hHeld ?_
      case hy => (intro w' hSw; (try dsimp only at hSw); go_simp; try with_reducible rfl)
      simp only [Act.put, List.setIfInBounds_toArray, List.set_cons_zero, List.set_cons_succ]
      refine wpAnyH_take (i := 16) (oi := { dst := some 49, op := Op.indexAddr 22 (Operand.tmp 47) (Operand.tmp 48), type := 0, pos := "l04_noise.go:156", after := #[{ on := 14, ground := Ground.data }, { on := 15, ground := Ground.data }], guard := none }) (v := ?_) rfl (by kernel_rfl) (by kernel_rfl) (by kernel_rfl) (fun _ _ _ h => h) (Or.inl ⟨by rfl, ?hy⟩) hHeld ?_
      case hy => (intro w' hSw; (try dsimp only at hSw); go_simp; try with_reducible rfl)
      simp only [Act.put, List.setIfInBounds_toArray, List.set_cons_zero, List.set_cons_succ]
      refine wpAnyH_take (i := 17) (oi := { dst := some 50, op := Op.load 2 (Operand.tmp 49), type := 2, pos := "l04_noise.go:156", after := #[{ on := 16, ground := Ground.data }], guard := none }) (v := ?_) rfl (by kernel_rfl) (by kernel_rfl) (by kernel_rfl) (fun _ _ _ h => h) (Or.inl ⟨by rfl, ?hy⟩) hHeld ?_
      case hy => (intro w' hSw; (try dsimp only at hSw); go_simp; try with_reducible rfl)
      simp only [Act.put, List.setIfInBounds_toArray, List.set_cons_zero, List.set_cons_succ]
      refine wpAnyH_take (i := 18) (oi := { dst := some 51, op := Op.binOp BinOp.sub 2 (Operand.tmp 46) (Operand.tmp 50) 2, type := 2, pos := "l04_noise.go:156", after := #[{ on := 13, ground := Ground.data }, { on := 17, ground := Ground.data }], guard := none }) (v := ?_) rfl (by kernel_rfl) (by kernel_rfl) (by kernel_rfl) (fun _ _ _ h => h) (Or.inl ⟨by rfl, ?hy⟩) hHeld ?_
      case hy => (intro w' hSw; (try dsimp only at hSw); go_simp; try with_reducible rfl)
      simp only [Act.put, List.setIfInBounds_toArray, List.set_cons_zero, List.set_cons_succ]
      refine wpAnyH_ready (rs := [19]) (by kernel_rfl) (by simp) ?_
      refine AllReadyH.cons (o := { dst := some 52, op := Op.call { callee := Callee.value (Operand.func 12), args := #[Operand.tmp 42, Operand.tmp 51], argTypes := #[2, 2] }, type := 2, pos := "l04_noise.go:156", after := #[{ on := 9, ground := Ground.data }, { on := 18, ground := Ground.data }], guard := none }) rfl (fun K hK => ?_) AllReadyH.nil
      go_simp
      go_at_call 12; refine (MX.out _ _ _).mono ?_; rintro e_ wk ⟨rfl, rfl⟩
      go_wp2_with fail
      refine hK.out _ _ ⟨hcx, hcy⟩ (fun hHeld => ?_)
      clear hK K
      try simp only [Act.put, List.setIfInBounds_toArray, List.set_cons_zero, List.set_cons_succ]
      refine wpAnyH_ready (rs := [20]) (by kernel_rfl) (by simp) ?_
      refine AllReadyH.cons (o := { dst := some 53, op := Op.call { callee := Callee.value (Operand.func 12), args := #[Operand.tmp 33, Operand.tmp 52], argTypes := #[2, 2] }, type := 2, pos := "l04_noise.go:156", after := #[{ on := 0, ground := Ground.data }, { on := 19, ground := Ground.data }, { on := 19, ground := Ground.chain }], guard := none }) rfl (fun K hK => ?_) AllReadyH.nil
      go_simp
      go_at_call 12; refine (MX.out _ _ _).mono ?_; rintro e_ wk ⟨rfl, rfl⟩
      go_wp2_with fail
      refine hK.out _ _ ⟨hcx, hcy⟩ (fun hHeld => ?_)
      clear hK K
      try simp only [Act.put, List.setIfInBounds_toArray, List.set_cons_zero, List.set_cons_succ]
      refine wpAnyH_take (i := 21) (oi := { dst := some 8, op := Op.assign (Operand.tmp 53), type := 2, pos := "l04_noise.go:156", after := #[{ on := 20, ground := Ground.data }, { on := 20, ground := Ground.chain }, { on := 0, ground := Ground.phase }, { on := 1, ground := Ground.phase }, { on := 2, ground := Ground.phase }, { on := 3, ground := Ground.phase }, { on := 4, ground := Ground.phase }, { on := 5, ground := Ground.phase }, { on := 6, ground := Ground.phase }, { on := 7, ground := Ground.phase }, { on := 8, ground := Ground.phase }, { on := 9, ground := Ground.phase }, { on := 10, ground := Ground.phase }, { on := 11, ground := Ground.phase }, { on := 12, ground := Ground.phase }, { on := 13, ground := Ground.phase }, { on := 14, ground := Ground.phase }, { on := 15, ground := Ground.phase }, { on := 16, ground := Ground.phase }, { on := 17, ground := Ground.phase }, { on := 18, ground := Ground.phase }, { on := 19, ground := Ground.phase }, { on := 20, ground := Ground.phase }], guard := none }) (v := ?_) rfl (by kernel_rfl) (by kernel_rfl) (by kernel_rfl) (fun _ _ _ h => h) (Or.inl ⟨by rfl, ?hy⟩) hHeld ?_
      case hy => (intro w' hSw; (try dsimp only at hSw); go_simp; try with_reducible rfl)
      simp only [Act.put, List.setIfInBounds_toArray, List.set_cons_zero, List.set_cons_succ]
      refine wpAnyH_done (by kernel_rfl) ?_ _
      go_wp2
      go_roundw
      case rel => exact ⟨k + 1, by omega, by go_num, by rw [HS.out], HK.out.drew⟩
      case measure => simp [intOf]; omega
    · obtain rfl : k = xs0.length := by omega
      have e1 : ¬ ((xs0.length : Int) < (xs0.length : Int)) := by omega
      go_wp2
      go_ret2
      exact ⟨rfl, FB4.out.trans (hb.mono FB4.out.size)⟩
end Go.Proofs.Ytlpmoiicindiiaa
