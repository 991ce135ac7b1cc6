/- impl.StepClock -/
import Derived.Test.YtidedgcmpkahgaaStepRun
import Derived.Laws.StructEq
namespace Go.Proofs.Ytidedgcmpkahgaa
open Go.RowKit
set_option linter.unusedVariables false
set_option linter.unusedSimpArgs false
set_option maxRecDepth 20000
def lckOk (l h P o : Int) : Bool := inB (l * 64) (h * 64) P && inB (-P) P o
theorem lckOk_iff {l h P o : Int} : lckOk l h P o = true ↔ (l * 64 ≤ P ∧ P ≤ h * 64) ∧ (-P ≤ o ∧ o ≤ P) := by
  unfold lckOk
  simp only [Bool.and_eq_true, inB_iff]
def sclkOk (c l h p s P o gap : Int) : Bool := clockOk c l h p s && (lckOk l h P o && inB 1 2000000 gap)
def scGood (c l h p s P o gap : Int) : Bool := sclkOk c l h p s P o gap && decide (stN P o gap ≤ 100)
def scC (c l h p s P o gap : Int) : Int := if sclkOk c l h p s P o gap = true then (if stN P o gap ≤ 100 then 0 else 10) else 1
def scN (c l h p s P o gap : Int) : Int := if scGood c l h p s P o gap = true then stN P o gap else 0
def scP (c l h p s P o gap : Int) : Int := if scGood c l h p s P o gap = true then stPer l h s P o gap else 0
def scO (c l h p s P o gap : Int) : Int := if scGood c l h p s P o gap = true then stOff l h p s P o gap else 0
theorem sc_bad {c l h p s P o gap : Int} (hf : sclkOk c l h p s P o gap = false) : scC c l h p s P o gap = 1 ∧ scN c l h p s P o gap = 0 ∧ scP c l h p s P o gap = 0 ∧ scO c l h p s P o gap = 0 := by
  simp [scC, scN, scP, scO, scGood, hf]
theorem sc_long {c l h p s P o gap : Int} (hf : sclkOk c l h p s P o gap = true) (hn : ¬ stN P o gap ≤ 100) : scC c l h p s P o gap = 10 ∧ scN c l h p s P o gap = 0 ∧ scP c l h p s P o gap = 0 ∧ scO c l h p s P o gap = 0 := by
  simp [scC, scN, scP, scO, scGood, hf, hn]
theorem sc_good {c l h p s P o gap : Int} (hf : sclkOk c l h p s P o gap = true) (hn : stN P o gap ≤ 100) : scC c l h p s P o gap = 0 ∧ scN c l h p s P o gap = stN P o gap ∧ scP c l h p s P o gap = stPer l h s P o gap ∧ scO c l h p s P o gap = stOff l h p s P o gap := by
  simp [scC, scN, scP, scO, scGood, hf, hn]
theorem heldLocked : Try.prog.stoodInHeld 45 = false := by kernel_rfl
theorem neqLocked (a b a' b' : Int) (q : Bool) (hq : q = true ↔ a = a' ∧ b = b') (w : World) : (binOp .neq 45 (.agg #[.int .i64 a, .int .i64 b]) (.agg #[.int .i64 a', .int .i64 b'])).run Try.prog w = .ok (.bool (!q)) w := by
  rw [run_neq_struct]
  have e := run_equalIn_struct (P := Try.prog) w 9999 45 #[.int .i64 a, .int .i64 b] #[.int .i64 a', .int .i64 b'] (by kernel_rfl) heldLocked
  rw [e]
  simp only [Program.fieldsOf, Try.underlying45]
  simp [Op.eqFields, go_sem, Try.underlying2]
  by_cases h0 : a = a'
  case neg =>
    have : q = false := by cases q with | false => rfl | true => exact absurd (hq.1 rfl).1 h0
    simp [h0, this]
  by_cases h1 : b = b'
  case neg =>
    have : q = false := by cases q with | false => rfl | true => exact absurd (hq.1 rfl).2 h1
    simp [h0, h1, this]
  have : q = true := hq.2 ⟨h0, h1⟩
  simp [h0, h1, this]
def StepRes (n p o code : Int) (w : World) (e : Ending) (w' : World) : Prop := e = .returned (.tuple #[.int .i64 n, .agg #[.int .i64 p, .int .i64 o], .int .i64 code]) ∧ Below w.heap.size w w'
set_option maxHeartbeats 8000000 in
theorem stepClock_any (c l h p s P o gap : Int) (w : World) :
    Calls Try.prog 22 #[.agg #[.int .i64 c, .int .i64 l, .int .i64 h, .int .i64 p, .int .i64 s], .agg #[.int .i64 P, .int .i64 o], .int .i64 gap] w (StepRes (scN c l h p s P o gap) (scP c l h p s P o gap) (scO c l h p s P o gap) (scC c l h p s P o gap) w) := by
  have vc := fun w => validClock_any c l h p s w
  cases hv : clockOk c l h p s with
  | false =>
    have EB := Lib.hid (sc_bad (c := c) (l := l) (h := h) (p := p) (s := s) (P := P) (o := o) (gap := gap) (by unfold sclkOk; rw [hv]; rfl))
    rw [hv] at vc
    have VC := Lib.hid vc
    clear vc hv
    go_enter Try.func22, Try.ntmps22
    go_upto_region 1 with (fail)
    have bC : BoxF (((w.alloc (.cells #[.int .i64 c, .int .i64 l, .int .i64 h, .int .i64 p, .int .i64 s] 48)).alloc (.cells #[.int .i64 P, .int .i64 o] 45)).alloc (.cells #[.int .i64 0, .int .i64 0] 45)) w.heap.size #[.int .i64 c, .int .i64 l, .int .i64 h, .int .i64 p, .int .i64 s] := boxF5 (by simp [go_sem]) (by simp [go_sem]) (by simp [go_sem]) (by simp [go_sem]) (by simp [go_sem])
    have bL : BoxF (((w.alloc (.cells #[.int .i64 c, .int .i64 l, .int .i64 h, .int .i64 p, .int .i64 s] 48)).alloc (.cells #[.int .i64 P, .int .i64 o] 45)).alloc (.cells #[.int .i64 0, .int .i64 0] 45)) (w.heap.size + 1) #[.int .i64 P, .int .i64 o] := boxF2 (by simp [go_sem]) (by simp [go_sem])
    have bR : BoxF (((w.alloc (.cells #[.int .i64 c, .int .i64 l, .int .i64 h, .int .i64 p, .int .i64 s] 48)).alloc (.cells #[.int .i64 P, .int .i64 o] 45)).alloc (.cells #[.int .i64 0, .int .i64 0] 45)) (w.heap.size + 1 + 1) #[.int .i64 0, .int .i64 0] := boxF2 (by simp [go_sem]) (by simp [go_sem])
    have FB := Lib.hid (show Below w.heap.size w (((w.alloc (.cells #[.int .i64 c, .int .i64 l, .int .i64 h, .int .i64 p, .int .i64 s] 48)).alloc (.cells #[.int .i64 P, .int .i64 o] 45)).alloc (.cells #[.int .i64 0, .int .i64 0] 45)) by go_grown)
    have hlt2 : w.heap.size + 1 + 1 < (((w.alloc (.cells #[.int .i64 c, .int .i64 l, .int .i64 h, .int .i64 p, .int .i64 s] 48)).alloc (.cells #[.int .i64 P, .int .i64 o] 45)).alloc (.cells #[.int .i64 0, .int .i64 0] 45)).heap.size := by simp
    generalize (((w.alloc (.cells #[.int .i64 c, .int .i64 l, .int .i64 h, .int .i64 p, .int .i64 s] 48)).alloc (.cells #[.int .i64 P, .int .i64 o] 45)).alloc (.cells #[.int .i64 0, .int .i64 0] 45)) = W at *
    have hlt1 : w.heap.size + 1 < W.heap.size := by omega
    have hlt0 : w.heap.size < W.heap.size := by omega
    have BC := Lib.hid (fun w' (hb : Below W.heap.size W w') => (bC.below hb hlt0).box)
    have BL := Lib.hid (fun w' (hb : Below W.heap.size W w') => (bL.below hb hlt1).box)
    have BR := Lib.hid (fun w' (hb : Below W.heap.size W w') => bR.below hb hlt2)
    have KS := Lib.hid (fun w' (hb : Below W.heap.size W w') => (show w'.cell? ⟨w.heap.size, 0, none⟩ = some (.int .i64 c) ∧ w'.cell? ⟨w.heap.size, 1, none⟩ = some (.int .i64 l) ∧ w'.cell? ⟨w.heap.size, 2, none⟩ = some (.int .i64 h) ∧ w'.cell? ⟨w.heap.size, 3, none⟩ = some (.int .i64 p) ∧ w'.cell? ⟨w.heap.size, 4, none⟩ = some (.int .i64 s) ∧ w'.cell? ⟨w.heap.size + 1, 0, none⟩ = some (.int .i64 P) ∧ w'.cell? ⟨w.heap.size + 1, 1, none⟩ = some (.int .i64 o) from ⟨BC.out w' hb 0 _ rfl, BC.out w' hb 1 _ rfl, BC.out w' hb 2 _ rfl, BC.out w' hb 3 _ rfl, BC.out w' hb 4 _ rfl, BL.out w' hb 0 _ rfl, BL.out w' hb 1 _ rfl⟩))
    have HC := Lib.hid (show Below W.heap.size W W.drew from (Below.refl _ _).drew)
    clear bC bL bR
    refine wp_region_held_drew (S := (fun w' => w'.cell? ⟨w.heap.size, 0, none⟩ = some (.int .i64 c) ∧ w'.cell? ⟨w.heap.size, 1, none⟩ = some (.int .i64 l) ∧ w'.cell? ⟨w.heap.size, 2, none⟩ = some (.int .i64 h) ∧ w'.cell? ⟨w.heap.size, 3, none⟩ = some (.int .i64 p) ∧ w'.cell? ⟨w.heap.size, 4, none⟩ = some (.int .i64 s) ∧ w'.cell? ⟨w.heap.size + 1, 0, none⟩ = some (.int .i64 P) ∧ w'.cell? ⟨w.heap.size + 1, 1, none⟩ = some (.int .i64 o))) (by kernel_rfl) (KS.out _ HC.out) (fun hHeld => ?_)
    refine wpAnyH_take (i := 0) (oi := { dst := some 11, op := Op.load 48 (Operand.tmp 3), type := 48, pos := "l03_clock.go:135", after := #[], guard := none }) (v := ?_) rfl (by kernel_rfl) (by kernel_rfl) (by kernel_rfl) (fun _ _ _ h => h) (Or.inl ⟨by rfl, ?hy⟩) hHeld ?_
    case hy => (intro w' hSw; (try dsimp only at hSw); go_simp; try with_reducible rfl)
    simp only [Act.put, List.setIfInBounds_toArray, List.set_cons_zero, List.set_cons_succ]
    refine wpAnyH_ready (rs := [1]) (by kernel_rfl) (by simp) ?_
    refine AllReadyH.cons (o := { dst := some 12, op := Op.call { callee := Callee.value (Operand.func 48), args := #[Operand.tmp 11], argTypes := #[48] }, type := 4, pos := "l03_clock.go:135", after := #[{ on := 0, ground := Ground.data }], guard := none }) rfl (fun K hK => ?_) AllReadyH.nil
    go_simp
    go_at_call 48; refine (VC.out _).mono ?_; rintro e w2 ⟨rfl, hb2⟩; replace HC := Lib.hid (HC.out.trans (hb2.mono HC.out.size))
    go_wp2_with fail
    refine hK.out _ _ (KS.out _ HC.out) (fun hHeld => ?_)
    clear hK K
    try simp only [Act.put, List.setIfInBounds_toArray, List.set_cons_zero, List.set_cons_succ]
    refine wpAnyH_take (i := 2) (oi := { dst := some 13, op := Op.unOp UnOp.not 4 (Operand.tmp 12), type := 4, pos := "l03_clock.go:135", after := #[{ on := 1, ground := Ground.data }], guard := none }) (v := ?_) rfl (by kernel_rfl) (by kernel_rfl) (by kernel_rfl) (fun _ _ _ h => h) (Or.inl ⟨by rfl, ?hy⟩) hHeld ?_
    case hy => (intro w' hSw; (try dsimp only at hSw); go_simp; try with_reducible rfl)
    simp only [Act.put, List.setIfInBounds_toArray, List.set_cons_zero, List.set_cons_succ]
    refine wpAnyH_take (i := 3) (oi := { dst := some 14, op := Op.move (Operand.tmp 13), type := 4, pos := "l03_clock.go:135", after := #[{ on := 2, ground := Ground.data }, { on := 1, ground := Ground.chain }], guard := none }) (v := ?_) rfl (by kernel_rfl) (by kernel_rfl) (by kernel_rfl) (fun _ _ _ h => h) (Or.inl ⟨by rfl, ?hy⟩) hHeld ?_
    case hy => (intro w' hSw; (try dsimp only at hSw); go_simp; try with_reducible rfl)
    simp only [Act.put, List.setIfInBounds_toArray, List.set_cons_zero, List.set_cons_succ]
    refine wpAnyH_take (i := 4) (oi := { dst := some 15, op := Op.load 45 (Operand.tmp 4), type := 45, pos := "l03_clock.go:135", after := #[{ on := 3, ground := Ground.guard }], guard := some (3, false) }) (v := undef) rfl (by kernel_rfl) (by kernel_rfl) (by kernel_rfl) (fun _ _ _ h => h) (Or.inr ⟨by rfl, rfl⟩) hHeld ?_
    simp only [Act.put, List.setIfInBounds_toArray, List.set_cons_zero, List.set_cons_succ]
    refine wpAnyH_take (i := 5) (oi := { dst := some 16, op := Op.load 48 (Operand.tmp 3), type := 48, pos := "l03_clock.go:135", after := #[{ on := 3, ground := Ground.guard }], guard := some (3, false) }) (v := undef) rfl (by kernel_rfl) (by kernel_rfl) (by kernel_rfl) (fun _ _ _ h => h) (Or.inr ⟨by rfl, rfl⟩) hHeld ?_
    simp only [Act.put, List.setIfInBounds_toArray, List.set_cons_zero, List.set_cons_succ]
    refine wpAnyH_take (i := 6) (oi := { dst := some 17, op := Op.load 45 (Operand.tmp 4), type := 45, pos := "l03_clock.go:135", after := #[{ on := 3, ground := Ground.guard }], guard := some (3, false) }) (v := undef) rfl (by kernel_rfl) (by kernel_rfl) (by kernel_rfl) (fun _ _ _ h => h) (Or.inr ⟨by rfl, rfl⟩) hHeld ?_
    simp only [Act.put, List.setIfInBounds_toArray, List.set_cons_zero, List.set_cons_succ]
    refine wpAnyH_take (i := 7) (oi := { dst := some 18, op := Op.call { callee := Callee.value (Operand.func 49), args := #[Operand.tmp 16, Operand.tmp 17], argTypes := #[48, 45] }, type := 45, pos := "l03_clock.go:135", after := #[{ on := 5, ground := Ground.data }, { on := 6, ground := Ground.data }, { on := 3, ground := Ground.chain }, { on := 3, ground := Ground.guard }], guard := some (3, false) }) (v := undef) rfl (by kernel_rfl) (by kernel_rfl) (by kernel_rfl) (fun _ _ _ h => h) (Or.inr ⟨by rfl, rfl⟩) hHeld ?_
    simp only [Act.put, List.setIfInBounds_toArray, List.set_cons_zero, List.set_cons_succ]
    refine wpAnyH_take (i := 8) (oi := { dst := some 19, op := Op.binOp BinOp.neq 45 (Operand.tmp 15) (Operand.tmp 18) 45, type := 4, pos := "l03_clock.go:135", after := #[{ on := 4, ground := Ground.data }, { on := 7, ground := Ground.data }, { on := 3, ground := Ground.guard }], guard := some (3, false) }) (v := undef) rfl (by kernel_rfl) (by kernel_rfl) (by kernel_rfl) (fun _ _ _ h => h) (Or.inr ⟨by rfl, rfl⟩) hHeld ?_
    simp only [Act.put, List.setIfInBounds_toArray, List.set_cons_zero, List.set_cons_succ]
    refine wpAnyH_take (i := 9) (oi := { dst := some 20, op := Op.pick (Operand.tmp 14) (Operand.const (Value.bool true)) (Operand.tmp 19), type := 4, pos := "l03_clock.go:135", after := #[{ on := 3, ground := Ground.data }, { on := 8, ground := Ground.data }], guard := none }) (v := ?_) rfl (by kernel_rfl) (by kernel_rfl) (by kernel_rfl) (fun _ _ _ h => h) (Or.inl ⟨by rfl, ?hy⟩) hHeld ?_
    case hy => (intro w' hSw; (try dsimp only at hSw); go_simp; try with_reducible rfl)
    simp only [Act.put, List.setIfInBounds_toArray, List.set_cons_zero, List.set_cons_succ]
    refine wpAnyH_take (i := 10) (oi := { dst := some 21, op := Op.move (Operand.tmp 20), type := 4, pos := "l03_clock.go:135", after := #[{ on := 9, ground := Ground.data }, { on := 7, ground := Ground.chain }], guard := none }) (v := ?_) rfl (by kernel_rfl) (by kernel_rfl) (by kernel_rfl) (fun _ _ _ h => h) (Or.inl ⟨by rfl, ?hy⟩) hHeld ?_
    case hy => (intro w' hSw; (try dsimp only at hSw); go_simp; try with_reducible rfl)
    simp only [Act.put, List.setIfInBounds_toArray, List.set_cons_zero, List.set_cons_succ]
    refine wpAnyH_take (i := 11) (oi := { dst := some 22, op := Op.move (Operand.tmp 2), type := 2, pos := "l03_clock.go:135", after := #[{ on := 10, ground := Ground.guard }], guard := some (10, false) }) (v := undef) rfl (by kernel_rfl) (by kernel_rfl) (by kernel_rfl) (fun _ _ _ h => h) (Or.inr ⟨by rfl, rfl⟩) hHeld ?_
    simp only [Act.put, List.setIfInBounds_toArray, List.set_cons_zero, List.set_cons_succ]
    refine wpAnyH_take (i := 12) (oi := { dst := some 23, op := Op.buildSlice 30 1 #[(0, Operand.tmp 22)], type := 30, pos := "l03_clock.go:135", after := #[{ on := 11, ground := Ground.data }, { on := 10, ground := Ground.guard }], guard := some (10, false) }) (v := undef) rfl (by kernel_rfl) (by kernel_rfl) (by kernel_rfl) (fun _ _ _ h => h) (Or.inr ⟨by rfl, rfl⟩) hHeld ?_
    simp only [Act.put, List.setIfInBounds_toArray, List.set_cons_zero, List.set_cons_succ]
    refine wpAnyH_take (i := 13) (oi := { dst := some 24, op := Op.call { callee := Callee.value (Operand.func 41), args := #[Operand.const (Value.int IntKind.i64 1), Operand.const (Value.int IntKind.i64 2000000), Operand.tmp 23], argTypes := #[2, 2, 30] }, type := 4, pos := "l03_clock.go:135", after := #[{ on := 12, ground := Ground.data }, { on := 10, ground := Ground.chain }, { on := 10, ground := Ground.guard }], guard := some (10, false) }) (v := undef) rfl (by kernel_rfl) (by kernel_rfl) (by kernel_rfl) (fun _ _ _ h => h) (Or.inr ⟨by rfl, rfl⟩) hHeld ?_
    simp only [Act.put, List.setIfInBounds_toArray, List.set_cons_zero, List.set_cons_succ]
    refine wpAnyH_take (i := 14) (oi := { dst := some 25, op := Op.unOp UnOp.not 4 (Operand.tmp 24), type := 4, pos := "l03_clock.go:135", after := #[{ on := 13, ground := Ground.data }, { on := 10, ground := Ground.guard }], guard := some (10, false) }) (v := undef) rfl (by kernel_rfl) (by kernel_rfl) (by kernel_rfl) (fun _ _ _ h => h) (Or.inr ⟨by rfl, rfl⟩) hHeld ?_
    simp only [Act.put, List.setIfInBounds_toArray, List.set_cons_zero, List.set_cons_succ]
    refine wpAnyH_take (i := 15) (oi := { dst := some 26, op := Op.pick (Operand.tmp 21) (Operand.const (Value.bool true)) (Operand.tmp 25), type := 4, pos := "l03_clock.go:135", after := #[{ on := 10, ground := Ground.data }, { on := 14, ground := Ground.data }], guard := none }) (v := ?_) rfl (by kernel_rfl) (by kernel_rfl) (by kernel_rfl) (fun _ _ _ h => h) (Or.inl ⟨by rfl, ?hy⟩) hHeld ?_
    case hy => (intro w' hSw; (try dsimp only at hSw); go_simp; try with_reducible rfl)
    simp only [Act.put, List.setIfInBounds_toArray, List.set_cons_zero, List.set_cons_succ]
    refine wpAnyH_done (by kernel_rfl) ?_ _
    obtain ⟨xR0, yR0⟩ := BR.out _ HC.out 0 _ rfl
    obtain ⟨xR1, yR1⟩ := BR.out _ HC.out 1 _ rfl
    have FZ := Lib.hid (FB.out.trans (HC.out.mono (by omega)))
    have hzR := Nat.lt_of_lt_of_le hlt2 HC.out.size
    go_wp2
    refine bodyPost_ret (v := .tuple #[.int .i64 0, .agg #[.int .i64 0, .int .i64 0], .int .i64 1]) (by simp [results, Try.results22, go_sem, xR0, yR0, xR1, yR1]) rfl ?_
    obtain ⟨q1, q2, q3, q4⟩ := EB.out
    rw [q1, q2, q3, q4]
    exact ⟨rfl, (FZ.out.setCell (by simp <;> omega) _).setCell (by simp <;> omega) _⟩
  | true =>
  rw [hv] at vc
  have VC := Lib.hid vc
  obtain ⟨k1, k2, k3, k4, k5⟩ := clockOk_iff.1 hv
  have bd := fun w => bounded_any c l h p s P o w (by omega) (by omega) (by omega) (by omega)
  clear vc
  cases hq : lckOk l h P o with
  | false =>
    have EB := Lib.hid (sc_bad (c := c) (l := l) (h := h) (p := p) (s := s) (P := P) (o := o) (gap := gap) (by unfold sclkOk; rw [hq]; simp))
    have BD := Lib.hid bd
    have hne := fun w => neqLocked P o (clampI P (l * 64) (h * 64)) (clampI o (-(clampI P (l * 64) (h * 64))) (clampI P (l * 64) (h * 64))) false (by
      constructor
      · intro h; cases h
      · rintro ⟨h1, h2⟩
        exfalso
        have h3 := (clampI_eq (n := P) (show l * 64 ≤ h * 64 by omega)).1 h1.symm
        rw [← h1] at h2
        have h4 := (clampI_eq (n := o) (show -P ≤ P by omega)).1 h2.symm
        have h5 : lckOk l h P o = true := lckOk_iff.2 ⟨h3, h4⟩
        rw [hq] at h5; cases h5) w
    simp only [Bool.not_false] at hne
    generalize clampI o (-(clampI P (l * 64) (h * 64))) (clampI P (l * 64) (h * 64)) = B2 at *
    generalize clampI P (l * 64) (h * 64) = B1 at *
    clear bd hv hq k1 k2 k3 k4 k5
    go_enter Try.func22, Try.ntmps22
    go_upto_region 1 with (fail)
    have bC : BoxF (((w.alloc (.cells #[.int .i64 c, .int .i64 l, .int .i64 h, .int .i64 p, .int .i64 s] 48)).alloc (.cells #[.int .i64 P, .int .i64 o] 45)).alloc (.cells #[.int .i64 0, .int .i64 0] 45)) w.heap.size #[.int .i64 c, .int .i64 l, .int .i64 h, .int .i64 p, .int .i64 s] := boxF5 (by simp [go_sem]) (by simp [go_sem]) (by simp [go_sem]) (by simp [go_sem]) (by simp [go_sem])
    have bL : BoxF (((w.alloc (.cells #[.int .i64 c, .int .i64 l, .int .i64 h, .int .i64 p, .int .i64 s] 48)).alloc (.cells #[.int .i64 P, .int .i64 o] 45)).alloc (.cells #[.int .i64 0, .int .i64 0] 45)) (w.heap.size + 1) #[.int .i64 P, .int .i64 o] := boxF2 (by simp [go_sem]) (by simp [go_sem])
    have bR : BoxF (((w.alloc (.cells #[.int .i64 c, .int .i64 l, .int .i64 h, .int .i64 p, .int .i64 s] 48)).alloc (.cells #[.int .i64 P, .int .i64 o] 45)).alloc (.cells #[.int .i64 0, .int .i64 0] 45)) (w.heap.size + 1 + 1) #[.int .i64 0, .int .i64 0] := boxF2 (by simp [go_sem]) (by simp [go_sem])
    have FB := Lib.hid (show Below w.heap.size w (((w.alloc (.cells #[.int .i64 c, .int .i64 l, .int .i64 h, .int .i64 p, .int .i64 s] 48)).alloc (.cells #[.int .i64 P, .int .i64 o] 45)).alloc (.cells #[.int .i64 0, .int .i64 0] 45)) by go_grown)
    have hlt2 : w.heap.size + 1 + 1 < (((w.alloc (.cells #[.int .i64 c, .int .i64 l, .int .i64 h, .int .i64 p, .int .i64 s] 48)).alloc (.cells #[.int .i64 P, .int .i64 o] 45)).alloc (.cells #[.int .i64 0, .int .i64 0] 45)).heap.size := by simp
    generalize (((w.alloc (.cells #[.int .i64 c, .int .i64 l, .int .i64 h, .int .i64 p, .int .i64 s] 48)).alloc (.cells #[.int .i64 P, .int .i64 o] 45)).alloc (.cells #[.int .i64 0, .int .i64 0] 45)) = W at *
    have hlt1 : w.heap.size + 1 < W.heap.size := by omega
    have hlt0 : w.heap.size < W.heap.size := by omega
    have BC := Lib.hid (fun w' (hb : Below W.heap.size W w') => (bC.below hb hlt0).box)
    have BL := Lib.hid (fun w' (hb : Below W.heap.size W w') => (bL.below hb hlt1).box)
    have BR := Lib.hid (fun w' (hb : Below W.heap.size W w') => bR.below hb hlt2)
    have KS := Lib.hid (fun w' (hb : Below W.heap.size W w') => (show w'.cell? ⟨w.heap.size, 0, none⟩ = some (.int .i64 c) ∧ w'.cell? ⟨w.heap.size, 1, none⟩ = some (.int .i64 l) ∧ w'.cell? ⟨w.heap.size, 2, none⟩ = some (.int .i64 h) ∧ w'.cell? ⟨w.heap.size, 3, none⟩ = some (.int .i64 p) ∧ w'.cell? ⟨w.heap.size, 4, none⟩ = some (.int .i64 s) ∧ w'.cell? ⟨w.heap.size + 1, 0, none⟩ = some (.int .i64 P) ∧ w'.cell? ⟨w.heap.size + 1, 1, none⟩ = some (.int .i64 o) from ⟨BC.out w' hb 0 _ rfl, BC.out w' hb 1 _ rfl, BC.out w' hb 2 _ rfl, BC.out w' hb 3 _ rfl, BC.out w' hb 4 _ rfl, BL.out w' hb 0 _ rfl, BL.out w' hb 1 _ rfl⟩))
    have HC := Lib.hid (show Below W.heap.size W W.drew from (Below.refl _ _).drew)
    clear bC bL bR
    refine wp_region_held_drew (S := (fun w' => w'.cell? ⟨w.heap.size, 0, none⟩ = some (.int .i64 c) ∧ w'.cell? ⟨w.heap.size, 1, none⟩ = some (.int .i64 l) ∧ w'.cell? ⟨w.heap.size, 2, none⟩ = some (.int .i64 h) ∧ w'.cell? ⟨w.heap.size, 3, none⟩ = some (.int .i64 p) ∧ w'.cell? ⟨w.heap.size, 4, none⟩ = some (.int .i64 s) ∧ w'.cell? ⟨w.heap.size + 1, 0, none⟩ = some (.int .i64 P) ∧ w'.cell? ⟨w.heap.size + 1, 1, none⟩ = some (.int .i64 o))) (by kernel_rfl) (KS.out _ HC.out) (fun hHeld => ?_)
    refine wpAnyH_take (i := 0) (oi := { dst := some 11, op := Op.load 48 (Operand.tmp 3), type := 48, pos := "l03_clock.go:135", after := #[], guard := none }) (v := ?_) rfl (by kernel_rfl) (by kernel_rfl) (by kernel_rfl) (fun _ _ _ h => h) (Or.inl ⟨by rfl, ?hy⟩) hHeld ?_
    case hy => (intro w' hSw; (try dsimp only at hSw); go_simp; try with_reducible rfl)
    simp only [Act.put, List.setIfInBounds_toArray, List.set_cons_zero, List.set_cons_succ]
    refine wpAnyH_ready (rs := [1]) (by kernel_rfl) (by simp) ?_
    refine AllReadyH.cons (o := { dst := some 12, op := Op.call { callee := Callee.value (Operand.func 48), args := #[Operand.tmp 11], argTypes := #[48] }, type := 4, pos := "l03_clock.go:135", after := #[{ on := 0, ground := Ground.data }], guard := none }) rfl (fun K hK => ?_) AllReadyH.nil
    go_simp
    go_at_call 48; refine (VC.out _).mono ?_; rintro e w2 ⟨rfl, hb2⟩; replace HC := Lib.hid (HC.out.trans (hb2.mono HC.out.size))
    go_wp2_with fail
    refine hK.out _ _ (KS.out _ HC.out) (fun hHeld => ?_)
    clear hK K
    try simp only [Act.put, List.setIfInBounds_toArray, List.set_cons_zero, List.set_cons_succ]
    refine wpAnyH_take (i := 2) (oi := { dst := some 13, op := Op.unOp UnOp.not 4 (Operand.tmp 12), type := 4, pos := "l03_clock.go:135", after := #[{ on := 1, ground := Ground.data }], guard := none }) (v := ?_) rfl (by kernel_rfl) (by kernel_rfl) (by kernel_rfl) (fun _ _ _ h => h) (Or.inl ⟨by rfl, ?hy⟩) hHeld ?_
    case hy => (intro w' hSw; (try dsimp only at hSw); go_simp; try with_reducible rfl)
    simp only [Act.put, List.setIfInBounds_toArray, List.set_cons_zero, List.set_cons_succ]
    refine wpAnyH_take (i := 3) (oi := { dst := some 14, op := Op.move (Operand.tmp 13), type := 4, pos := "l03_clock.go:135", after := #[{ on := 2, ground := Ground.data }, { on := 1, ground := Ground.chain }], guard := none }) (v := ?_) rfl (by kernel_rfl) (by kernel_rfl) (by kernel_rfl) (fun _ _ _ h => h) (Or.inl ⟨by rfl, ?hy⟩) hHeld ?_
    case hy => (intro w' hSw; (try dsimp only at hSw); go_simp; try with_reducible rfl)
    simp only [Act.put, List.setIfInBounds_toArray, List.set_cons_zero, List.set_cons_succ]
    refine wpAnyH_take (i := 4) (oi := { dst := some 15, op := Op.load 45 (Operand.tmp 4), type := 45, pos := "l03_clock.go:135", after := #[{ on := 3, ground := Ground.guard }], guard := some (3, false) }) (v := ?_) rfl (by kernel_rfl) (by kernel_rfl) (by kernel_rfl) (fun _ _ _ h => h) (Or.inl ⟨by rfl, ?hy⟩) hHeld ?_
    case hy => (intro w' hSw; (try dsimp only at hSw); go_simp; try with_reducible rfl)
    simp only [Act.put, List.setIfInBounds_toArray, List.set_cons_zero, List.set_cons_succ]
    refine wpAnyH_take (i := 5) (oi := { dst := some 16, op := Op.load 48 (Operand.tmp 3), type := 48, pos := "l03_clock.go:135", after := #[{ on := 3, ground := Ground.guard }], guard := some (3, false) }) (v := ?_) rfl (by kernel_rfl) (by kernel_rfl) (by kernel_rfl) (fun _ _ _ h => h) (Or.inl ⟨by rfl, ?hy⟩) hHeld ?_
    case hy => (intro w' hSw; (try dsimp only at hSw); go_simp; try with_reducible rfl)
    simp only [Act.put, List.setIfInBounds_toArray, List.set_cons_zero, List.set_cons_succ]
    refine wpAnyH_take (i := 6) (oi := { dst := some 17, op := Op.load 45 (Operand.tmp 4), type := 45, pos := "l03_clock.go:135", after := #[{ on := 3, ground := Ground.guard }], guard := some (3, false) }) (v := ?_) rfl (by kernel_rfl) (by kernel_rfl) (by kernel_rfl) (fun _ _ _ h => h) (Or.inl ⟨by rfl, ?hy⟩) hHeld ?_
    case hy => (intro w' hSw; (try dsimp only at hSw); go_simp; try with_reducible rfl)
    simp only [Act.put, List.setIfInBounds_toArray, List.set_cons_zero, List.set_cons_succ]
    refine wpAnyH_ready (rs := [7]) (by kernel_rfl) (by simp) ?_
    refine AllReadyH.cons (o := { dst := some 18, op := Op.call { callee := Callee.value (Operand.func 49), args := #[Operand.tmp 16, Operand.tmp 17], argTypes := #[48, 45] }, type := 45, pos := "l03_clock.go:135", after := #[{ on := 5, ground := Ground.data }, { on := 6, ground := Ground.data }, { on := 3, ground := Ground.chain }, { on := 3, ground := Ground.guard }], guard := some (3, false) }) rfl (fun K hK => ?_) AllReadyH.nil
    go_simp
    go_at_call 49; refine (BD.out _).mono ?_; rintro e w3 ⟨rfl, hb3⟩; replace HC := Lib.hid (HC.out.trans (hb3.mono HC.out.size))
    go_wp2_with fail
    refine hK.out _ _ (KS.out _ HC.out) (fun hHeld => ?_)
    clear hK K
    try simp only [Act.put, List.setIfInBounds_toArray, List.set_cons_zero, List.set_cons_succ]
    refine wpAnyH_take (i := 8) (oi := { dst := some 19, op := Op.binOp BinOp.neq 45 (Operand.tmp 15) (Operand.tmp 18) 45, type := 4, pos := "l03_clock.go:135", after := #[{ on := 4, ground := Ground.data }, { on := 7, ground := Ground.data }, { on := 3, ground := Ground.guard }], guard := some (3, false) }) (v := ?_) rfl (by kernel_rfl) (by kernel_rfl) (by kernel_rfl) (fun _ _ _ h => h) (Or.inl ⟨by rfl, ?hy⟩) hHeld ?_
    case hy => (intro w' hSw; (try dsimp only at hSw); go_simp; try with_reducible rfl)
    simp only [Act.put, List.setIfInBounds_toArray, List.set_cons_zero, List.set_cons_succ]
    refine wpAnyH_take (i := 9) (oi := { dst := some 20, op := Op.pick (Operand.tmp 14) (Operand.const (Value.bool true)) (Operand.tmp 19), type := 4, pos := "l03_clock.go:135", after := #[{ on := 3, ground := Ground.data }, { on := 8, ground := Ground.data }], guard := none }) (v := ?_) rfl (by kernel_rfl) (by kernel_rfl) (by kernel_rfl) (fun _ _ _ h => h) (Or.inl ⟨by rfl, ?hy⟩) hHeld ?_
    case hy => (intro w' hSw; (try dsimp only at hSw); go_simp; try with_reducible rfl)
    simp only [Act.put, List.setIfInBounds_toArray, List.set_cons_zero, List.set_cons_succ]
    refine wpAnyH_take (i := 10) (oi := { dst := some 21, op := Op.move (Operand.tmp 20), type := 4, pos := "l03_clock.go:135", after := #[{ on := 9, ground := Ground.data }, { on := 7, ground := Ground.chain }], guard := none }) (v := ?_) rfl (by kernel_rfl) (by kernel_rfl) (by kernel_rfl) (fun _ _ _ h => h) (Or.inl ⟨by rfl, ?hy⟩) hHeld ?_
    case hy => (intro w' hSw; (try dsimp only at hSw); go_simp; try with_reducible rfl)
    simp only [Act.put, List.setIfInBounds_toArray, List.set_cons_zero, List.set_cons_succ]
    refine wpAnyH_take (i := 11) (oi := { dst := some 22, op := Op.move (Operand.tmp 2), type := 2, pos := "l03_clock.go:135", after := #[{ on := 10, ground := Ground.guard }], guard := some (10, false) }) (v := undef) rfl (by kernel_rfl) (by kernel_rfl) (by kernel_rfl) (fun _ _ _ h => h) (Or.inr ⟨by rfl, rfl⟩) hHeld ?_
    simp only [Act.put, List.setIfInBounds_toArray, List.set_cons_zero, List.set_cons_succ]
    refine wpAnyH_take (i := 12) (oi := { dst := some 23, op := Op.buildSlice 30 1 #[(0, Operand.tmp 22)], type := 30, pos := "l03_clock.go:135", after := #[{ on := 11, ground := Ground.data }, { on := 10, ground := Ground.guard }], guard := some (10, false) }) (v := undef) rfl (by kernel_rfl) (by kernel_rfl) (by kernel_rfl) (fun _ _ _ h => h) (Or.inr ⟨by rfl, rfl⟩) hHeld ?_
    simp only [Act.put, List.setIfInBounds_toArray, List.set_cons_zero, List.set_cons_succ]
    refine wpAnyH_take (i := 13) (oi := { dst := some 24, op := Op.call { callee := Callee.value (Operand.func 41), args := #[Operand.const (Value.int IntKind.i64 1), Operand.const (Value.int IntKind.i64 2000000), Operand.tmp 23], argTypes := #[2, 2, 30] }, type := 4, pos := "l03_clock.go:135", after := #[{ on := 12, ground := Ground.data }, { on := 10, ground := Ground.chain }, { on := 10, ground := Ground.guard }], guard := some (10, false) }) (v := undef) rfl (by kernel_rfl) (by kernel_rfl) (by kernel_rfl) (fun _ _ _ h => h) (Or.inr ⟨by rfl, rfl⟩) hHeld ?_
    simp only [Act.put, List.setIfInBounds_toArray, List.set_cons_zero, List.set_cons_succ]
    refine wpAnyH_take (i := 14) (oi := { dst := some 25, op := Op.unOp UnOp.not 4 (Operand.tmp 24), type := 4, pos := "l03_clock.go:135", after := #[{ on := 13, ground := Ground.data }, { on := 10, ground := Ground.guard }], guard := some (10, false) }) (v := undef) rfl (by kernel_rfl) (by kernel_rfl) (by kernel_rfl) (fun _ _ _ h => h) (Or.inr ⟨by rfl, rfl⟩) hHeld ?_
    simp only [Act.put, List.setIfInBounds_toArray, List.set_cons_zero, List.set_cons_succ]
    refine wpAnyH_take (i := 15) (oi := { dst := some 26, op := Op.pick (Operand.tmp 21) (Operand.const (Value.bool true)) (Operand.tmp 25), type := 4, pos := "l03_clock.go:135", after := #[{ on := 10, ground := Ground.data }, { on := 14, ground := Ground.data }], guard := none }) (v := ?_) rfl (by kernel_rfl) (by kernel_rfl) (by kernel_rfl) (fun _ _ _ h => h) (Or.inl ⟨by rfl, ?hy⟩) hHeld ?_
    case hy => (intro w' hSw; (try dsimp only at hSw); go_simp; try with_reducible rfl)
    simp only [Act.put, List.setIfInBounds_toArray, List.set_cons_zero, List.set_cons_succ]
    refine wpAnyH_done (by kernel_rfl) ?_ _
    obtain ⟨xR0, yR0⟩ := BR.out _ HC.out 0 _ rfl
    obtain ⟨xR1, yR1⟩ := BR.out _ HC.out 1 _ rfl
    have FZ := Lib.hid (FB.out.trans (HC.out.mono (by omega)))
    have hzR := Nat.lt_of_lt_of_le hlt2 HC.out.size
    go_wp2
    refine bodyPost_ret (v := .tuple #[.int .i64 0, .agg #[.int .i64 0, .int .i64 0], .int .i64 1]) (by simp [results, Try.results22, go_sem, xR0, yR0, xR1, yR1]) rfl ?_
    obtain ⟨q1, q2, q3, q4⟩ := EB.out
    rw [q1, q2, q3, q4]
    exact ⟨rfl, (FZ.out.setCell (by simp <;> omega) _).setCell (by simp <;> omega) _⟩
  | true =>
  obtain ⟨⟨j1, j2⟩, j3, j4⟩ := lckOk_iff.1 hq
  have ec1 : clampI P (l * 64) (h * 64) = P := clampI_in j1 j2
  rw [ec1] at bd
  have ec2 : clampI o (-P) P = o := clampI_in j3 j4
  rw [ec2] at bd
  have BD := Lib.hid bd
  have hne := fun w => neqLocked P o P o true (by simp) w
  simp only [Bool.not_true] at hne
  have wi := fun w b T hb => within_at 1 2000000 gap w T b hb
  clear bd ec1 ec2
  cases hg : inB 1 2000000 gap with
  | false =>
    have EB := Lib.hid (sc_bad (c := c) (l := l) (h := h) (p := p) (s := s) (P := P) (o := o) (gap := gap) (by unfold sclkOk; rw [hg]; simp))
    rw [hg] at wi
    have WI := Lib.hid (fun w b T hb => wi w b T hb)
    clear wi hg hv hq k1 k2 k3 k4 k5 j1 j2 j3 j4
    go_enter Try.func22, Try.ntmps22
    go_upto_region 1 with (fail)
    have bC : BoxF (((w.alloc (.cells #[.int .i64 c, .int .i64 l, .int .i64 h, .int .i64 p, .int .i64 s] 48)).alloc (.cells #[.int .i64 P, .int .i64 o] 45)).alloc (.cells #[.int .i64 0, .int .i64 0] 45)) w.heap.size #[.int .i64 c, .int .i64 l, .int .i64 h, .int .i64 p, .int .i64 s] := boxF5 (by simp [go_sem]) (by simp [go_sem]) (by simp [go_sem]) (by simp [go_sem]) (by simp [go_sem])
    have bL : BoxF (((w.alloc (.cells #[.int .i64 c, .int .i64 l, .int .i64 h, .int .i64 p, .int .i64 s] 48)).alloc (.cells #[.int .i64 P, .int .i64 o] 45)).alloc (.cells #[.int .i64 0, .int .i64 0] 45)) (w.heap.size + 1) #[.int .i64 P, .int .i64 o] := boxF2 (by simp [go_sem]) (by simp [go_sem])
    have bR : BoxF (((w.alloc (.cells #[.int .i64 c, .int .i64 l, .int .i64 h, .int .i64 p, .int .i64 s] 48)).alloc (.cells #[.int .i64 P, .int .i64 o] 45)).alloc (.cells #[.int .i64 0, .int .i64 0] 45)) (w.heap.size + 1 + 1) #[.int .i64 0, .int .i64 0] := boxF2 (by simp [go_sem]) (by simp [go_sem])
    have FB := Lib.hid (show Below w.heap.size w (((w.alloc (.cells #[.int .i64 c, .int .i64 l, .int .i64 h, .int .i64 p, .int .i64 s] 48)).alloc (.cells #[.int .i64 P, .int .i64 o] 45)).alloc (.cells #[.int .i64 0, .int .i64 0] 45)) by go_grown)
    have hlt2 : w.heap.size + 1 + 1 < (((w.alloc (.cells #[.int .i64 c, .int .i64 l, .int .i64 h, .int .i64 p, .int .i64 s] 48)).alloc (.cells #[.int .i64 P, .int .i64 o] 45)).alloc (.cells #[.int .i64 0, .int .i64 0] 45)).heap.size := by simp
    generalize (((w.alloc (.cells #[.int .i64 c, .int .i64 l, .int .i64 h, .int .i64 p, .int .i64 s] 48)).alloc (.cells #[.int .i64 P, .int .i64 o] 45)).alloc (.cells #[.int .i64 0, .int .i64 0] 45)) = W at *
    have hlt1 : w.heap.size + 1 < W.heap.size := by omega
    have hlt0 : w.heap.size < W.heap.size := by omega
    have BC := Lib.hid (fun w' (hb : Below W.heap.size W w') => (bC.below hb hlt0).box)
    have BL := Lib.hid (fun w' (hb : Below W.heap.size W w') => (bL.below hb hlt1).box)
    have BR := Lib.hid (fun w' (hb : Below W.heap.size W w') => bR.below hb hlt2)
    have KS := Lib.hid (fun w' (hb : Below W.heap.size W w') => (show w'.cell? ⟨w.heap.size, 0, none⟩ = some (.int .i64 c) ∧ w'.cell? ⟨w.heap.size, 1, none⟩ = some (.int .i64 l) ∧ w'.cell? ⟨w.heap.size, 2, none⟩ = some (.int .i64 h) ∧ w'.cell? ⟨w.heap.size, 3, none⟩ = some (.int .i64 p) ∧ w'.cell? ⟨w.heap.size, 4, none⟩ = some (.int .i64 s) ∧ w'.cell? ⟨w.heap.size + 1, 0, none⟩ = some (.int .i64 P) ∧ w'.cell? ⟨w.heap.size + 1, 1, none⟩ = some (.int .i64 o) from ⟨BC.out w' hb 0 _ rfl, BC.out w' hb 1 _ rfl, BC.out w' hb 2 _ rfl, BC.out w' hb 3 _ rfl, BC.out w' hb 4 _ rfl, BL.out w' hb 0 _ rfl, BL.out w' hb 1 _ rfl⟩))
    have HC := Lib.hid (show Below W.heap.size W W.drew from (Below.refl _ _).drew)
    clear bC bL bR
    refine wp_region_held_drew (S := (fun w' => w'.cell? ⟨w.heap.size, 0, none⟩ = some (.int .i64 c) ∧ w'.cell? ⟨w.heap.size, 1, none⟩ = some (.int .i64 l) ∧ w'.cell? ⟨w.heap.size, 2, none⟩ = some (.int .i64 h) ∧ w'.cell? ⟨w.heap.size, 3, none⟩ = some (.int .i64 p) ∧ w'.cell? ⟨w.heap.size, 4, none⟩ = some (.int .i64 s) ∧ w'.cell? ⟨w.heap.size + 1, 0, none⟩ = some (.int .i64 P) ∧ w'.cell? ⟨w.heap.size + 1, 1, none⟩ = some (.int .i64 o))) (by kernel_rfl) (KS.out _ HC.out) (fun hHeld => ?_)
    refine wpAnyH_take (i := 0) (oi := { dst := some 11, op := Op.load 48 (Operand.tmp 3), type := 48, pos := "l03_clock.go:135", after := #[], guard := none }) (v := ?_) rfl (by kernel_rfl) (by kernel_rfl) (by kernel_rfl) (fun _ _ _ h => h) (Or.inl ⟨by rfl, ?hy⟩) hHeld ?_
    case hy => (intro w' hSw; (try dsimp only at hSw); go_simp; try with_reducible rfl)
    simp only [Act.put, List.setIfInBounds_toArray, List.set_cons_zero, List.set_cons_succ]
    refine wpAnyH_ready (rs := [1]) (by kernel_rfl) (by simp) ?_
    refine AllReadyH.cons (o := { dst := some 12, op := Op.call { callee := Callee.value (Operand.func 48), args := #[Operand.tmp 11], argTypes := #[48] }, type := 4, pos := "l03_clock.go:135", after := #[{ on := 0, ground := Ground.data }], guard := none }) rfl (fun K hK => ?_) AllReadyH.nil
    go_simp
    go_at_call 48; refine (VC.out _).mono ?_; rintro e w2 ⟨rfl, hb2⟩; replace HC := Lib.hid (HC.out.trans (hb2.mono HC.out.size))
    go_wp2_with fail
    refine hK.out _ _ (KS.out _ HC.out) (fun hHeld => ?_)
    clear hK K
    try simp only [Act.put, List.setIfInBounds_toArray, List.set_cons_zero, List.set_cons_succ]
    refine wpAnyH_take (i := 2) (oi := { dst := some 13, op := Op.unOp UnOp.not 4 (Operand.tmp 12), type := 4, pos := "l03_clock.go:135", after := #[{ on := 1, ground := Ground.data }], guard := none }) (v := ?_) rfl (by kernel_rfl) (by kernel_rfl) (by kernel_rfl) (fun _ _ _ h => h) (Or.inl ⟨by rfl, ?hy⟩) hHeld ?_
    case hy => (intro w' hSw; (try dsimp only at hSw); go_simp; try with_reducible rfl)
    simp only [Act.put, List.setIfInBounds_toArray, List.set_cons_zero, List.set_cons_succ]
    refine wpAnyH_take (i := 3) (oi := { dst := some 14, op := Op.move (Operand.tmp 13), type := 4, pos := "l03_clock.go:135", after := #[{ on := 2, ground := Ground.data }, { on := 1, ground := Ground.chain }], guard := none }) (v := ?_) rfl (by kernel_rfl) (by kernel_rfl) (by kernel_rfl) (fun _ _ _ h => h) (Or.inl ⟨by rfl, ?hy⟩) hHeld ?_
    case hy => (intro w' hSw; (try dsimp only at hSw); go_simp; try with_reducible rfl)
    simp only [Act.put, List.setIfInBounds_toArray, List.set_cons_zero, List.set_cons_succ]
    refine wpAnyH_take (i := 4) (oi := { dst := some 15, op := Op.load 45 (Operand.tmp 4), type := 45, pos := "l03_clock.go:135", after := #[{ on := 3, ground := Ground.guard }], guard := some (3, false) }) (v := ?_) rfl (by kernel_rfl) (by kernel_rfl) (by kernel_rfl) (fun _ _ _ h => h) (Or.inl ⟨by rfl, ?hy⟩) hHeld ?_
    case hy => (intro w' hSw; (try dsimp only at hSw); go_simp; try with_reducible rfl)
    simp only [Act.put, List.setIfInBounds_toArray, List.set_cons_zero, List.set_cons_succ]
    refine wpAnyH_take (i := 5) (oi := { dst := some 16, op := Op.load 48 (Operand.tmp 3), type := 48, pos := "l03_clock.go:135", after := #[{ on := 3, ground := Ground.guard }], guard := some (3, false) }) (v := ?_) rfl (by kernel_rfl) (by kernel_rfl) (by kernel_rfl) (fun _ _ _ h => h) (Or.inl ⟨by rfl, ?hy⟩) hHeld ?_
    case hy => (intro w' hSw; (try dsimp only at hSw); go_simp; try with_reducible rfl)
    simp only [Act.put, List.setIfInBounds_toArray, List.set_cons_zero, List.set_cons_succ]
    refine wpAnyH_take (i := 6) (oi := { dst := some 17, op := Op.load 45 (Operand.tmp 4), type := 45, pos := "l03_clock.go:135", after := #[{ on := 3, ground := Ground.guard }], guard := some (3, false) }) (v := ?_) rfl (by kernel_rfl) (by kernel_rfl) (by kernel_rfl) (fun _ _ _ h => h) (Or.inl ⟨by rfl, ?hy⟩) hHeld ?_
    case hy => (intro w' hSw; (try dsimp only at hSw); go_simp; try with_reducible rfl)
    simp only [Act.put, List.setIfInBounds_toArray, List.set_cons_zero, List.set_cons_succ]
    refine wpAnyH_ready (rs := [7]) (by kernel_rfl) (by simp) ?_
    refine AllReadyH.cons (o := { dst := some 18, op := Op.call { callee := Callee.value (Operand.func 49), args := #[Operand.tmp 16, Operand.tmp 17], argTypes := #[48, 45] }, type := 45, pos := "l03_clock.go:135", after := #[{ on := 5, ground := Ground.data }, { on := 6, ground := Ground.data }, { on := 3, ground := Ground.chain }, { on := 3, ground := Ground.guard }], guard := some (3, false) }) rfl (fun K hK => ?_) AllReadyH.nil
    go_simp
    go_at_call 49; refine (BD.out _).mono ?_; rintro e w3 ⟨rfl, hb3⟩; replace HC := Lib.hid (HC.out.trans (hb3.mono HC.out.size))
    go_wp2_with fail
    refine hK.out _ _ (KS.out _ HC.out) (fun hHeld => ?_)
    clear hK K
    try simp only [Act.put, List.setIfInBounds_toArray, List.set_cons_zero, List.set_cons_succ]
    refine wpAnyH_take (i := 8) (oi := { dst := some 19, op := Op.binOp BinOp.neq 45 (Operand.tmp 15) (Operand.tmp 18) 45, type := 4, pos := "l03_clock.go:135", after := #[{ on := 4, ground := Ground.data }, { on := 7, ground := Ground.data }, { on := 3, ground := Ground.guard }], guard := some (3, false) }) (v := ?_) rfl (by kernel_rfl) (by kernel_rfl) (by kernel_rfl) (fun _ _ _ h => h) (Or.inl ⟨by rfl, ?hy⟩) hHeld ?_
    case hy => (intro w' hSw; (try dsimp only at hSw); go_simp; try with_reducible rfl)
    simp only [Act.put, List.setIfInBounds_toArray, List.set_cons_zero, List.set_cons_succ]
    refine wpAnyH_take (i := 9) (oi := { dst := some 20, op := Op.pick (Operand.tmp 14) (Operand.const (Value.bool true)) (Operand.tmp 19), type := 4, pos := "l03_clock.go:135", after := #[{ on := 3, ground := Ground.data }, { on := 8, ground := Ground.data }], guard := none }) (v := ?_) rfl (by kernel_rfl) (by kernel_rfl) (by kernel_rfl) (fun _ _ _ h => h) (Or.inl ⟨by rfl, ?hy⟩) hHeld ?_
    case hy => (intro w' hSw; (try dsimp only at hSw); go_simp; try with_reducible rfl)
    simp only [Act.put, List.setIfInBounds_toArray, List.set_cons_zero, List.set_cons_succ]
    refine wpAnyH_take (i := 10) (oi := { dst := some 21, op := Op.move (Operand.tmp 20), type := 4, pos := "l03_clock.go:135", after := #[{ on := 9, ground := Ground.data }, { on := 7, ground := Ground.chain }], guard := none }) (v := ?_) rfl (by kernel_rfl) (by kernel_rfl) (by kernel_rfl) (fun _ _ _ h => h) (Or.inl ⟨by rfl, ?hy⟩) hHeld ?_
    case hy => (intro w' hSw; (try dsimp only at hSw); go_simp; try with_reducible rfl)
    simp only [Act.put, List.setIfInBounds_toArray, List.set_cons_zero, List.set_cons_succ]
    refine wpAnyH_take (i := 11) (oi := { dst := some 22, op := Op.move (Operand.tmp 2), type := 2, pos := "l03_clock.go:135", after := #[{ on := 10, ground := Ground.guard }], guard := some (10, false) }) (v := ?_) rfl (by kernel_rfl) (by kernel_rfl) (by kernel_rfl) (fun _ _ _ h => h) (Or.inl ⟨by rfl, ?hy⟩) hHeld ?_
    case hy => (intro w' hSw; (try dsimp only at hSw); go_simp; try with_reducible rfl)
    simp only [Act.put, List.setIfInBounds_toArray, List.set_cons_zero, List.set_cons_succ]
    refine wpAnyH_ready (rs := [12]) (by kernel_rfl) (by simp) ?_
    refine AllReadyH.cons (o := { dst := some 23, op := Op.buildSlice 30 1 #[(0, Operand.tmp 22)], type := 30, pos := "l03_clock.go:135", after := #[{ on := 11, ground := Ground.data }, { on := 10, ground := Ground.guard }], guard := some (10, false) }) rfl (fun K hK => ?_) AllReadyH.nil
    replace HC := Lib.hid (HC.out.alloc HC.out.size (.cells #[.int .i64 gap] 2))
    go_simp
    refine hK.out _ _ (KS.out _ HC.out) (fun hHeld => ?_)
    clear hK K
    try simp only [Act.put, List.setIfInBounds_toArray, List.set_cons_zero, List.set_cons_succ]
    refine wpAnyH_ready (rs := [13]) (by kernel_rfl) (by simp) ?_
    refine AllReadyH.cons (o := { dst := some 24, op := Op.call { callee := Callee.value (Operand.func 41), args := #[Operand.const (Value.int IntKind.i64 1), Operand.const (Value.int IntKind.i64 2000000), Operand.tmp 23], argTypes := #[2, 2, 30] }, type := 4, pos := "l03_clock.go:135", after := #[{ on := 12, ground := Ground.data }, { on := 10, ground := Ground.chain }, { on := 10, ground := Ground.guard }], guard := some (10, false) }) rfl (fun K hK => ?_) AllReadyH.nil
    go_simp
    go_at_call 41; refine (WI.out _ _ _ rfl).mono ?_; rintro e _ ⟨rfl, rfl⟩
    go_wp2_with fail
    refine hK.out _ _ (KS.out _ HC.out) (fun hHeld => ?_)
    clear hK K
    try simp only [Act.put, List.setIfInBounds_toArray, List.set_cons_zero, List.set_cons_succ]
    refine wpAnyH_take (i := 14) (oi := { dst := some 25, op := Op.unOp UnOp.not 4 (Operand.tmp 24), type := 4, pos := "l03_clock.go:135", after := #[{ on := 13, ground := Ground.data }, { on := 10, ground := Ground.guard }], guard := some (10, false) }) (v := ?_) rfl (by kernel_rfl) (by kernel_rfl) (by kernel_rfl) (fun _ _ _ h => h) (Or.inl ⟨by rfl, ?hy⟩) hHeld ?_
    case hy => (intro w' hSw; (try dsimp only at hSw); go_simp; try with_reducible rfl)
    simp only [Act.put, List.setIfInBounds_toArray, List.set_cons_zero, List.set_cons_succ]
    refine wpAnyH_take (i := 15) (oi := { dst := some 26, op := Op.pick (Operand.tmp 21) (Operand.const (Value.bool true)) (Operand.tmp 25), type := 4, pos := "l03_clock.go:135", after := #[{ on := 10, ground := Ground.data }, { on := 14, ground := Ground.data }], guard := none }) (v := ?_) rfl (by kernel_rfl) (by kernel_rfl) (by kernel_rfl) (fun _ _ _ h => h) (Or.inl ⟨by rfl, ?hy⟩) hHeld ?_
    case hy => (intro w' hSw; (try dsimp only at hSw); go_simp; try with_reducible rfl)
    simp only [Act.put, List.setIfInBounds_toArray, List.set_cons_zero, List.set_cons_succ]
    refine wpAnyH_done (by kernel_rfl) ?_ _
    obtain ⟨xR0, yR0⟩ := BR.out _ HC.out 0 _ rfl
    obtain ⟨xR1, yR1⟩ := BR.out _ HC.out 1 _ rfl
    have FZ := Lib.hid (FB.out.trans (HC.out.mono (by omega)))
    have hzR := Nat.lt_of_lt_of_le hlt2 HC.out.size
    go_wp2
    refine bodyPost_ret (v := .tuple #[.int .i64 0, .agg #[.int .i64 0, .int .i64 0], .int .i64 1]) (by simp [results, Try.results22, go_sem, xR0, yR0, xR1, yR1]) rfl ?_
    obtain ⟨q1, q2, q3, q4⟩ := EB.out
    rw [q1, q2, q3, q4]
    exact ⟨rfl, (FZ.out.setCell (by simp <;> omega) _).setCell (by simp <;> omega) _⟩
  | true =>
  have HOK := Lib.hid (show sclkOk c l h p s P o gap = true by unfold sclkOk; rw [hv, hq, hg]; rfl)
  obtain ⟨i1, i2⟩ := inB_iff.1 hg
  rw [hg] at wi
  have WI := Lib.hid (fun w b T hb => wi w b T hb)
  have SR := Lib.hid (fun w => step_any c l h p s P o gap w (by omega) (by omega) (by omega) (by omega) (by omega) (by omega) (by omega) (by omega) i1 i2)
  have EL := Lib.hid (sc_long HOK.out)
  have EG := Lib.hid (sc_good HOK.out)
  clear wi hg hv hq k1 k2 k3 k4 k5 j1 j2 j3 j4 i1 i2
  generalize stN P o gap = N at *
  generalize stE P o gap = E at *
  generalize stPer l h s P o gap = Q1 at *
  generalize stOff l h p s P o gap = Q2 at *
  by_cases hn : N ≤ 100
  case neg =>
    have EB := Lib.hid (EL.out hn)
    have hn1 : 100 < N := by omega
    clear hn EG
    go_enter Try.func22, Try.ntmps22
    go_upto_region 1 with (fail)
    have bC : BoxF (((w.alloc (.cells #[.int .i64 c, .int .i64 l, .int .i64 h, .int .i64 p, .int .i64 s] 48)).alloc (.cells #[.int .i64 P, .int .i64 o] 45)).alloc (.cells #[.int .i64 0, .int .i64 0] 45)) w.heap.size #[.int .i64 c, .int .i64 l, .int .i64 h, .int .i64 p, .int .i64 s] := boxF5 (by simp [go_sem]) (by simp [go_sem]) (by simp [go_sem]) (by simp [go_sem]) (by simp [go_sem])
    have bL : BoxF (((w.alloc (.cells #[.int .i64 c, .int .i64 l, .int .i64 h, .int .i64 p, .int .i64 s] 48)).alloc (.cells #[.int .i64 P, .int .i64 o] 45)).alloc (.cells #[.int .i64 0, .int .i64 0] 45)) (w.heap.size + 1) #[.int .i64 P, .int .i64 o] := boxF2 (by simp [go_sem]) (by simp [go_sem])
    have bR : BoxF (((w.alloc (.cells #[.int .i64 c, .int .i64 l, .int .i64 h, .int .i64 p, .int .i64 s] 48)).alloc (.cells #[.int .i64 P, .int .i64 o] 45)).alloc (.cells #[.int .i64 0, .int .i64 0] 45)) (w.heap.size + 1 + 1) #[.int .i64 0, .int .i64 0] := boxF2 (by simp [go_sem]) (by simp [go_sem])
    have FB := Lib.hid (show Below w.heap.size w (((w.alloc (.cells #[.int .i64 c, .int .i64 l, .int .i64 h, .int .i64 p, .int .i64 s] 48)).alloc (.cells #[.int .i64 P, .int .i64 o] 45)).alloc (.cells #[.int .i64 0, .int .i64 0] 45)) by go_grown)
    have hlt2 : w.heap.size + 1 + 1 < (((w.alloc (.cells #[.int .i64 c, .int .i64 l, .int .i64 h, .int .i64 p, .int .i64 s] 48)).alloc (.cells #[.int .i64 P, .int .i64 o] 45)).alloc (.cells #[.int .i64 0, .int .i64 0] 45)).heap.size := by simp
    generalize (((w.alloc (.cells #[.int .i64 c, .int .i64 l, .int .i64 h, .int .i64 p, .int .i64 s] 48)).alloc (.cells #[.int .i64 P, .int .i64 o] 45)).alloc (.cells #[.int .i64 0, .int .i64 0] 45)) = W at *
    have hlt1 : w.heap.size + 1 < W.heap.size := by omega
    have hlt0 : w.heap.size < W.heap.size := by omega
    have BC := Lib.hid (fun w' (hb : Below W.heap.size W w') => (bC.below hb hlt0).box)
    have BL := Lib.hid (fun w' (hb : Below W.heap.size W w') => (bL.below hb hlt1).box)
    have BR := Lib.hid (fun w' (hb : Below W.heap.size W w') => bR.below hb hlt2)
    have KS := Lib.hid (fun w' (hb : Below W.heap.size W w') => (show w'.cell? ⟨w.heap.size, 0, none⟩ = some (.int .i64 c) ∧ w'.cell? ⟨w.heap.size, 1, none⟩ = some (.int .i64 l) ∧ w'.cell? ⟨w.heap.size, 2, none⟩ = some (.int .i64 h) ∧ w'.cell? ⟨w.heap.size, 3, none⟩ = some (.int .i64 p) ∧ w'.cell? ⟨w.heap.size, 4, none⟩ = some (.int .i64 s) ∧ w'.cell? ⟨w.heap.size + 1, 0, none⟩ = some (.int .i64 P) ∧ w'.cell? ⟨w.heap.size + 1, 1, none⟩ = some (.int .i64 o) from ⟨BC.out w' hb 0 _ rfl, BC.out w' hb 1 _ rfl, BC.out w' hb 2 _ rfl, BC.out w' hb 3 _ rfl, BC.out w' hb 4 _ rfl, BL.out w' hb 0 _ rfl, BL.out w' hb 1 _ rfl⟩))
    have HC := Lib.hid (show Below W.heap.size W W.drew from (Below.refl _ _).drew)
    clear bC bL bR
    refine wp_region_held_drew (S := (fun w' => w'.cell? ⟨w.heap.size, 0, none⟩ = some (.int .i64 c) ∧ w'.cell? ⟨w.heap.size, 1, none⟩ = some (.int .i64 l) ∧ w'.cell? ⟨w.heap.size, 2, none⟩ = some (.int .i64 h) ∧ w'.cell? ⟨w.heap.size, 3, none⟩ = some (.int .i64 p) ∧ w'.cell? ⟨w.heap.size, 4, none⟩ = some (.int .i64 s) ∧ w'.cell? ⟨w.heap.size + 1, 0, none⟩ = some (.int .i64 P) ∧ w'.cell? ⟨w.heap.size + 1, 1, none⟩ = some (.int .i64 o))) (by kernel_rfl) (KS.out _ HC.out) (fun hHeld => ?_)
    refine wpAnyH_take (i := 0) (oi := { dst := some 11, op := Op.load 48 (Operand.tmp 3), type := 48, pos := "l03_clock.go:135", after := #[], guard := none }) (v := ?_) rfl (by kernel_rfl) (by kernel_rfl) (by kernel_rfl) (fun _ _ _ h => h) (Or.inl ⟨by rfl, ?hy⟩) hHeld ?_
    case hy => (intro w' hSw; (try dsimp only at hSw); go_simp; try with_reducible rfl)
    simp only [Act.put, List.setIfInBounds_toArray, List.set_cons_zero, List.set_cons_succ]
    refine wpAnyH_ready (rs := [1]) (by kernel_rfl) (by simp) ?_
    refine AllReadyH.cons (o := { dst := some 12, op := Op.call { callee := Callee.value (Operand.func 48), args := #[Operand.tmp 11], argTypes := #[48] }, type := 4, pos := "l03_clock.go:135", after := #[{ on := 0, ground := Ground.data }], guard := none }) rfl (fun K hK => ?_) AllReadyH.nil
    go_simp
    go_at_call 48; refine (VC.out _).mono ?_; rintro e w2 ⟨rfl, hb2⟩; replace HC := Lib.hid (HC.out.trans (hb2.mono HC.out.size))
    go_wp2_with fail
    refine hK.out _ _ (KS.out _ HC.out) (fun hHeld => ?_)
    clear hK K
    try simp only [Act.put, List.setIfInBounds_toArray, List.set_cons_zero, List.set_cons_succ]
    refine wpAnyH_take (i := 2) (oi := { dst := some 13, op := Op.unOp UnOp.not 4 (Operand.tmp 12), type := 4, pos := "l03_clock.go:135", after := #[{ on := 1, ground := Ground.data }], guard := none }) (v := ?_) rfl (by kernel_rfl) (by kernel_rfl) (by kernel_rfl) (fun _ _ _ h => h) (Or.inl ⟨by rfl, ?hy⟩) hHeld ?_
    case hy => (intro w' hSw; (try dsimp only at hSw); go_simp; try with_reducible rfl)
    simp only [Act.put, List.setIfInBounds_toArray, List.set_cons_zero, List.set_cons_succ]
    refine wpAnyH_take (i := 3) (oi := { dst := some 14, op := Op.move (Operand.tmp 13), type := 4, pos := "l03_clock.go:135", after := #[{ on := 2, ground := Ground.data }, { on := 1, ground := Ground.chain }], guard := none }) (v := ?_) rfl (by kernel_rfl) (by kernel_rfl) (by kernel_rfl) (fun _ _ _ h => h) (Or.inl ⟨by rfl, ?hy⟩) hHeld ?_
    case hy => (intro w' hSw; (try dsimp only at hSw); go_simp; try with_reducible rfl)
    simp only [Act.put, List.setIfInBounds_toArray, List.set_cons_zero, List.set_cons_succ]
    refine wpAnyH_take (i := 4) (oi := { dst := some 15, op := Op.load 45 (Operand.tmp 4), type := 45, pos := "l03_clock.go:135", after := #[{ on := 3, ground := Ground.guard }], guard := some (3, false) }) (v := ?_) rfl (by kernel_rfl) (by kernel_rfl) (by kernel_rfl) (fun _ _ _ h => h) (Or.inl ⟨by rfl, ?hy⟩) hHeld ?_
    case hy => (intro w' hSw; (try dsimp only at hSw); go_simp; try with_reducible rfl)
    simp only [Act.put, List.setIfInBounds_toArray, List.set_cons_zero, List.set_cons_succ]
    refine wpAnyH_take (i := 5) (oi := { dst := some 16, op := Op.load 48 (Operand.tmp 3), type := 48, pos := "l03_clock.go:135", after := #[{ on := 3, ground := Ground.guard }], guard := some (3, false) }) (v := ?_) rfl (by kernel_rfl) (by kernel_rfl) (by kernel_rfl) (fun _ _ _ h => h) (Or.inl ⟨by rfl, ?hy⟩) hHeld ?_
    case hy => (intro w' hSw; (try dsimp only at hSw); go_simp; try with_reducible rfl)
    simp only [Act.put, List.setIfInBounds_toArray, List.set_cons_zero, List.set_cons_succ]
    refine wpAnyH_take (i := 6) (oi := { dst := some 17, op := Op.load 45 (Operand.tmp 4), type := 45, pos := "l03_clock.go:135", after := #[{ on := 3, ground := Ground.guard }], guard := some (3, false) }) (v := ?_) rfl (by kernel_rfl) (by kernel_rfl) (by kernel_rfl) (fun _ _ _ h => h) (Or.inl ⟨by rfl, ?hy⟩) hHeld ?_
    case hy => (intro w' hSw; (try dsimp only at hSw); go_simp; try with_reducible rfl)
    simp only [Act.put, List.setIfInBounds_toArray, List.set_cons_zero, List.set_cons_succ]
    refine wpAnyH_ready (rs := [7]) (by kernel_rfl) (by simp) ?_
    refine AllReadyH.cons (o := { dst := some 18, op := Op.call { callee := Callee.value (Operand.func 49), args := #[Operand.tmp 16, Operand.tmp 17], argTypes := #[48, 45] }, type := 45, pos := "l03_clock.go:135", after := #[{ on := 5, ground := Ground.data }, { on := 6, ground := Ground.data }, { on := 3, ground := Ground.chain }, { on := 3, ground := Ground.guard }], guard := some (3, false) }) rfl (fun K hK => ?_) AllReadyH.nil
    go_simp
    go_at_call 49; refine (BD.out _).mono ?_; rintro e w3 ⟨rfl, hb3⟩; replace HC := Lib.hid (HC.out.trans (hb3.mono HC.out.size))
    go_wp2_with fail
    refine hK.out _ _ (KS.out _ HC.out) (fun hHeld => ?_)
    clear hK K
    try simp only [Act.put, List.setIfInBounds_toArray, List.set_cons_zero, List.set_cons_succ]
    refine wpAnyH_take (i := 8) (oi := { dst := some 19, op := Op.binOp BinOp.neq 45 (Operand.tmp 15) (Operand.tmp 18) 45, type := 4, pos := "l03_clock.go:135", after := #[{ on := 4, ground := Ground.data }, { on := 7, ground := Ground.data }, { on := 3, ground := Ground.guard }], guard := some (3, false) }) (v := ?_) rfl (by kernel_rfl) (by kernel_rfl) (by kernel_rfl) (fun _ _ _ h => h) (Or.inl ⟨by rfl, ?hy⟩) hHeld ?_
    case hy => (intro w' hSw; (try dsimp only at hSw); go_simp; try with_reducible rfl)
    simp only [Act.put, List.setIfInBounds_toArray, List.set_cons_zero, List.set_cons_succ]
    refine wpAnyH_take (i := 9) (oi := { dst := some 20, op := Op.pick (Operand.tmp 14) (Operand.const (Value.bool true)) (Operand.tmp 19), type := 4, pos := "l03_clock.go:135", after := #[{ on := 3, ground := Ground.data }, { on := 8, ground := Ground.data }], guard := none }) (v := ?_) rfl (by kernel_rfl) (by kernel_rfl) (by kernel_rfl) (fun _ _ _ h => h) (Or.inl ⟨by rfl, ?hy⟩) hHeld ?_
    case hy => (intro w' hSw; (try dsimp only at hSw); go_simp; try with_reducible rfl)
    simp only [Act.put, List.setIfInBounds_toArray, List.set_cons_zero, List.set_cons_succ]
    refine wpAnyH_take (i := 10) (oi := { dst := some 21, op := Op.move (Operand.tmp 20), type := 4, pos := "l03_clock.go:135", after := #[{ on := 9, ground := Ground.data }, { on := 7, ground := Ground.chain }], guard := none }) (v := ?_) rfl (by kernel_rfl) (by kernel_rfl) (by kernel_rfl) (fun _ _ _ h => h) (Or.inl ⟨by rfl, ?hy⟩) hHeld ?_
    case hy => (intro w' hSw; (try dsimp only at hSw); go_simp; try with_reducible rfl)
    simp only [Act.put, List.setIfInBounds_toArray, List.set_cons_zero, List.set_cons_succ]
    refine wpAnyH_take (i := 11) (oi := { dst := some 22, op := Op.move (Operand.tmp 2), type := 2, pos := "l03_clock.go:135", after := #[{ on := 10, ground := Ground.guard }], guard := some (10, false) }) (v := ?_) rfl (by kernel_rfl) (by kernel_rfl) (by kernel_rfl) (fun _ _ _ h => h) (Or.inl ⟨by rfl, ?hy⟩) hHeld ?_
    case hy => (intro w' hSw; (try dsimp only at hSw); go_simp; try with_reducible rfl)
    simp only [Act.put, List.setIfInBounds_toArray, List.set_cons_zero, List.set_cons_succ]
    refine wpAnyH_ready (rs := [12]) (by kernel_rfl) (by simp) ?_
    refine AllReadyH.cons (o := { dst := some 23, op := Op.buildSlice 30 1 #[(0, Operand.tmp 22)], type := 30, pos := "l03_clock.go:135", after := #[{ on := 11, ground := Ground.data }, { on := 10, ground := Ground.guard }], guard := some (10, false) }) rfl (fun K hK => ?_) AllReadyH.nil
    replace HC := Lib.hid (HC.out.alloc HC.out.size (.cells #[.int .i64 gap] 2))
    go_simp
    refine hK.out _ _ (KS.out _ HC.out) (fun hHeld => ?_)
    clear hK K
    try simp only [Act.put, List.setIfInBounds_toArray, List.set_cons_zero, List.set_cons_succ]
    refine wpAnyH_ready (rs := [13]) (by kernel_rfl) (by simp) ?_
    refine AllReadyH.cons (o := { dst := some 24, op := Op.call { callee := Callee.value (Operand.func 41), args := #[Operand.const (Value.int IntKind.i64 1), Operand.const (Value.int IntKind.i64 2000000), Operand.tmp 23], argTypes := #[2, 2, 30] }, type := 4, pos := "l03_clock.go:135", after := #[{ on := 12, ground := Ground.data }, { on := 10, ground := Ground.chain }, { on := 10, ground := Ground.guard }], guard := some (10, false) }) rfl (fun K hK => ?_) AllReadyH.nil
    go_simp
    go_at_call 41; refine (WI.out _ _ _ rfl).mono ?_; rintro e _ ⟨rfl, rfl⟩
    go_wp2_with fail
    refine hK.out _ _ (KS.out _ HC.out) (fun hHeld => ?_)
    clear hK K
    try simp only [Act.put, List.setIfInBounds_toArray, List.set_cons_zero, List.set_cons_succ]
    refine wpAnyH_take (i := 14) (oi := { dst := some 25, op := Op.unOp UnOp.not 4 (Operand.tmp 24), type := 4, pos := "l03_clock.go:135", after := #[{ on := 13, ground := Ground.data }, { on := 10, ground := Ground.guard }], guard := some (10, false) }) (v := ?_) rfl (by kernel_rfl) (by kernel_rfl) (by kernel_rfl) (fun _ _ _ h => h) (Or.inl ⟨by rfl, ?hy⟩) hHeld ?_
    case hy => (intro w' hSw; (try dsimp only at hSw); go_simp; try with_reducible rfl)
    simp only [Act.put, List.setIfInBounds_toArray, List.set_cons_zero, List.set_cons_succ]
    refine wpAnyH_take (i := 15) (oi := { dst := some 26, op := Op.pick (Operand.tmp 21) (Operand.const (Value.bool true)) (Operand.tmp 25), type := 4, pos := "l03_clock.go:135", after := #[{ on := 10, ground := Ground.data }, { on := 14, ground := Ground.data }], guard := none }) (v := ?_) rfl (by kernel_rfl) (by kernel_rfl) (by kernel_rfl) (fun _ _ _ h => h) (Or.inl ⟨by rfl, ?hy⟩) hHeld ?_
    case hy => (intro w' hSw; (try dsimp only at hSw); go_simp; try with_reducible rfl)
    simp only [Act.put, List.setIfInBounds_toArray, List.set_cons_zero, List.set_cons_succ]
    refine wpAnyH_done (by kernel_rfl) ?_ _
    have cC0 := BC.out _ HC.out 0 _ rfl
    have cC1 := BC.out _ HC.out 1 _ rfl
    have cC2 := BC.out _ HC.out 2 _ rfl
    have cC3 := BC.out _ HC.out 3 _ rfl
    have cC4 := BC.out _ HC.out 4 _ rfl
    have cL0 := BL.out _ HC.out 0 _ rfl
    have cL1 := BL.out _ HC.out 1 _ rfl
    go_wp2_with fail
    refine (SR.out _).mono ?_
    rintro e w5 ⟨rfl, hb5⟩
    replace HC := Lib.hid (HC.out.trans (hb5.mono HC.out.size))
    clear cC0 cC1 cC2 cC3 cC4 cL0 cL1 hb5
    go_upto_region 4 with (fail)
    have bN : BoxF ((w5.alloc (.cells #[.int .i64 N, .int .i64 E] 86)).alloc (.cells #[.int .i64 Q1, .int .i64 Q2] 45)) w5.heap.size #[.int .i64 N, .int .i64 E] := boxF2 (by simp [go_sem]) (by simp [go_sem])
    have bQ : BoxF ((w5.alloc (.cells #[.int .i64 N, .int .i64 E] 86)).alloc (.cells #[.int .i64 Q1, .int .i64 Q2] 45)) (w5.heap.size + 1) #[.int .i64 Q1, .int .i64 Q2] := boxF2 (by simp [go_sem]) (by simp [go_sem])
    have hc9 : Below W.heap.size W ((w5.alloc (.cells #[.int .i64 N, .int .i64 E] 86)).alloc (.cells #[.int .i64 Q1, .int .i64 Q2] 45)) := (HC.out.alloc HC.out.size _).alloc (by have := HC.out.size; simp; omega) _
    have h59 := HC.out.size
    generalize ((w5.alloc (.cells #[.int .i64 N, .int .i64 E] 86)).alloc (.cells #[.int .i64 Q1, .int .i64 Q2] 45)) = w6 at *
    obtain ⟨xR0, yR0⟩ := BR.out _ hc9 0 _ rfl
    obtain ⟨xR1, yR1⟩ := BR.out _ hc9 1 _ rfl
    obtain ⟨xN0, yN0⟩ := bN 0 _ rfl
    obtain ⟨xQ0, yQ0⟩ := bQ 0 _ rfl
    obtain ⟨xQ1, yQ1⟩ := bQ 1 _ rfl
    have FZ := Lib.hid (FB.out.trans (hc9.mono (by omega)))
    have hzR := Nat.lt_of_lt_of_le hlt2 hc9.size
    clear bN bQ hc9
    go_wp2
    refine bodyPost_ret (v := .tuple #[.int .i64 0, .agg #[.int .i64 0, .int .i64 0], .int .i64 10]) (by simp [results, Try.results22, go_sem, xR0, yR0, xR1, yR1]) rfl ?_
    obtain ⟨q1, q2, q3, q4⟩ := EB.out
    rw [q1, q2, q3, q4]
    refine ⟨rfl, ?_⟩
    exact (FZ.out.setCell (by simp <;> omega) _).setCell (by simp <;> omega) _
  have EB := Lib.hid (EG.out hn)
  have hn1 : ¬ 100 < N := by omega
  clear hn EL
  go_enter Try.func22, Try.ntmps22
  go_upto_region 1 with (fail)
  have bC : BoxF (((w.alloc (.cells #[.int .i64 c, .int .i64 l, .int .i64 h, .int .i64 p, .int .i64 s] 48)).alloc (.cells #[.int .i64 P, .int .i64 o] 45)).alloc (.cells #[.int .i64 0, .int .i64 0] 45)) w.heap.size #[.int .i64 c, .int .i64 l, .int .i64 h, .int .i64 p, .int .i64 s] := boxF5 (by simp [go_sem]) (by simp [go_sem]) (by simp [go_sem]) (by simp [go_sem]) (by simp [go_sem])
  have bL : BoxF (((w.alloc (.cells #[.int .i64 c, .int .i64 l, .int .i64 h, .int .i64 p, .int .i64 s] 48)).alloc (.cells #[.int .i64 P, .int .i64 o] 45)).alloc (.cells #[.int .i64 0, .int .i64 0] 45)) (w.heap.size + 1) #[.int .i64 P, .int .i64 o] := boxF2 (by simp [go_sem]) (by simp [go_sem])
  have bR : BoxF (((w.alloc (.cells #[.int .i64 c, .int .i64 l, .int .i64 h, .int .i64 p, .int .i64 s] 48)).alloc (.cells #[.int .i64 P, .int .i64 o] 45)).alloc (.cells #[.int .i64 0, .int .i64 0] 45)) (w.heap.size + 1 + 1) #[.int .i64 0, .int .i64 0] := boxF2 (by simp [go_sem]) (by simp [go_sem])
  have FB := Lib.hid (show Below w.heap.size w (((w.alloc (.cells #[.int .i64 c, .int .i64 l, .int .i64 h, .int .i64 p, .int .i64 s] 48)).alloc (.cells #[.int .i64 P, .int .i64 o] 45)).alloc (.cells #[.int .i64 0, .int .i64 0] 45)) by go_grown)
  have hlt2 : w.heap.size + 1 + 1 < (((w.alloc (.cells #[.int .i64 c, .int .i64 l, .int .i64 h, .int .i64 p, .int .i64 s] 48)).alloc (.cells #[.int .i64 P, .int .i64 o] 45)).alloc (.cells #[.int .i64 0, .int .i64 0] 45)).heap.size := by simp
  generalize (((w.alloc (.cells #[.int .i64 c, .int .i64 l, .int .i64 h, .int .i64 p, .int .i64 s] 48)).alloc (.cells #[.int .i64 P, .int .i64 o] 45)).alloc (.cells #[.int .i64 0, .int .i64 0] 45)) = W at *
  have hlt1 : w.heap.size + 1 < W.heap.size := by omega
  have hlt0 : w.heap.size < W.heap.size := by omega
  have BC := Lib.hid (fun w' (hb : Below W.heap.size W w') => (bC.below hb hlt0).box)
  have BL := Lib.hid (fun w' (hb : Below W.heap.size W w') => (bL.below hb hlt1).box)
  have BR := Lib.hid (fun w' (hb : Below W.heap.size W w') => bR.below hb hlt2)
  have KS := Lib.hid (fun w' (hb : Below W.heap.size W w') => (show w'.cell? ⟨w.heap.size, 0, none⟩ = some (.int .i64 c) ∧ w'.cell? ⟨w.heap.size, 1, none⟩ = some (.int .i64 l) ∧ w'.cell? ⟨w.heap.size, 2, none⟩ = some (.int .i64 h) ∧ w'.cell? ⟨w.heap.size, 3, none⟩ = some (.int .i64 p) ∧ w'.cell? ⟨w.heap.size, 4, none⟩ = some (.int .i64 s) ∧ w'.cell? ⟨w.heap.size + 1, 0, none⟩ = some (.int .i64 P) ∧ w'.cell? ⟨w.heap.size + 1, 1, none⟩ = some (.int .i64 o) from ⟨BC.out w' hb 0 _ rfl, BC.out w' hb 1 _ rfl, BC.out w' hb 2 _ rfl, BC.out w' hb 3 _ rfl, BC.out w' hb 4 _ rfl, BL.out w' hb 0 _ rfl, BL.out w' hb 1 _ rfl⟩))
  have HC := Lib.hid (show Below W.heap.size W W.drew from (Below.refl _ _).drew)
  clear bC bL bR
  refine wp_region_held_drew (S := (fun w' => w'.cell? ⟨w.heap.size, 0, none⟩ = some (.int .i64 c) ∧ w'.cell? ⟨w.heap.size, 1, none⟩ = some (.int .i64 l) ∧ w'.cell? ⟨w.heap.size, 2, none⟩ = some (.int .i64 h) ∧ w'.cell? ⟨w.heap.size, 3, none⟩ = some (.int .i64 p) ∧ w'.cell? ⟨w.heap.size, 4, none⟩ = some (.int .i64 s) ∧ w'.cell? ⟨w.heap.size + 1, 0, none⟩ = some (.int .i64 P) ∧ w'.cell? ⟨w.heap.size + 1, 1, none⟩ = some (.int .i64 o))) (by kernel_rfl) (KS.out _ HC.out) (fun hHeld => ?_)
  refine wpAnyH_take (i := 0) (oi := { dst := some 11, op := Op.load 48 (Operand.tmp 3), type := 48, pos := "l03_clock.go:135", after := #[], guard := none }) (v := ?_) rfl (by kernel_rfl) (by kernel_rfl) (by kernel_rfl) (fun _ _ _ h => h) (Or.inl ⟨by rfl, ?hy⟩) hHeld ?_
  case hy => (intro w' hSw; (try dsimp only at hSw); go_simp; try with_reducible rfl)
  simp only [Act.put, List.setIfInBounds_toArray, List.set_cons_zero, List.set_cons_succ]
  refine wpAnyH_ready (rs := [1]) (by kernel_rfl) (by simp) ?_
  refine AllReadyH.cons (o := { dst := some 12, op := Op.call { callee := Callee.value (Operand.func 48), args := #[Operand.tmp 11], argTypes := #[48] }, type := 4, pos := "l03_clock.go:135", after := #[{ on := 0, ground := Ground.data }], guard := none }) rfl (fun K hK => ?_) AllReadyH.nil
  go_simp
  go_at_call 48; refine (VC.out _).mono ?_; rintro e w2 ⟨rfl, hb2⟩; replace HC := Lib.hid (HC.out.trans (hb2.mono HC.out.size))
  go_wp2_with fail
  refine hK.out _ _ (KS.out _ HC.out) (fun hHeld => ?_)
  clear hK K
  try simp only [Act.put, List.setIfInBounds_toArray, List.set_cons_zero, List.set_cons_succ]
  refine wpAnyH_take (i := 2) (oi := { dst := some 13, op := Op.unOp UnOp.not 4 (Operand.tmp 12), type := 4, pos := "l03_clock.go:135", after := #[{ on := 1, ground := Ground.data }], guard := none }) (v := ?_) rfl (by kernel_rfl) (by kernel_rfl) (by kernel_rfl) (fun _ _ _ h => h) (Or.inl ⟨by rfl, ?hy⟩) hHeld ?_
  case hy => (intro w' hSw; (try dsimp only at hSw); go_simp; try with_reducible rfl)
  simp only [Act.put, List.setIfInBounds_toArray, List.set_cons_zero, List.set_cons_succ]
  refine wpAnyH_take (i := 3) (oi := { dst := some 14, op := Op.move (Operand.tmp 13), type := 4, pos := "l03_clock.go:135", after := #[{ on := 2, ground := Ground.data }, { on := 1, ground := Ground.chain }], guard := none }) (v := ?_) rfl (by kernel_rfl) (by kernel_rfl) (by kernel_rfl) (fun _ _ _ h => h) (Or.inl ⟨by rfl, ?hy⟩) hHeld ?_
  case hy => (intro w' hSw; (try dsimp only at hSw); go_simp; try with_reducible rfl)
  simp only [Act.put, List.setIfInBounds_toArray, List.set_cons_zero, List.set_cons_succ]
  refine wpAnyH_take (i := 4) (oi := { dst := some 15, op := Op.load 45 (Operand.tmp 4), type := 45, pos := "l03_clock.go:135", after := #[{ on := 3, ground := Ground.guard }], guard := some (3, false) }) (v := ?_) rfl (by kernel_rfl) (by kernel_rfl) (by kernel_rfl) (fun _ _ _ h => h) (Or.inl ⟨by rfl, ?hy⟩) hHeld ?_
  case hy => (intro w' hSw; (try dsimp only at hSw); go_simp; try with_reducible rfl)
  simp only [Act.put, List.setIfInBounds_toArray, List.set_cons_zero, List.set_cons_succ]
  refine wpAnyH_take (i := 5) (oi := { dst := some 16, op := Op.load 48 (Operand.tmp 3), type := 48, pos := "l03_clock.go:135", after := #[{ on := 3, ground := Ground.guard }], guard := some (3, false) }) (v := ?_) rfl (by kernel_rfl) (by kernel_rfl) (by kernel_rfl) (fun _ _ _ h => h) (Or.inl ⟨by rfl, ?hy⟩) hHeld ?_
  case hy => (intro w' hSw; (try dsimp only at hSw); go_simp; try with_reducible rfl)
  simp only [Act.put, List.setIfInBounds_toArray, List.set_cons_zero, List.set_cons_succ]
  refine wpAnyH_take (i := 6) (oi := { dst := some 17, op := Op.load 45 (Operand.tmp 4), type := 45, pos := "l03_clock.go:135", after := #[{ on := 3, ground := Ground.guard }], guard := some (3, false) }) (v := ?_) rfl (by kernel_rfl) (by kernel_rfl) (by kernel_rfl) (fun _ _ _ h => h) (Or.inl ⟨by rfl, ?hy⟩) hHeld ?_
  case hy => (intro w' hSw; (try dsimp only at hSw); go_simp; try with_reducible rfl)
  simp only [Act.put, List.setIfInBounds_toArray, List.set_cons_zero, List.set_cons_succ]
  refine wpAnyH_ready (rs := [7]) (by kernel_rfl) (by simp) ?_
  refine AllReadyH.cons (o := { dst := some 18, op := Op.call { callee := Callee.value (Operand.func 49), args := #[Operand.tmp 16, Operand.tmp 17], argTypes := #[48, 45] }, type := 45, pos := "l03_clock.go:135", after := #[{ on := 5, ground := Ground.data }, { on := 6, ground := Ground.data }, { on := 3, ground := Ground.chain }, { on := 3, ground := Ground.guard }], guard := some (3, false) }) rfl (fun K hK => ?_) AllReadyH.nil
  go_simp
  go_at_call 49; refine (BD.out _).mono ?_; rintro e w3 ⟨rfl, hb3⟩; replace HC := Lib.hid (HC.out.trans (hb3.mono HC.out.size))
  go_wp2_with fail
  refine hK.out _ _ (KS.out _ HC.out) (fun hHeld => ?_)
  clear hK K
  try simp only [Act.put, List.setIfInBounds_toArray, List.set_cons_zero, List.set_cons_succ]
  refine wpAnyH_take (i := 8) (oi := { dst := some 19, op := Op.binOp BinOp.neq 45 (Operand.tmp 15) (Operand.tmp 18) 45, type := 4, pos := "l03_clock.go:135", after := #[{ on := 4, ground := Ground.data }, { on := 7, ground := Ground.data }, { on := 3, ground := Ground.guard }], guard := some (3, false) }) (v := ?_) rfl (by kernel_rfl) (by kernel_rfl) (by kernel_rfl) (fun _ _ _ h => h) (Or.inl ⟨by rfl, ?hy⟩) hHeld ?_
  case hy => (intro w' hSw; (try dsimp only at hSw); go_simp; try with_reducible rfl)
  simp only [Act.put, List.setIfInBounds_toArray, List.set_cons_zero, List.set_cons_succ]
  refine wpAnyH_take (i := 9) (oi := { dst := some 20, op := Op.pick (Operand.tmp 14) (Operand.const (Value.bool true)) (Operand.tmp 19), type := 4, pos := "l03_clock.go:135", after := #[{ on := 3, ground := Ground.data }, { on := 8, ground := Ground.data }], guard := none }) (v := ?_) rfl (by kernel_rfl) (by kernel_rfl) (by kernel_rfl) (fun _ _ _ h => h) (Or.inl ⟨by rfl, ?hy⟩) hHeld ?_
  case hy => (intro w' hSw; (try dsimp only at hSw); go_simp; try with_reducible rfl)
  simp only [Act.put, List.setIfInBounds_toArray, List.set_cons_zero, List.set_cons_succ]
  refine wpAnyH_take (i := 10) (oi := { dst := some 21, op := Op.move (Operand.tmp 20), type := 4, pos := "l03_clock.go:135", after := #[{ on := 9, ground := Ground.data }, { on := 7, ground := Ground.chain }], guard := none }) (v := ?_) rfl (by kernel_rfl) (by kernel_rfl) (by kernel_rfl) (fun _ _ _ h => h) (Or.inl ⟨by rfl, ?hy⟩) hHeld ?_
  case hy => (intro w' hSw; (try dsimp only at hSw); go_simp; try with_reducible rfl)
  simp only [Act.put, List.setIfInBounds_toArray, List.set_cons_zero, List.set_cons_succ]
  refine wpAnyH_take (i := 11) (oi := { dst := some 22, op := Op.move (Operand.tmp 2), type := 2, pos := "l03_clock.go:135", after := #[{ on := 10, ground := Ground.guard }], guard := some (10, false) }) (v := ?_) rfl (by kernel_rfl) (by kernel_rfl) (by kernel_rfl) (fun _ _ _ h => h) (Or.inl ⟨by rfl, ?hy⟩) hHeld ?_
  case hy => (intro w' hSw; (try dsimp only at hSw); go_simp; try with_reducible rfl)
  simp only [Act.put, List.setIfInBounds_toArray, List.set_cons_zero, List.set_cons_succ]
  refine wpAnyH_ready (rs := [12]) (by kernel_rfl) (by simp) ?_
  refine AllReadyH.cons (o := { dst := some 23, op := Op.buildSlice 30 1 #[(0, Operand.tmp 22)], type := 30, pos := "l03_clock.go:135", after := #[{ on := 11, ground := Ground.data }, { on := 10, ground := Ground.guard }], guard := some (10, false) }) rfl (fun K hK => ?_) AllReadyH.nil
  replace HC := Lib.hid (HC.out.alloc HC.out.size (.cells #[.int .i64 gap] 2))
  go_simp
  refine hK.out _ _ (KS.out _ HC.out) (fun hHeld => ?_)
  clear hK K
  try simp only [Act.put, List.setIfInBounds_toArray, List.set_cons_zero, List.set_cons_succ]
  refine wpAnyH_ready (rs := [13]) (by kernel_rfl) (by simp) ?_
  refine AllReadyH.cons (o := { dst := some 24, op := Op.call { callee := Callee.value (Operand.func 41), args := #[Operand.const (Value.int IntKind.i64 1), Operand.const (Value.int IntKind.i64 2000000), Operand.tmp 23], argTypes := #[2, 2, 30] }, type := 4, pos := "l03_clock.go:135", after := #[{ on := 12, ground := Ground.data }, { on := 10, ground := Ground.chain }, { on := 10, ground := Ground.guard }], guard := some (10, false) }) rfl (fun K hK => ?_) AllReadyH.nil
  go_simp
  go_at_call 41; refine (WI.out _ _ _ rfl).mono ?_; rintro e _ ⟨rfl, rfl⟩
  go_wp2_with fail
  refine hK.out _ _ (KS.out _ HC.out) (fun hHeld => ?_)
  clear hK K
  try simp only [Act.put, List.setIfInBounds_toArray, List.set_cons_zero, List.set_cons_succ]
  refine wpAnyH_take (i := 14) (oi := { dst := some 25, op := Op.unOp UnOp.not 4 (Operand.tmp 24), type := 4, pos := "l03_clock.go:135", after := #[{ on := 13, ground := Ground.data }, { on := 10, ground := Ground.guard }], guard := some (10, false) }) (v := ?_) rfl (by kernel_rfl) (by kernel_rfl) (by kernel_rfl) (fun _ _ _ h => h) (Or.inl ⟨by rfl, ?hy⟩) hHeld ?_
  case hy => (intro w' hSw; (try dsimp only at hSw); go_simp; try with_reducible rfl)
  simp only [Act.put, List.setIfInBounds_toArray, List.set_cons_zero, List.set_cons_succ]
  refine wpAnyH_take (i := 15) (oi := { dst := some 26, op := Op.pick (Operand.tmp 21) (Operand.const (Value.bool true)) (Operand.tmp 25), type := 4, pos := "l03_clock.go:135", after := #[{ on := 10, ground := Ground.data }, { on := 14, ground := Ground.data }], guard := none }) (v := ?_) rfl (by kernel_rfl) (by kernel_rfl) (by kernel_rfl) (fun _ _ _ h => h) (Or.inl ⟨by rfl, ?hy⟩) hHeld ?_
  case hy => (intro w' hSw; (try dsimp only at hSw); go_simp; try with_reducible rfl)
  simp only [Act.put, List.setIfInBounds_toArray, List.set_cons_zero, List.set_cons_succ]
  refine wpAnyH_done (by kernel_rfl) ?_ _
  have cC0 := BC.out _ HC.out 0 _ rfl
  have cC1 := BC.out _ HC.out 1 _ rfl
  have cC2 := BC.out _ HC.out 2 _ rfl
  have cC3 := BC.out _ HC.out 3 _ rfl
  have cC4 := BC.out _ HC.out 4 _ rfl
  have cL0 := BL.out _ HC.out 0 _ rfl
  have cL1 := BL.out _ HC.out 1 _ rfl
  go_wp2_with fail
  refine (SR.out _).mono ?_
  rintro e w5 ⟨rfl, hb5⟩
  replace HC := Lib.hid (HC.out.trans (hb5.mono HC.out.size))
  clear cC0 cC1 cC2 cC3 cC4 cL0 cL1 hb5
  go_upto_region 4 with (fail)
  have bN : BoxF ((w5.alloc (.cells #[.int .i64 N, .int .i64 E] 86)).alloc (.cells #[.int .i64 Q1, .int .i64 Q2] 45)) w5.heap.size #[.int .i64 N, .int .i64 E] := boxF2 (by simp [go_sem]) (by simp [go_sem])
  have bQ : BoxF ((w5.alloc (.cells #[.int .i64 N, .int .i64 E] 86)).alloc (.cells #[.int .i64 Q1, .int .i64 Q2] 45)) (w5.heap.size + 1) #[.int .i64 Q1, .int .i64 Q2] := boxF2 (by simp [go_sem]) (by simp [go_sem])
  have hc9 : Below W.heap.size W ((w5.alloc (.cells #[.int .i64 N, .int .i64 E] 86)).alloc (.cells #[.int .i64 Q1, .int .i64 Q2] 45)) := (HC.out.alloc HC.out.size _).alloc (by have := HC.out.size; simp; omega) _
  have h59 := HC.out.size
  generalize ((w5.alloc (.cells #[.int .i64 N, .int .i64 E] 86)).alloc (.cells #[.int .i64 Q1, .int .i64 Q2] 45)) = w6 at *
  obtain ⟨xR0, yR0⟩ := BR.out _ hc9 0 _ rfl
  obtain ⟨xR1, yR1⟩ := BR.out _ hc9 1 _ rfl
  obtain ⟨xN0, yN0⟩ := bN 0 _ rfl
  obtain ⟨xQ0, yQ0⟩ := bQ 0 _ rfl
  obtain ⟨xQ1, yQ1⟩ := bQ 1 _ rfl
  have FZ := Lib.hid (FB.out.trans (hc9.mono (by omega)))
  have hzR := Nat.lt_of_lt_of_le hlt2 hc9.size
  clear bN bQ hc9
  go_wp2
  go_region
  all_goals
    go_wp2
    refine bodyPost_ret (v := .tuple #[.int .i64 N, .agg #[.int .i64 Q1, .int .i64 Q2], .int .i64 0]) (by simp [results, Try.results22, go_sem, xR0, yR0, xR1, yR1]) rfl ?_
    obtain ⟨q1, q2, q3, q4⟩ := EB.out
    rw [q1, q2, q3, q4]
    refine ⟨rfl, ?_⟩
    first | exact ((FZ.out.setCell (by simp <;> omega) _).setCell (by simp <;> omega) _).drew | exact ((FZ.out.drew).setCell (by simp <;> omega) _).setCell (by simp <;> omega) _
end Go.Proofs.Ytidedgcmpkahgaa
