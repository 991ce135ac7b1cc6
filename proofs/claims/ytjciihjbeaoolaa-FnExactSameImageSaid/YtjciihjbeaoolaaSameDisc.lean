/- impl.SameDisc, spec.l12Alike, spec.l12Same, spec.SameDisc -/
import Derived.Test.YtjciihjbeaoolaaDiscValid
import Derived.Test.YtjciihjbeaoolaaEqSector
import Derived.Test.YtjciihjbeaoolaaDiscOkN
import Derived.Deep.RegionHeld3
import Derived.BigRegion
import Derived.BigQuiet
import Derived.Deep.QuietTactic
namespace Go.Proofs.Ytjciihjbeaoolaa
open Go.RowKit
set_option linter.unusedVariables false
set_option linter.unusedSimpArgs false
set_option maxRecDepth 20000
noncomputable def sameDiscB (x y : DiscV) : Bool := @decide (x = y) (Classical.propDecidable _)
theorem sameDiscB_iff {x y : DiscV} : sameDiscB x y = true ↔ x = y := by unfold sameDiscB; simp
theorem sameDiscB_no {x y : DiscV} (h : ¬ x = y) : sameDiscB x y = false := by
  cases hb : sameDiscB x y with
  | false => rfl
  | true => exact absurd (sameDiscB_iff.1 hb) h
def sameGeo (a b c d a' b' c' d' : Int) : Bool := decide (a = a') && (decide (b = b') && (decide (c = c') && decide (d = d')))
theorem sameGeo_iff {a b c d a' b' c' d' : Int} : sameGeo a b c d a' b' c' d' = true ↔ a = a' ∧ b = b' ∧ c = c' ∧ d = d' := by
  unfold sameGeo; simp
theorem heldGeo : Try.prog.stoodInHeld 133 = false := by kernel_rfl
theorem eqlGeo (a b c d a' b' c' d' : Int) (w : World) : (binOp .eql 133 (.agg #[.int .i64 a, .int .i64 b, .int .i64 c, .int .i64 d]) (.agg #[.int .i64 a', .int .i64 b', .int .i64 c', .int .i64 d'])).run Try.prog w = .ok (.bool (sameGeo a b c d a' b' c' d')) w := by
  rw [run_eql_struct]
  have e := run_equalIn_struct (P := Try.prog) w 9999 133 #[.int .i64 a, .int .i64 b, .int .i64 c, .int .i64 d] #[.int .i64 a', .int .i64 b', .int .i64 c', .int .i64 d'] (by kernel_rfl) heldGeo
  rw [e]
  simp only [Program.fieldsOf, Try.underlying133]
  simp [Op.eqFields, go_sem, Try.underlying2]
  unfold sameGeo
  by_cases h0 : a = a'
  case neg => simp [h0]
  by_cases h1 : b = b'
  case neg => simp [h0, h1]
  by_cases h2 : c = c'
  case neg => simp [h0, h1, h2]
  by_cases h3 : d = d'
  case neg => simp [h0, h1, h2, h3]
  simp [h0, h1, h2, h3]
theorem fieldGeo (a b c d : Int) (v : Value) (w : World) : (Instr.field 135 (.agg #[.int .i64 a, .int .i64 b, .int .i64 c, .int .i64 d, v]) 0).run Try.prog w = .ok (.agg #[.int .i64 a, .int .i64 b, .int .i64 c, .int .i64 d]) w := by kernel_rfl
theorem sameDisc_geo {x y : DiscV} (h : sameGeo x.f0 x.f1 x.f2 x.f3 y.f0 y.f1 y.f2 y.f3 = false) : sameDiscB x y = false := sameDiscB_no (fun e => by
  subst e
  rw [sameGeo_iff.2 ⟨rfl, rfl, rfl, rfl⟩] at h
  cases h)
theorem sameDisc_list {x y : DiscV} {q : Bool} (h : sameGeo x.f0 x.f1 x.f2 x.f3 y.f0 y.f1 y.f2 y.f3 = true) (hq : q = true ↔ x.f4 = y.f4) : sameDiscB x y = q := by
  obtain ⟨e0, e1, e2, e3⟩ := sameGeo_iff.1 h
  cases q with
  | true => exact sameDiscB_iff.2 (DiscV.ext' ⟨e0, e1, e2, e3, hq.1 rfl⟩)
  | false => exact sameDiscB_no (fun e => absurd (hq.2 (by rw [e])) (by simp))
set_option maxHeartbeats 8000000 in
theorem sameDisc_g (x : DiscV) (a : Option Addr) (c : Nat) (y : DiscV) (b : Option Addr) (d : Nat) (hx : x.f4.length ≤ 1048576) (hv : ∀ e ∈ x.f4, e.f0.size ≤ 1048576) (hy : y.f4.length ≤ 1048576) (hv2 : ∀ e ∈ y.f4, e.f0.size ≤ 1048576) (w : World) (h1 : SlS rowSector w a x.f4) (h2 : SlS rowSector w b y.f4) :
    Calls Try.prog 72 #[.agg #[.int .i64 x.f0, .int .i64 x.f1, .int .i64 x.f2, .int .i64 x.f3, .slice a x.f4.length c], .agg #[.int .i64 y.f0, .int .i64 y.f1, .int .i64 y.f2, .int .i64 y.f3, .slice b y.f4.length d]] w fun e w' => e = .returned (.bool (sameDiscB x y)) ∧ Below w.heap.size w w' := by
  obtain ⟨q, hq⟩ : ∃ q : Bool, q = true ↔ x.f4 = y.f4 := ⟨@decide (x.f4 = y.f4) (Classical.propDecidable _), by simp⟩
  have SE := Lib.hid (fun w' (hb : Below w.heap.size w w') => slicesEqualSector_any q a b x.f4 y.f4 c d w' hq (by omega) (by omega) (h1.below hb (Nat.le_refl _)) (h2.below hb (Nat.le_refl _)))
  have SX := Lib.hid (fun w => shaped_any x a c w)
  have SY := Lib.hid (fun w => shaped_any y b d w)
  have EG := fun w => eqlGeo x.f0 x.f1 x.f2 x.f3 y.f0 y.f1 y.f2 y.f3 w
  clear h1 h2 hv hv2
  cases hg : sameGeo x.f0 x.f1 x.f2 x.f3 y.f0 y.f1 y.f2 y.f3 with
  | false =>
    rw [sameDisc_geo hg]
    rw [hg] at EG
    obtain ⟨f0, f1, f2, f3, fs⟩ := x
    obtain ⟨g0, g1, g2, g3, gs⟩ := y
    dsimp only at *
    have FX := fun w => fieldGeo f0 f1 f2 f3 (.slice a fs.length c) w
    have FY := fun w => fieldGeo g0 g1 g2 g3 (.slice b gs.length d) w
    clear hg hq
    go_enter Try.func72, Try.ntmps72
    go_wp2
    have BX := (BoxAt.new w #[.int .i64 f0, .int .i64 f1, .int .i64 f2, .int .i64 f3, .slice a fs.length c] 32 _ rfl).alloc (.cells #[.int .i64 g0, .int .i64 g1, .int .i64 g2, .int .i64 g3, .slice b gs.length d] 32) (by simp)
    have BY := BoxAt.new (w.alloc (.cells #[.int .i64 f0, .int .i64 f1, .int .i64 f2, .int .i64 f3, .slice a fs.length c] 32)) #[.int .i64 g0, .int .i64 g1, .int .i64 g2, .int .i64 g3, .slice b gs.length d] 32 (w.heap.size + 1) (by simp)
    generalize hW : (w.alloc (.cells #[.int .i64 f0, .int .i64 f1, .int .i64 f2, .int .i64 f3, .slice a fs.length c] 32)).alloc (.cells #[.int .i64 g0, .int .i64 g1, .int .i64 g2, .int .i64 g3, .slice b gs.length d] 32) = W at *
    have FB := Lib.hid (show Below w.heap.size w W by rw [← hW]; go_grown)
    have hlt : w.heap.size + 1 < W.heap.size := by rw [← hW]; simp
    have hlt0 : w.heap.size < W.heap.size := by omega
    clear hW
    have KS := Lib.hid (fun w' (hb : Below W.heap.size W w') => (show w'.cell? ⟨w.heap.size, 0, none⟩ = some (.int .i64 f0) ∧ w'.cell? ⟨w.heap.size, 1, none⟩ = some (.int .i64 f1) ∧ w'.cell? ⟨w.heap.size, 2, none⟩ = some (.int .i64 f2) ∧ w'.cell? ⟨w.heap.size, 3, none⟩ = some (.int .i64 f3) ∧ w'.cell? ⟨w.heap.size, 4, none⟩ = some (.slice a fs.length c) ∧ w'.cell? ⟨w.heap.size + 1, 0, none⟩ = some (.int .i64 g0) ∧ w'.cell? ⟨w.heap.size + 1, 1, none⟩ = some (.int .i64 g1) ∧ w'.cell? ⟨w.heap.size + 1, 2, none⟩ = some (.int .i64 g2) ∧ w'.cell? ⟨w.heap.size + 1, 3, none⟩ = some (.int .i64 g3) ∧ w'.cell? ⟨w.heap.size + 1, 4, none⟩ = some (.slice b gs.length d) from ⟨(BX.below hb hlt0) 0 _ rfl, (BX.below hb hlt0) 1 _ rfl, (BX.below hb hlt0) 2 _ rfl, (BX.below hb hlt0) 3 _ rfl, (BX.below hb hlt0) 4 _ rfl, (BY.below hb hlt) 0 _ rfl, (BY.below hb hlt) 1 _ rfl, (BY.below hb hlt) 2 _ rfl, (BY.below hb hlt) 3 _ rfl, (BY.below hb hlt) 4 _ rfl⟩))
    have HC := Lib.hid (show Below W.heap.size W W.drew from (Below.refl _ _).drew)
    clear BX BY
    refine wp_region_held_drew (S := (fun w' => w'.cell? ⟨w.heap.size, 0, none⟩ = some (.int .i64 f0) ∧ w'.cell? ⟨w.heap.size, 1, none⟩ = some (.int .i64 f1) ∧ w'.cell? ⟨w.heap.size, 2, none⟩ = some (.int .i64 f2) ∧ w'.cell? ⟨w.heap.size, 3, none⟩ = some (.int .i64 f3) ∧ w'.cell? ⟨w.heap.size, 4, none⟩ = some (.slice a fs.length c) ∧ w'.cell? ⟨w.heap.size + 1, 0, none⟩ = some (.int .i64 g0) ∧ w'.cell? ⟨w.heap.size + 1, 1, none⟩ = some (.int .i64 g1) ∧ w'.cell? ⟨w.heap.size + 1, 2, none⟩ = some (.int .i64 g2) ∧ w'.cell? ⟨w.heap.size + 1, 3, none⟩ = some (.int .i64 g3) ∧ w'.cell? ⟨w.heap.size + 1, 4, none⟩ = some (.slice b gs.length d))) (by kernel_rfl) (KS.out _ HC.out) (fun hHeld => ?_)
    refine wpAnyH_take (i := 0) (oi := { dst := some 5, op := Op.load 32 (Operand.tmp 2), type := 32, pos := "l12_discs.go:145", after := #[], guard := none }) (v := ?_) rfl (by kernel_rfl) (by kernel_rfl) (by kernel_rfl) (fun _ _ _ h => h) (Or.inl ⟨by rfl, ?hy⟩) hHeld ?_
    case hy => (intro w' hSw; (try dsimp only at hSw); go_simp; try with_reducible rfl)
    simp only [Act.put, List.setIfInBounds_toArray, List.set_cons_zero, List.set_cons_succ]
    refine wpAnyH_take (i := 3) (oi := { dst := some 8, op := Op.load 32 (Operand.tmp 3), type := 32, pos := "l12_discs.go:145", after := #[], guard := none }) (v := ?_) rfl (by kernel_rfl) (by kernel_rfl) (by kernel_rfl) (fun _ _ _ h => h) (Or.inl ⟨by rfl, ?hy⟩) hHeld ?_
    case hy => (intro w' hSw; (try dsimp only at hSw); go_simp; try with_reducible rfl)
    simp only [Act.put, List.setIfInBounds_toArray, List.set_cons_zero, List.set_cons_succ]
    refine wpAnyH_ready (rs := [1]) (by kernel_rfl) (by simp) ?_
    refine AllReadyH.cons (o := { dst := some 6, op := Op.call { callee := Callee.value (Operand.func 86), args := #[Operand.tmp 5], argTypes := #[32] }, type := 135, pos := "l12_discs.go:145", after := #[{ on := 0, ground := Ground.data }], guard := none }) rfl (fun K hK => ?_) AllReadyH.nil
    go_simp
    go_at_call 86; refine (SX.out _).mono ?_; rintro e w2 ⟨rfl, hb2⟩; replace HC := Lib.hid (HC.out.trans (hb2.mono HC.out.size))
    go_wp2_with fail
    refine hK.out _ _ (KS.out _ HC.out) (fun hHeld => ?_)
    clear hK K
    try simp only [Act.put, List.setIfInBounds_toArray, List.set_cons_zero, List.set_cons_succ]
    refine wpAnyH_take (i := 2) (oi := { dst := some 7, op := Op.field 135 (Operand.tmp 6) 0, type := 133, pos := "l12_discs.go:145", after := #[{ on := 1, ground := Ground.data }], guard := none }) (v := ?_) rfl (by kernel_rfl) (by kernel_rfl) (by kernel_rfl) (fun _ _ _ h => h) (Or.inl ⟨by rfl, ?hy⟩) hHeld ?_
    case hy => (intro w' hSw; (try dsimp only at hSw); go_simp; try with_reducible rfl)
    simp only [Act.put, List.setIfInBounds_toArray, List.set_cons_zero, List.set_cons_succ]
    refine wpAnyH_ready (rs := [4]) (by kernel_rfl) (by simp) ?_
    refine AllReadyH.cons (o := { dst := some 9, op := Op.call { callee := Callee.value (Operand.func 86), args := #[Operand.tmp 8], argTypes := #[32] }, type := 135, pos := "l12_discs.go:145", after := #[{ on := 3, ground := Ground.data }, { on := 1, ground := Ground.chain }], guard := none }) rfl (fun K hK => ?_) AllReadyH.nil
    go_simp
    go_at_call 86; refine (SY.out _).mono ?_; rintro e w3 ⟨rfl, hb3⟩; replace HC := Lib.hid (HC.out.trans (hb3.mono HC.out.size))
    go_wp2_with fail
    refine hK.out _ _ (KS.out _ HC.out) (fun hHeld => ?_)
    clear hK K
    try simp only [Act.put, List.setIfInBounds_toArray, List.set_cons_zero, List.set_cons_succ]
    refine wpAnyH_take (i := 5) (oi := { dst := some 10, op := Op.field 135 (Operand.tmp 9) 0, type := 133, pos := "l12_discs.go:145", after := #[{ on := 4, ground := Ground.data }], guard := none }) (v := ?_) rfl (by kernel_rfl) (by kernel_rfl) (by kernel_rfl) (fun _ _ _ h => h) (Or.inl ⟨by rfl, ?hy⟩) hHeld ?_
    case hy => (intro w' hSw; (try dsimp only at hSw); go_simp; try with_reducible rfl)
    simp only [Act.put, List.setIfInBounds_toArray, List.set_cons_zero, List.set_cons_succ]
    refine wpAnyH_take (i := 6) (oi := { dst := some 11, op := Op.binOp BinOp.eql 133 (Operand.tmp 7) (Operand.tmp 10) 133, type := 4, pos := "l12_discs.go:145", after := #[{ on := 2, ground := Ground.data }, { on := 5, ground := Ground.data }], guard := none }) (v := ?_) rfl (by kernel_rfl) (by kernel_rfl) (by kernel_rfl) (fun _ _ _ h => h) (Or.inl ⟨by rfl, ?hy⟩) hHeld ?_
    case hy => (intro w' hSw; (try dsimp only at hSw); go_simp; try with_reducible rfl)
    simp only [Act.put, List.setIfInBounds_toArray, List.set_cons_zero, List.set_cons_succ]
    refine wpAnyH_take (i := 7) (oi := { dst := some 12, op := Op.move (Operand.tmp 11), type := 4, pos := "l12_discs.go:145", after := #[{ on := 6, ground := Ground.data }, { on := 4, ground := Ground.chain }], guard := none }) (v := ?_) rfl (by kernel_rfl) (by kernel_rfl) (by kernel_rfl) (fun _ _ _ h => h) (Or.inl ⟨by rfl, ?hy⟩) hHeld ?_
    case hy => (intro w' hSw; (try dsimp only at hSw); go_simp; try with_reducible rfl)
    simp only [Act.put, List.setIfInBounds_toArray, List.set_cons_zero, List.set_cons_succ]
    refine wpAnyH_take (i := 8) (oi := { dst := some 13, op := Op.fieldAddr 32 (Operand.tmp 2) 4, type := 0, pos := "l12_discs.go:145", after := #[{ on := 7, ground := Ground.guard }], guard := some (7, true) }) (v := undef) rfl (by kernel_rfl) (by kernel_rfl) (by kernel_rfl) (fun _ _ _ h => h) (Or.inr ⟨by rfl, rfl⟩) hHeld ?_
    simp only [Act.put, List.setIfInBounds_toArray, List.set_cons_zero, List.set_cons_succ]
    refine wpAnyH_take (i := 9) (oi := { dst := some 14, op := Op.load 30 (Operand.tmp 13), type := 30, pos := "l12_discs.go:145", after := #[{ on := 8, ground := Ground.data }, { on := 7, ground := Ground.guard }], guard := some (7, true) }) (v := undef) rfl (by kernel_rfl) (by kernel_rfl) (by kernel_rfl) (fun _ _ _ h => h) (Or.inr ⟨by rfl, rfl⟩) hHeld ?_
    simp only [Act.put, List.setIfInBounds_toArray, List.set_cons_zero, List.set_cons_succ]
    refine wpAnyH_take (i := 10) (oi := { dst := some 15, op := Op.fieldAddr 32 (Operand.tmp 3) 4, type := 0, pos := "l12_discs.go:145", after := #[{ on := 7, ground := Ground.guard }], guard := some (7, true) }) (v := undef) rfl (by kernel_rfl) (by kernel_rfl) (by kernel_rfl) (fun _ _ _ h => h) (Or.inr ⟨by rfl, rfl⟩) hHeld ?_
    simp only [Act.put, List.setIfInBounds_toArray, List.set_cons_zero, List.set_cons_succ]
    refine wpAnyH_take (i := 11) (oi := { dst := some 16, op := Op.load 30 (Operand.tmp 15), type := 30, pos := "l12_discs.go:145", after := #[{ on := 10, ground := Ground.data }, { on := 7, ground := Ground.guard }], guard := some (7, true) }) (v := undef) rfl (by kernel_rfl) (by kernel_rfl) (by kernel_rfl) (fun _ _ _ h => h) (Or.inr ⟨by rfl, rfl⟩) hHeld ?_
    simp only [Act.put, List.setIfInBounds_toArray, List.set_cons_zero, List.set_cons_succ]
    refine wpAnyH_take (i := 12) (oi := { dst := some 17, op := Op.call { callee := Callee.value (Operand.func 160), args := #[Operand.tmp 14, Operand.tmp 16], argTypes := #[30, 30] }, type := 4, pos := "l12_discs.go:145", after := #[{ on := 9, ground := Ground.data }, { on := 11, ground := Ground.data }, { on := 7, ground := Ground.chain }, { on := 7, ground := Ground.guard }], guard := some (7, true) }) (v := undef) rfl (by kernel_rfl) (by kernel_rfl) (by kernel_rfl) (fun _ _ _ h => h) (Or.inr ⟨by rfl, rfl⟩) hHeld ?_
    simp only [Act.put, List.setIfInBounds_toArray, List.set_cons_zero, List.set_cons_succ]
    refine wpAnyH_take (i := 13) (oi := { dst := some 18, op := Op.pick (Operand.tmp 12) (Operand.tmp 17) (Operand.const (Value.bool false)), type := 4, pos := "l12_discs.go:145", after := #[{ on := 7, ground := Ground.data }, { on := 12, ground := Ground.data }], guard := none }) (v := ?_) rfl (by kernel_rfl) (by kernel_rfl) (by kernel_rfl) (fun _ _ _ h => h) (Or.inl ⟨by rfl, ?hy⟩) hHeld ?_
    case hy => (intro w' hSw; (try dsimp only at hSw); go_simp; try with_reducible rfl)
    simp only [Act.put, List.setIfInBounds_toArray, List.set_cons_zero, List.set_cons_succ]
    refine wpAnyH_take (i := 14) (oi := { dst := some 4, op := Op.assign (Operand.tmp 18), type := 4, pos := "l12_discs.go:145", after := #[{ on := 13, ground := Ground.data }, { on := 12, ground := Ground.chain }, { on := 0, ground := Ground.phase }, { on := 1, ground := Ground.phase }, { on := 2, ground := Ground.phase }, { on := 3, ground := Ground.phase }, { on := 4, ground := Ground.phase }, { on := 5, ground := Ground.phase }, { on := 6, ground := Ground.phase }, { on := 7, ground := Ground.phase }, { on := 8, ground := Ground.phase }, { on := 9, ground := Ground.phase }, { on := 10, ground := Ground.phase }, { on := 11, ground := Ground.phase }, { on := 12, ground := Ground.phase }, { on := 13, ground := Ground.phase }], guard := none }) (v := ?_) rfl (by kernel_rfl) (by kernel_rfl) (by kernel_rfl) (fun _ _ _ h => h) (Or.inl ⟨by rfl, ?hy⟩) hHeld ?_
    case hy => (intro w' hSw; (try dsimp only at hSw); go_simp; try with_reducible rfl)
    simp only [Act.put, List.setIfInBounds_toArray, List.set_cons_zero, List.set_cons_succ]
    refine wpAnyH_done (by kernel_rfl) ?_ _
    go_wp2
    go_ret
    exact ⟨rfl, FB.out.trans (HC.out.mono FB.out.size)⟩
  | true =>
    rw [sameDisc_list hg hq]
    rw [hg] at EG
    obtain ⟨f0, f1, f2, f3, fs⟩ := x
    obtain ⟨g0, g1, g2, g3, gs⟩ := y
    dsimp only at *
    have FX := fun w => fieldGeo f0 f1 f2 f3 (.slice a fs.length c) w
    have FY := fun w => fieldGeo g0 g1 g2 g3 (.slice b gs.length d) w
    clear hg hq
    go_enter Try.func72, Try.ntmps72
    go_wp2
    have BX := (BoxAt.new w #[.int .i64 f0, .int .i64 f1, .int .i64 f2, .int .i64 f3, .slice a fs.length c] 32 _ rfl).alloc (.cells #[.int .i64 g0, .int .i64 g1, .int .i64 g2, .int .i64 g3, .slice b gs.length d] 32) (by simp)
    have BY := BoxAt.new (w.alloc (.cells #[.int .i64 f0, .int .i64 f1, .int .i64 f2, .int .i64 f3, .slice a fs.length c] 32)) #[.int .i64 g0, .int .i64 g1, .int .i64 g2, .int .i64 g3, .slice b gs.length d] 32 (w.heap.size + 1) (by simp)
    generalize hW : (w.alloc (.cells #[.int .i64 f0, .int .i64 f1, .int .i64 f2, .int .i64 f3, .slice a fs.length c] 32)).alloc (.cells #[.int .i64 g0, .int .i64 g1, .int .i64 g2, .int .i64 g3, .slice b gs.length d] 32) = W at *
    have FB := Lib.hid (show Below w.heap.size w W by rw [← hW]; go_grown)
    have hlt : w.heap.size + 1 < W.heap.size := by rw [← hW]; simp
    have hlt0 : w.heap.size < W.heap.size := by omega
    clear hW
    have KS := Lib.hid (fun w' (hb : Below W.heap.size W w') => (show w'.cell? ⟨w.heap.size, 0, none⟩ = some (.int .i64 f0) ∧ w'.cell? ⟨w.heap.size, 1, none⟩ = some (.int .i64 f1) ∧ w'.cell? ⟨w.heap.size, 2, none⟩ = some (.int .i64 f2) ∧ w'.cell? ⟨w.heap.size, 3, none⟩ = some (.int .i64 f3) ∧ w'.cell? ⟨w.heap.size, 4, none⟩ = some (.slice a fs.length c) ∧ w'.cell? ⟨w.heap.size + 1, 0, none⟩ = some (.int .i64 g0) ∧ w'.cell? ⟨w.heap.size + 1, 1, none⟩ = some (.int .i64 g1) ∧ w'.cell? ⟨w.heap.size + 1, 2, none⟩ = some (.int .i64 g2) ∧ w'.cell? ⟨w.heap.size + 1, 3, none⟩ = some (.int .i64 g3) ∧ w'.cell? ⟨w.heap.size + 1, 4, none⟩ = some (.slice b gs.length d) from ⟨(BX.below hb hlt0) 0 _ rfl, (BX.below hb hlt0) 1 _ rfl, (BX.below hb hlt0) 2 _ rfl, (BX.below hb hlt0) 3 _ rfl, (BX.below hb hlt0) 4 _ rfl, (BY.below hb hlt) 0 _ rfl, (BY.below hb hlt) 1 _ rfl, (BY.below hb hlt) 2 _ rfl, (BY.below hb hlt) 3 _ rfl, (BY.below hb hlt) 4 _ rfl⟩))
    have HC := Lib.hid (show Below W.heap.size W W.drew from (Below.refl _ _).drew)
    clear BX BY
    refine wp_region_held_drew (S := (fun w' => w'.cell? ⟨w.heap.size, 0, none⟩ = some (.int .i64 f0) ∧ w'.cell? ⟨w.heap.size, 1, none⟩ = some (.int .i64 f1) ∧ w'.cell? ⟨w.heap.size, 2, none⟩ = some (.int .i64 f2) ∧ w'.cell? ⟨w.heap.size, 3, none⟩ = some (.int .i64 f3) ∧ w'.cell? ⟨w.heap.size, 4, none⟩ = some (.slice a fs.length c) ∧ w'.cell? ⟨w.heap.size + 1, 0, none⟩ = some (.int .i64 g0) ∧ w'.cell? ⟨w.heap.size + 1, 1, none⟩ = some (.int .i64 g1) ∧ w'.cell? ⟨w.heap.size + 1, 2, none⟩ = some (.int .i64 g2) ∧ w'.cell? ⟨w.heap.size + 1, 3, none⟩ = some (.int .i64 g3) ∧ w'.cell? ⟨w.heap.size + 1, 4, none⟩ = some (.slice b gs.length d))) (by kernel_rfl) (KS.out _ HC.out) (fun hHeld => ?_)
    refine wpAnyH_take (i := 0) (oi := { dst := some 5, op := Op.load 32 (Operand.tmp 2), type := 32, pos := "l12_discs.go:145", after := #[], guard := none }) (v := ?_) rfl (by kernel_rfl) (by kernel_rfl) (by kernel_rfl) (fun _ _ _ h => h) (Or.inl ⟨by rfl, ?hy⟩) hHeld ?_
    case hy => (intro w' hSw; (try dsimp only at hSw); go_simp; try with_reducible rfl)
    simp only [Act.put, List.setIfInBounds_toArray, List.set_cons_zero, List.set_cons_succ]
    refine wpAnyH_take (i := 3) (oi := { dst := some 8, op := Op.load 32 (Operand.tmp 3), type := 32, pos := "l12_discs.go:145", after := #[], guard := none }) (v := ?_) rfl (by kernel_rfl) (by kernel_rfl) (by kernel_rfl) (fun _ _ _ h => h) (Or.inl ⟨by rfl, ?hy⟩) hHeld ?_
    case hy => (intro w' hSw; (try dsimp only at hSw); go_simp; try with_reducible rfl)
    simp only [Act.put, List.setIfInBounds_toArray, List.set_cons_zero, List.set_cons_succ]
    refine wpAnyH_ready (rs := [1]) (by kernel_rfl) (by simp) ?_
    refine AllReadyH.cons (o := { dst := some 6, op := Op.call { callee := Callee.value (Operand.func 86), args := #[Operand.tmp 5], argTypes := #[32] }, type := 135, pos := "l12_discs.go:145", after := #[{ on := 0, ground := Ground.data }], guard := none }) rfl (fun K hK => ?_) AllReadyH.nil
    go_simp
    go_at_call 86; refine (SX.out _).mono ?_; rintro e w2 ⟨rfl, hb2⟩; replace HC := Lib.hid (HC.out.trans (hb2.mono HC.out.size))
    go_wp2_with fail
    refine hK.out _ _ (KS.out _ HC.out) (fun hHeld => ?_)
    clear hK K
    try simp only [Act.put, List.setIfInBounds_toArray, List.set_cons_zero, List.set_cons_succ]
    refine wpAnyH_take (i := 2) (oi := { dst := some 7, op := Op.field 135 (Operand.tmp 6) 0, type := 133, pos := "l12_discs.go:145", after := #[{ on := 1, ground := Ground.data }], guard := none }) (v := ?_) rfl (by kernel_rfl) (by kernel_rfl) (by kernel_rfl) (fun _ _ _ h => h) (Or.inl ⟨by rfl, ?hy⟩) hHeld ?_
    case hy => (intro w' hSw; (try dsimp only at hSw); go_simp; try with_reducible rfl)
    simp only [Act.put, List.setIfInBounds_toArray, List.set_cons_zero, List.set_cons_succ]
    refine wpAnyH_ready (rs := [4]) (by kernel_rfl) (by simp) ?_
    refine AllReadyH.cons (o := { dst := some 9, op := Op.call { callee := Callee.value (Operand.func 86), args := #[Operand.tmp 8], argTypes := #[32] }, type := 135, pos := "l12_discs.go:145", after := #[{ on := 3, ground := Ground.data }, { on := 1, ground := Ground.chain }], guard := none }) rfl (fun K hK => ?_) AllReadyH.nil
    go_simp
    go_at_call 86; refine (SY.out _).mono ?_; rintro e w3 ⟨rfl, hb3⟩; replace HC := Lib.hid (HC.out.trans (hb3.mono HC.out.size))
    go_wp2_with fail
    refine hK.out _ _ (KS.out _ HC.out) (fun hHeld => ?_)
    clear hK K
    try simp only [Act.put, List.setIfInBounds_toArray, List.set_cons_zero, List.set_cons_succ]
    refine wpAnyH_take (i := 5) (oi := { dst := some 10, op := Op.field 135 (Operand.tmp 9) 0, type := 133, pos := "l12_discs.go:145", after := #[{ on := 4, ground := Ground.data }], guard := none }) (v := ?_) rfl (by kernel_rfl) (by kernel_rfl) (by kernel_rfl) (fun _ _ _ h => h) (Or.inl ⟨by rfl, ?hy⟩) hHeld ?_
    case hy => (intro w' hSw; (try dsimp only at hSw); go_simp; try with_reducible rfl)
    simp only [Act.put, List.setIfInBounds_toArray, List.set_cons_zero, List.set_cons_succ]
    refine wpAnyH_take (i := 6) (oi := { dst := some 11, op := Op.binOp BinOp.eql 133 (Operand.tmp 7) (Operand.tmp 10) 133, type := 4, pos := "l12_discs.go:145", after := #[{ on := 2, ground := Ground.data }, { on := 5, ground := Ground.data }], guard := none }) (v := ?_) rfl (by kernel_rfl) (by kernel_rfl) (by kernel_rfl) (fun _ _ _ h => h) (Or.inl ⟨by rfl, ?hy⟩) hHeld ?_
    case hy => (intro w' hSw; (try dsimp only at hSw); go_simp; try with_reducible rfl)
    simp only [Act.put, List.setIfInBounds_toArray, List.set_cons_zero, List.set_cons_succ]
    refine wpAnyH_take (i := 7) (oi := { dst := some 12, op := Op.move (Operand.tmp 11), type := 4, pos := "l12_discs.go:145", after := #[{ on := 6, ground := Ground.data }, { on := 4, ground := Ground.chain }], guard := none }) (v := ?_) rfl (by kernel_rfl) (by kernel_rfl) (by kernel_rfl) (fun _ _ _ h => h) (Or.inl ⟨by rfl, ?hy⟩) hHeld ?_
    case hy => (intro w' hSw; (try dsimp only at hSw); go_simp; try with_reducible rfl)
    simp only [Act.put, List.setIfInBounds_toArray, List.set_cons_zero, List.set_cons_succ]
    refine wpAnyH_take (i := 8) (oi := { dst := some 13, op := Op.fieldAddr 32 (Operand.tmp 2) 4, type := 0, pos := "l12_discs.go:145", after := #[{ on := 7, ground := Ground.guard }], guard := some (7, true) }) (v := ?_) rfl (by kernel_rfl) (by kernel_rfl) (by kernel_rfl) (fun _ _ _ h => h) (Or.inl ⟨by rfl, ?hy⟩) hHeld ?_
    case hy => (intro w' hSw; (try dsimp only at hSw); go_simp; try with_reducible rfl)
    simp only [Act.put, List.setIfInBounds_toArray, List.set_cons_zero, List.set_cons_succ]
    refine wpAnyH_take (i := 9) (oi := { dst := some 14, op := Op.load 30 (Operand.tmp 13), type := 30, pos := "l12_discs.go:145", after := #[{ on := 8, ground := Ground.data }, { on := 7, ground := Ground.guard }], guard := some (7, true) }) (v := ?_) rfl (by kernel_rfl) (by kernel_rfl) (by kernel_rfl) (fun _ _ _ h => h) (Or.inl ⟨by rfl, ?hy⟩) hHeld ?_
    case hy => (intro w' hSw; (try dsimp only at hSw); go_simp; try with_reducible rfl)
    simp only [Act.put, List.setIfInBounds_toArray, List.set_cons_zero, List.set_cons_succ]
    refine wpAnyH_take (i := 10) (oi := { dst := some 15, op := Op.fieldAddr 32 (Operand.tmp 3) 4, type := 0, pos := "l12_discs.go:145", after := #[{ on := 7, ground := Ground.guard }], guard := some (7, true) }) (v := ?_) rfl (by kernel_rfl) (by kernel_rfl) (by kernel_rfl) (fun _ _ _ h => h) (Or.inl ⟨by rfl, ?hy⟩) hHeld ?_
    case hy => (intro w' hSw; (try dsimp only at hSw); go_simp; try with_reducible rfl)
    simp only [Act.put, List.setIfInBounds_toArray, List.set_cons_zero, List.set_cons_succ]
    refine wpAnyH_take (i := 11) (oi := { dst := some 16, op := Op.load 30 (Operand.tmp 15), type := 30, pos := "l12_discs.go:145", after := #[{ on := 10, ground := Ground.data }, { on := 7, ground := Ground.guard }], guard := some (7, true) }) (v := ?_) rfl (by kernel_rfl) (by kernel_rfl) (by kernel_rfl) (fun _ _ _ h => h) (Or.inl ⟨by rfl, ?hy⟩) hHeld ?_
    case hy => (intro w' hSw; (try dsimp only at hSw); go_simp; try with_reducible rfl)
    simp only [Act.put, List.setIfInBounds_toArray, List.set_cons_zero, List.set_cons_succ]
    refine wpAnyH_ready (rs := [12]) (by kernel_rfl) (by simp) ?_
    refine AllReadyH.cons (o := { dst := some 17, op := Op.call { callee := Callee.value (Operand.func 160), args := #[Operand.tmp 14, Operand.tmp 16], argTypes := #[30, 30] }, type := 4, pos := "l12_discs.go:145", after := #[{ on := 9, ground := Ground.data }, { on := 11, ground := Ground.data }, { on := 7, ground := Ground.chain }, { on := 7, ground := Ground.guard }], guard := some (7, true) }) rfl (fun K hK => ?_) AllReadyH.nil
    go_simp
    go_at_call 160; refine (SE.out _ (FB.out.trans (HC.out.mono FB.out.size))).mono ?_; rintro e w4 ⟨rfl, hb4⟩; replace HC := Lib.hid (HC.out.trans (hb4.mono HC.out.size))
    go_wp2_with fail
    refine hK.out _ _ (KS.out _ HC.out) (fun hHeld => ?_)
    clear hK K
    try simp only [Act.put, List.setIfInBounds_toArray, List.set_cons_zero, List.set_cons_succ]
    refine wpAnyH_take (i := 13) (oi := { dst := some 18, op := Op.pick (Operand.tmp 12) (Operand.tmp 17) (Operand.const (Value.bool false)), type := 4, pos := "l12_discs.go:145", after := #[{ on := 7, ground := Ground.data }, { on := 12, ground := Ground.data }], guard := none }) (v := ?_) rfl (by kernel_rfl) (by kernel_rfl) (by kernel_rfl) (fun _ _ _ h => h) (Or.inl ⟨by rfl, ?hy⟩) hHeld ?_
    case hy => (intro w' hSw; (try dsimp only at hSw); go_simp; try with_reducible rfl)
    simp only [Act.put, List.setIfInBounds_toArray, List.set_cons_zero, List.set_cons_succ]
    refine wpAnyH_take (i := 14) (oi := { dst := some 4, op := Op.assign (Operand.tmp 18), type := 4, pos := "l12_discs.go:145", after := #[{ on := 13, ground := Ground.data }, { on := 12, ground := Ground.chain }, { on := 0, ground := Ground.phase }, { on := 1, ground := Ground.phase }, { on := 2, ground := Ground.phase }, { on := 3, ground := Ground.phase }, { on := 4, ground := Ground.phase }, { on := 5, ground := Ground.phase }, { on := 6, ground := Ground.phase }, { on := 7, ground := Ground.phase }, { on := 8, ground := Ground.phase }, { on := 9, ground := Ground.phase }, { on := 10, ground := Ground.phase }, { on := 11, ground := Ground.phase }, { on := 12, ground := Ground.phase }, { on := 13, ground := Ground.phase }], guard := none }) (v := ?_) rfl (by kernel_rfl) (by kernel_rfl) (by kernel_rfl) (fun _ _ _ h => h) (Or.inl ⟨by rfl, ?hy⟩) hHeld ?_
    case hy => (intro w' hSw; (try dsimp only at hSw); go_simp; try with_reducible rfl)
    simp only [Act.put, List.setIfInBounds_toArray, List.set_cons_zero, List.set_cons_succ]
    refine wpAnyH_done (by kernel_rfl) ?_ _
    go_wp2
    go_ret
    exact ⟨rfl, FB.out.trans (HC.out.mono FB.out.size)⟩
set_option maxHeartbeats 4000000 in
theorem l12Alike_any (x : DiscV) (a : Option Addr) (c : Nat) (y : DiscV) (b : Option Addr) (d p r : Nat) (w : World) (hX : BoxAt w p #[.int .i64 x.f0, .int .i64 x.f1, .int .i64 x.f2, .int .i64 x.f3, .slice a x.f4.length c]) (hY : BoxAt w r #[.int .i64 y.f0, .int .i64 y.f1, .int .i64 y.f2, .int .i64 y.f3, .slice b y.f4.length d]) :
    Calls Try.prog 159 #[.pointer (some ⟨p, 0, none⟩), .pointer (some ⟨r, 0, none⟩)] w fun e w' => e = .returned (.bool (sameGeo x.f0 x.f1 x.f2 x.f3 y.f0 y.f1 y.f2 y.f3)) ∧ ∃ m, w' = w.drewN m := by
  obtain ⟨f0, f1, f2, f3, fs⟩ := x
  obtain ⟨g0, g1, g2, g3, gs⟩ := y
  dsimp only at hX hY ⊢
  have c0 := hX 0 _ rfl
  have d0 := hY 0 _ rfl
  have c1 := hX 1 _ rfl
  have d1 := hY 1 _ rfl
  have c2 := hX 2 _ rfl
  have d2 := hY 2 _ rfl
  have c3 := hX 3 _ rfl
  have d3 := hY 3 _ rfl
  clear hX hY
  unfold sameGeo
  have e0 : (f0 == g0) = decide (f0 = g0) := rfl
  have e1 : (f1 == g1) = decide (f1 = g1) := rfl
  have e2 : (f2 == g2) = decide (f2 = g2) := rfl
  have e3 : (f3 == g3) = decide (f3 = g3) := rfl
  generalize decide (f0 = g0) = q0 at *
  generalize decide (f1 = g1) = q1 at *
  generalize decide (f2 = g2) = q2 at *
  generalize decide (f3 = g3) = q at *
  cases q0 <;> cases q1 <;> cases q2
  all_goals
    go_enter Try.func159, Try.ntmps159
    go_wp2
    go_quiet (fail)
    go_wp2
    go_ret
    exact ⟨by first | rfl | (cases q <;> rfl), _, rfl⟩
set_option maxHeartbeats 8000000 in
theorem l12Same_any (x : DiscV) (a : Option Addr) (c : Nat) (y : DiscV) (b : Option Addr) (d p r : Nat) (hx : x.f4.length ≤ 1048576) (hy : y.f4.length ≤ 1048576) (w : World) (hX : BoxAt w p #[.int .i64 x.f0, .int .i64 x.f1, .int .i64 x.f2, .int .i64 x.f3, .slice a x.f4.length c]) (hY : BoxAt w r #[.int .i64 y.f0, .int .i64 y.f1, .int .i64 y.f2, .int .i64 y.f3, .slice b y.f4.length d]) (h1 : SlS rowSector w a x.f4) (h2 : SlS rowSector w b y.f4) :
    Calls Try.prog 70 #[.pointer (some ⟨p, 0, none⟩), .pointer (some ⟨r, 0, none⟩)] w fun e w' => e = .returned (.bool (sameDiscB x y)) ∧ Below w.heap.size w w' := by
  have hpl := hX.lt (by simp)
  have hrl := hY.lt (by simp)
  have AL := Lib.hid (fun n => l12Alike_any x a c y b d p r (w.drewN n) hX hY)
  have cX := hX 4 _ rfl
  have cY := hY 4 _ rfl
  cases hg : sameGeo x.f0 x.f1 x.f2 x.f3 y.f0 y.f1 y.f2 y.f3 with
  | false =>
    rw [sameDisc_geo hg]
    rw [hg] at AL
    clear hg h1 h2 hX hY
    go_enter Try.func70, Try.ntmps70
    go_wp2
    go_quiet ((go_at_call 159; exact Calls.quiet_of (AL.out _)))
    go_wp2
    go_ret
    exact ⟨rfl, below_drewN' (Below.refl _ _) _⟩
  | true =>
  rw [hg] at AL
  by_cases hl : x.f4.length = y.f4.length
  case neg =>
    have HN := Lib.hid (sameDiscB_no (x := x) (y := y) (fun e => hl (by rw [e])))
    have hlb : ((x.f4.length : Int) != (y.f4.length : Int)) = true := by simp; omega
    clear hg h1 h2 hX hY hl
    go_enter Try.func70, Try.ntmps70
    go_wp2
    go_quiet ((go_at_call 159; exact Calls.quiet_of (AL.out _)))
    go_wp2
    go_ret
    exact ⟨ret_bool HN.out.symm, below_drewN' (Below.refl _ _) _⟩
  have hlb : ((x.f4.length : Int) != (y.f4.length : Int)) = false := by simp; omega
  have HL := Lib.hid hl
  have HG := Lib.hid hg
  clear hl hg
  go_enter Try.func70, Try.ntmps70
  go_wp2
  go_quiet ((go_at_call 159; exact Calls.quiet_of (AL.out _)))
  rename_i nq
  have FBQ := Lib.hid (show Below w.heap.size w (w.drewN nq) from below_drewN' (Below.refl _ _) _)
  generalize w.drewN nq = wq at FBQ ⊢
  go_wp2
  clear cX cY hlb AL
  go_loopw [5] (fun i wr => ∃ k : Nat, k ≤ x.f4.length ∧ i = .int .i64 k ∧ Hid (x.f4.take k = y.f4.take k) ∧ Below w.heap.size w wr) (fun i _ => x.f4.length - (intOf i).toNat)
  case atStart => exact ⟨0, Nat.zero_le _, rfl, by unfold Hid; rfl, FBQ.out⟩
  case round =>
    obtain ⟨k, hk, rfl, hT, hb⟩ := hrel
    have cX := (hX.below hb hpl) 4 _ rfl
    have cY := (hY.below hb hrl) 4 _ rfl
    have h1' := h1.below hb (Nat.le_refl _)
    have h2' := h2.below hb (Nat.le_refl _)
    by_cases hlt : k < x.f4.length
    · have hly : k < y.f4.length := by have := HL.out; omega
      obtain ⟨u, hxk⟩ : ∃ e, x.f4[k]? = some e := ⟨x.f4[k], by simp [hlt]⟩
      obtain ⟨v, hyk⟩ : ∃ e, y.f4[k]? = some e := ⟨y.f4[k], by simp [hly]⟩
      obtain ⟨bx, ox, rfl, hlx, hcx⟩ := h1'.at rowSector_len hxk
      obtain ⟨b2, o2, rfl, hly2, hcy⟩ := h2'.at rowSector_len hyk
      have c0 : wr.cell? ⟨bx, ox + k * 2, none⟩ = some (.string u.f0) := hcx 0 _ rfl
      have c1 : wr.cell? ⟨bx, ox + k * 2 + 1, none⟩ = some (.int .i64 u.f1) := hcx 1 _ rfl
      have d0 : wr.cell? ⟨b2, o2 + k * 2, none⟩ = some (.string v.f0) := hcy 0 _ rfl
      have d1 : wr.cell? ⟨b2, o2 + k * 2 + 1, none⟩ = some (.int .i64 v.f1) := hcy 1 _ rfl
      have HX := Lib.hid hxk; have HY := Lib.hid hyk; clear hxk hyk
      have e1 : (k : Int) < x.f4.length := by omega
      have e2 : (k : Int) < y.f4.length := by omega
      have H1 := Lib.hid (And.intro h1 (And.intro h1' (And.intro hcx hX))); have H2 := Lib.hid (And.intro h2 (And.intro h2' (And.intro hcy hY))); clear h1 h1' h2 h2' hcx hcy hlx hly2 hX hY FBQ
      have nq := fun w => neqSector u v w
      obtain ⟨q, hq⟩ : ∃ q, sameSector u v = q := ⟨_, rfl⟩
      rw [hq] at nq
      have HQ := Lib.hid hq; clear hq
      cases q
      · simp only [Bool.not_false] at nq
        go_wp2
        go_quiet (fail)
        go_wp2
        go_ret
        refine ⟨ret_bool ?_, below_drewN' hb _⟩
        refine (sameDiscB_no fun e => ?_).symm
        have h3 := HX.out
        rw [e, HY.out] at h3
        have h4 := sameSector_iff.2 (Option.some.inj h3).symm
        rw [HQ.out] at h4
        cases h4
      · simp only [Bool.not_true] at nq
        go_wp2
        go_quiet (fail)
        go_wp2
        go_roundw
        case rel => exact ⟨k + 1, by omega, by go_num, by unfold Hid; rw [List.take_add_one, List.take_add_one, HX.out, HY.out, hT.out, sameSector_iff.1 HQ.out], below_drewN' hb _⟩
        case measure => simp [intOf]; omega
    · go_wp2
      go_ret
      refine ⟨ret_bool ?_, hb⟩
      obtain rfl : k = x.f4.length := by omega
      exact (sameDisc_list (q := true) HG.out ⟨fun _ => take_eq HL.out hT.out, fun _ => rfl⟩).symm
end Go.Proofs.Ytjciihjbeaoolaa
