/- (impl.markedTrack).total, valid, idCode, dataMark, impl.DataMarkOf -/
import Derived.Test.YtidedgcmpkahgaaMarks
import Derived.Test.YtidedgcmpkahgaaCellsBetween
import Derived.Test.YtidedgcmpkahgaaMarkTab
import Derived.Test.YtidedgcmpkahgaaSliceCells
import Derived.Test.YtidedgcmpkahgaaBoxF
import Derived.Test.YtidedgcmpkahgaaMadeAt
import Derived.Deep.DeepCutAuto
import Derived.Deep.RegionHeld3
import Derived.BigRegion
namespace Go.Proofs.Ytidedgcmpkahgaa
open Go.RowKit
set_option linter.unusedVariables false
set_option linter.unusedSimpArgs false
set_option maxRecDepth 20000
set_option maxHeartbeats 1000000 in
theorem mtTotal_any (s : ByteArray) (f : Int) (a : Option Addr) (es : List MarkV) (c : Nat) (w : World) (hs : s.size ≤ 1048576) : Calls Try.prog 60 #[.agg #[.string s, .int .i64 f, .slice a es.length c]] w fun e w' => e = .returned (.int .i64 (s.size : Int)) ∧ Below w.heap.size w w' := by
  go_enter Try.func60, Try.ntmps60
  go_wp2
  go_ret
  exact ⟨rfl, by go_grown⟩
def mtOk (s : ByteArray) (f : Int) (es : List MarkV) : Bool := validCells s && (inB 1 3 f && mkValid s.size es)
set_option maxHeartbeats 4000000 in
theorem mtValid_any (s : ByteArray) (f : Int) (a : Option Addr) (es : List MarkV) (c : Nat) (w : World) (hs : s.size ≤ 1048576) (hm : es.length ≤ 1048576) (h : SlS rowMark w a es) : Calls Try.prog 57 #[.agg #[.string s, .int .i64 f, .slice a es.length c]] w fun e w' => e = .returned (.bool (mtOk s f es)) ∧ Below w.heap.size w w' := by
  have VC0 := fun w => validCells_any s w (by unfold maxLen; omega)
  have IF0 := fun w => isFormat_any f w
  have TO := Lib.hid (fun w => mtTotal_any s f a es c w hs)
  have VM := Lib.hid (fun w' (hb : Below w.heap.size w w') => validMarks_any a es c (s.size : Int) w' hm (h.below hb (Nat.le_refl _)))
  unfold mtOk
  clear h
  cases hv : validCells s with
  | false =>
    rw [hv] at VC0
    have VC := Lib.hid VC0
    clear VC0 hv
    go_enter Try.func57, Try.ntmps57
    go_upto_region 1 with (fail)
    have b0 : BoxF (w.alloc (.cells #[.string s, .int .i64 f, .slice a es.length c] 62)) w.heap.size #[.string s, .int .i64 f, .slice a es.length c] := BoxF.new w _ _ _ rfl
    have FB := Lib.hid (show Below w.heap.size w (w.alloc (.cells #[.string s, .int .i64 f, .slice a es.length c] 62)) by go_grown)
    have hlt : w.heap.size < (w.alloc (.cells #[.string s, .int .i64 f, .slice a es.length c] 62)).heap.size := by simp
    generalize (w.alloc (.cells #[.string s, .int .i64 f, .slice a es.length c] 62)) = W at *
    have KS := Lib.hid (fun w' (hb : Below W.heap.size W w') => (show w'.cell? ⟨w.heap.size, 0, none⟩ = some (.string s) ∧ w'.cell? ⟨w.heap.size, 1, none⟩ = some (.int .i64 f) ∧ w'.cell? ⟨w.heap.size, 2, none⟩ = some (.slice a es.length c) from ⟨((b0.below hb hlt).box 0 _ rfl), ((b0.below hb hlt).box 1 _ rfl), ((b0.below hb hlt).box 2 _ rfl)⟩))
    have HC := Lib.hid (show Below W.heap.size W W.drew from (Below.refl _ _).drew)
    refine wp_region_held_drew (S := (fun w' => w'.cell? ⟨w.heap.size, 0, none⟩ = some (.string s) ∧ w'.cell? ⟨w.heap.size, 1, none⟩ = some (.int .i64 f) ∧ w'.cell? ⟨w.heap.size, 2, none⟩ = some (.slice a es.length c))) (by kernel_rfl) (KS.out _ HC.out) (fun hHeld => ?_)
    refine wpAnyH_take (i := 0) (oi := { dst := some 3, op := Op.fieldAddr 62 (Operand.tmp 1) 0, type := 0, pos := "l09_reader.go:109", after := #[], guard := none }) (v := ?_) rfl (by kernel_rfl) (by kernel_rfl) (by kernel_rfl) (fun _ _ _ h => h) (Or.inl ⟨by rfl, ?hy⟩) hHeld ?_
    case hy => (intro w' hSw; (try dsimp only at hSw); go_simp; try with_reducible rfl)
    simp only [Act.put, List.setIfInBounds_toArray, List.set_cons_zero, List.set_cons_succ]
    refine wpAnyH_take (i := 1) (oi := { dst := some 4, op := Op.load 9 (Operand.tmp 3), type := 9, pos := "l09_reader.go:109", after := #[{ on := 0, ground := Ground.data }], guard := none }) (v := ?_) rfl (by kernel_rfl) (by kernel_rfl) (by kernel_rfl) (fun _ _ _ h => h) (Or.inl ⟨by rfl, ?hy⟩) hHeld ?_
    case hy => (intro w' hSw; (try dsimp only at hSw); go_simp; try with_reducible rfl)
    simp only [Act.put, List.setIfInBounds_toArray, List.set_cons_zero, List.set_cons_succ]
    refine wpAnyH_ready (rs := [2]) (by kernel_rfl) (by simp) ?_
    refine AllReadyH.cons (o := { dst := some 5, op := Op.call { callee := Callee.value (Operand.func 67), args := #[Operand.tmp 4], argTypes := #[9] }, type := 4, pos := "l09_reader.go:109", after := #[{ on := 1, ground := Ground.data }], guard := none }) rfl (fun K hK => ?_) AllReadyH.nil
    go_simp
    go_at_call 67; refine (VC.out _).mono ?_; rintro e w2 ⟨rfl, hb2⟩; replace HC := Lib.hid (HC.out.trans (hb2.mono HC.out.size))
    go_wp2_with fail
    refine hK.out _ _ (KS.out _ HC.out) (fun hHeld => ?_)
    clear hK K
    try simp only [Act.put, List.setIfInBounds_toArray, List.set_cons_zero, List.set_cons_succ]
    refine wpAnyH_take (i := 3) (oi := { dst := some 6, op := Op.move (Operand.tmp 5), type := 4, pos := "l09_reader.go:109", after := #[{ on := 2, ground := Ground.data }, { on := 2, ground := Ground.chain }], guard := none }) (v := ?_) rfl (by kernel_rfl) (by kernel_rfl) (by kernel_rfl) (fun _ _ _ h => h) (Or.inl ⟨by rfl, ?hy⟩) hHeld ?_
    case hy => (intro w' hSw; (try dsimp only at hSw); go_simp; try with_reducible rfl)
    simp only [Act.put, List.setIfInBounds_toArray, List.set_cons_zero, List.set_cons_succ]
    refine wpAnyH_take (i := 4) (oi := { dst := some 7, op := Op.fieldAddr 62 (Operand.tmp 1) 1, type := 0, pos := "l09_reader.go:109", after := #[{ on := 3, ground := Ground.guard }], guard := some (3, true) }) (v := undef) rfl (by kernel_rfl) (by kernel_rfl) (by kernel_rfl) (fun _ _ _ h => h) (Or.inr ⟨by rfl, rfl⟩) hHeld ?_
    simp only [Act.put, List.setIfInBounds_toArray, List.set_cons_zero, List.set_cons_succ]
    refine wpAnyH_take (i := 5) (oi := { dst := some 8, op := Op.load 2 (Operand.tmp 7), type := 2, pos := "l09_reader.go:109", after := #[{ on := 4, ground := Ground.data }, { on := 3, ground := Ground.guard }], guard := some (3, true) }) (v := undef) rfl (by kernel_rfl) (by kernel_rfl) (by kernel_rfl) (fun _ _ _ h => h) (Or.inr ⟨by rfl, rfl⟩) hHeld ?_
    simp only [Act.put, List.setIfInBounds_toArray, List.set_cons_zero, List.set_cons_succ]
    refine wpAnyH_take (i := 6) (oi := { dst := some 9, op := Op.call { callee := Callee.value (Operand.func 68), args := #[Operand.tmp 8], argTypes := #[2] }, type := 4, pos := "l09_reader.go:109", after := #[{ on := 5, ground := Ground.data }, { on := 3, ground := Ground.chain }, { on := 3, ground := Ground.guard }], guard := some (3, true) }) (v := undef) rfl (by kernel_rfl) (by kernel_rfl) (by kernel_rfl) (fun _ _ _ h => h) (Or.inr ⟨by rfl, rfl⟩) hHeld ?_
    simp only [Act.put, List.setIfInBounds_toArray, List.set_cons_zero, List.set_cons_succ]
    refine wpAnyH_take (i := 7) (oi := { dst := some 10, op := Op.pick (Operand.tmp 6) (Operand.tmp 9) (Operand.const (Value.bool false)), type := 4, pos := "l09_reader.go:109", after := #[{ on := 3, ground := Ground.data }, { on := 6, ground := Ground.data }], guard := none }) (v := ?_) rfl (by kernel_rfl) (by kernel_rfl) (by kernel_rfl) (fun _ _ _ h => h) (Or.inl ⟨by rfl, ?hy⟩) hHeld ?_
    case hy => (intro w' hSw; (try dsimp only at hSw); go_simp; try with_reducible rfl)
    simp only [Act.put, List.setIfInBounds_toArray, List.set_cons_zero, List.set_cons_succ]
    refine wpAnyH_take (i := 8) (oi := { dst := some 11, op := Op.move (Operand.tmp 10), type := 4, pos := "l09_reader.go:109", after := #[{ on := 7, ground := Ground.data }, { on := 6, ground := Ground.chain }], guard := none }) (v := ?_) rfl (by kernel_rfl) (by kernel_rfl) (by kernel_rfl) (fun _ _ _ h => h) (Or.inl ⟨by rfl, ?hy⟩) hHeld ?_
    case hy => (intro w' hSw; (try dsimp only at hSw); go_simp; try with_reducible rfl)
    simp only [Act.put, List.setIfInBounds_toArray, List.set_cons_zero, List.set_cons_succ]
    refine wpAnyH_take (i := 9) (oi := { dst := some 12, op := Op.fieldAddr 62 (Operand.tmp 1) 2, type := 0, pos := "l09_reader.go:109", after := #[{ on := 8, ground := Ground.guard }], guard := some (8, true) }) (v := undef) rfl (by kernel_rfl) (by kernel_rfl) (by kernel_rfl) (fun _ _ _ h => h) (Or.inr ⟨by rfl, rfl⟩) hHeld ?_
    simp only [Act.put, List.setIfInBounds_toArray, List.set_cons_zero, List.set_cons_succ]
    refine wpAnyH_take (i := 10) (oi := { dst := some 13, op := Op.load 26 (Operand.tmp 12), type := 26, pos := "l09_reader.go:109", after := #[{ on := 9, ground := Ground.data }, { on := 8, ground := Ground.guard }], guard := some (8, true) }) (v := undef) rfl (by kernel_rfl) (by kernel_rfl) (by kernel_rfl) (fun _ _ _ h => h) (Or.inr ⟨by rfl, rfl⟩) hHeld ?_
    simp only [Act.put, List.setIfInBounds_toArray, List.set_cons_zero, List.set_cons_succ]
    refine wpAnyH_take (i := 11) (oi := { dst := some 14, op := Op.load 62 (Operand.tmp 1), type := 62, pos := "l09_reader.go:109", after := #[{ on := 8, ground := Ground.guard }], guard := some (8, true) }) (v := undef) rfl (by kernel_rfl) (by kernel_rfl) (by kernel_rfl) (fun _ _ _ h => h) (Or.inr ⟨by rfl, rfl⟩) hHeld ?_
    simp only [Act.put, List.setIfInBounds_toArray, List.set_cons_zero, List.set_cons_succ]
    refine wpAnyH_take (i := 12) (oi := { dst := some 15, op := Op.call { callee := Callee.value (Operand.func 60), args := #[Operand.tmp 14], argTypes := #[62] }, type := 2, pos := "l09_reader.go:109", after := #[{ on := 11, ground := Ground.data }, { on := 8, ground := Ground.chain }, { on := 8, ground := Ground.guard }], guard := some (8, true) }) (v := undef) rfl (by kernel_rfl) (by kernel_rfl) (by kernel_rfl) (fun _ _ _ h => h) (Or.inr ⟨by rfl, rfl⟩) hHeld ?_
    simp only [Act.put, List.setIfInBounds_toArray, List.set_cons_zero, List.set_cons_succ]
    refine wpAnyH_take (i := 13) (oi := { dst := some 16, op := Op.call { callee := Callee.value (Operand.func 69), args := #[Operand.tmp 13, Operand.tmp 15], argTypes := #[26, 2] }, type := 4, pos := "l09_reader.go:109", after := #[{ on := 10, ground := Ground.data }, { on := 12, ground := Ground.data }, { on := 12, ground := Ground.chain }, { on := 8, ground := Ground.guard }], guard := some (8, true) }) (v := undef) rfl (by kernel_rfl) (by kernel_rfl) (by kernel_rfl) (fun _ _ _ h => h) (Or.inr ⟨by rfl, rfl⟩) hHeld ?_
    simp only [Act.put, List.setIfInBounds_toArray, List.set_cons_zero, List.set_cons_succ]
    refine wpAnyH_take (i := 14) (oi := { dst := some 17, op := Op.pick (Operand.tmp 11) (Operand.tmp 16) (Operand.const (Value.bool false)), type := 4, pos := "l09_reader.go:109", after := #[{ on := 8, ground := Ground.data }, { on := 13, ground := Ground.data }], guard := none }) (v := ?_) rfl (by kernel_rfl) (by kernel_rfl) (by kernel_rfl) (fun _ _ _ h => h) (Or.inl ⟨by rfl, ?hy⟩) hHeld ?_
    case hy => (intro w' hSw; (try dsimp only at hSw); go_simp; try with_reducible rfl)
    simp only [Act.put, List.setIfInBounds_toArray, List.set_cons_zero, List.set_cons_succ]
    refine wpAnyH_take (i := 15) (oi := { dst := some 2, op := Op.assign (Operand.tmp 17), type := 4, pos := "l09_reader.go:109", after := #[{ on := 14, ground := Ground.data }, { on := 13, ground := Ground.chain }, { on := 0, ground := Ground.phase }, { on := 1, ground := Ground.phase }, { on := 2, ground := Ground.phase }, { on := 3, ground := Ground.phase }, { on := 4, ground := Ground.phase }, { on := 5, ground := Ground.phase }, { on := 6, ground := Ground.phase }, { on := 7, ground := Ground.phase }, { on := 8, ground := Ground.phase }, { on := 9, ground := Ground.phase }, { on := 10, ground := Ground.phase }, { on := 11, ground := Ground.phase }, { on := 12, ground := Ground.phase }, { on := 13, ground := Ground.phase }, { on := 14, ground := Ground.phase }], guard := none }) (v := ?_) rfl (by kernel_rfl) (by kernel_rfl) (by kernel_rfl) (fun _ _ _ h => h) (Or.inl ⟨by rfl, ?hy⟩) hHeld ?_
    case hy => (intro w' hSw; (try dsimp only at hSw); go_simp; try with_reducible rfl)
    simp only [Act.put, List.setIfInBounds_toArray, List.set_cons_zero, List.set_cons_succ]
    refine wpAnyH_done (by kernel_rfl) ?_ _
    go_wp2
    go_ret
    exact ⟨rfl, FB.out.trans (HC.out.mono (by omega))⟩
  | true =>
  rw [hv] at VC0
  have VC := Lib.hid VC0
  cases hf : inB 1 3 f with
  | false =>
    rw [hf] at IF0
    have IF := Lib.hid IF0
    clear VC0 hv IF0 hf
    go_enter Try.func57, Try.ntmps57
    go_upto_region 1 with (fail)
    have b0 : BoxF (w.alloc (.cells #[.string s, .int .i64 f, .slice a es.length c] 62)) w.heap.size #[.string s, .int .i64 f, .slice a es.length c] := BoxF.new w _ _ _ rfl
    have FB := Lib.hid (show Below w.heap.size w (w.alloc (.cells #[.string s, .int .i64 f, .slice a es.length c] 62)) by go_grown)
    have hlt : w.heap.size < (w.alloc (.cells #[.string s, .int .i64 f, .slice a es.length c] 62)).heap.size := by simp
    generalize (w.alloc (.cells #[.string s, .int .i64 f, .slice a es.length c] 62)) = W at *
    have KS := Lib.hid (fun w' (hb : Below W.heap.size W w') => (show w'.cell? ⟨w.heap.size, 0, none⟩ = some (.string s) ∧ w'.cell? ⟨w.heap.size, 1, none⟩ = some (.int .i64 f) ∧ w'.cell? ⟨w.heap.size, 2, none⟩ = some (.slice a es.length c) from ⟨((b0.below hb hlt).box 0 _ rfl), ((b0.below hb hlt).box 1 _ rfl), ((b0.below hb hlt).box 2 _ rfl)⟩))
    have HC := Lib.hid (show Below W.heap.size W W.drew from (Below.refl _ _).drew)
    refine wp_region_held_drew (S := (fun w' => w'.cell? ⟨w.heap.size, 0, none⟩ = some (.string s) ∧ w'.cell? ⟨w.heap.size, 1, none⟩ = some (.int .i64 f) ∧ w'.cell? ⟨w.heap.size, 2, none⟩ = some (.slice a es.length c))) (by kernel_rfl) (KS.out _ HC.out) (fun hHeld => ?_)
    refine wpAnyH_take (i := 0) (oi := { dst := some 3, op := Op.fieldAddr 62 (Operand.tmp 1) 0, type := 0, pos := "l09_reader.go:109", after := #[], guard := none }) (v := ?_) rfl (by kernel_rfl) (by kernel_rfl) (by kernel_rfl) (fun _ _ _ h => h) (Or.inl ⟨by rfl, ?hy⟩) hHeld ?_
    case hy => (intro w' hSw; (try dsimp only at hSw); go_simp; try with_reducible rfl)
    simp only [Act.put, List.setIfInBounds_toArray, List.set_cons_zero, List.set_cons_succ]
    refine wpAnyH_take (i := 1) (oi := { dst := some 4, op := Op.load 9 (Operand.tmp 3), type := 9, pos := "l09_reader.go:109", after := #[{ on := 0, ground := Ground.data }], guard := none }) (v := ?_) rfl (by kernel_rfl) (by kernel_rfl) (by kernel_rfl) (fun _ _ _ h => h) (Or.inl ⟨by rfl, ?hy⟩) hHeld ?_
    case hy => (intro w' hSw; (try dsimp only at hSw); go_simp; try with_reducible rfl)
    simp only [Act.put, List.setIfInBounds_toArray, List.set_cons_zero, List.set_cons_succ]
    refine wpAnyH_ready (rs := [2]) (by kernel_rfl) (by simp) ?_
    refine AllReadyH.cons (o := { dst := some 5, op := Op.call { callee := Callee.value (Operand.func 67), args := #[Operand.tmp 4], argTypes := #[9] }, type := 4, pos := "l09_reader.go:109", after := #[{ on := 1, ground := Ground.data }], guard := none }) rfl (fun K hK => ?_) AllReadyH.nil
    go_simp
    go_at_call 67; refine (VC.out _).mono ?_; rintro e w2 ⟨rfl, hb2⟩; replace HC := Lib.hid (HC.out.trans (hb2.mono HC.out.size))
    go_wp2_with fail
    refine hK.out _ _ (KS.out _ HC.out) (fun hHeld => ?_)
    clear hK K
    try simp only [Act.put, List.setIfInBounds_toArray, List.set_cons_zero, List.set_cons_succ]
    refine wpAnyH_take (i := 3) (oi := { dst := some 6, op := Op.move (Operand.tmp 5), type := 4, pos := "l09_reader.go:109", after := #[{ on := 2, ground := Ground.data }, { on := 2, ground := Ground.chain }], guard := none }) (v := ?_) rfl (by kernel_rfl) (by kernel_rfl) (by kernel_rfl) (fun _ _ _ h => h) (Or.inl ⟨by rfl, ?hy⟩) hHeld ?_
    case hy => (intro w' hSw; (try dsimp only at hSw); go_simp; try with_reducible rfl)
    simp only [Act.put, List.setIfInBounds_toArray, List.set_cons_zero, List.set_cons_succ]
    refine wpAnyH_take (i := 4) (oi := { dst := some 7, op := Op.fieldAddr 62 (Operand.tmp 1) 1, type := 0, pos := "l09_reader.go:109", after := #[{ on := 3, ground := Ground.guard }], guard := some (3, true) }) (v := ?_) rfl (by kernel_rfl) (by kernel_rfl) (by kernel_rfl) (fun _ _ _ h => h) (Or.inl ⟨by rfl, ?hy⟩) hHeld ?_
    case hy => (intro w' hSw; (try dsimp only at hSw); go_simp; try with_reducible rfl)
    simp only [Act.put, List.setIfInBounds_toArray, List.set_cons_zero, List.set_cons_succ]
    refine wpAnyH_take (i := 5) (oi := { dst := some 8, op := Op.load 2 (Operand.tmp 7), type := 2, pos := "l09_reader.go:109", after := #[{ on := 4, ground := Ground.data }, { on := 3, ground := Ground.guard }], guard := some (3, true) }) (v := ?_) rfl (by kernel_rfl) (by kernel_rfl) (by kernel_rfl) (fun _ _ _ h => h) (Or.inl ⟨by rfl, ?hy⟩) hHeld ?_
    case hy => (intro w' hSw; (try dsimp only at hSw); go_simp; try with_reducible rfl)
    simp only [Act.put, List.setIfInBounds_toArray, List.set_cons_zero, List.set_cons_succ]
    refine wpAnyH_ready (rs := [6]) (by kernel_rfl) (by simp) ?_
    refine AllReadyH.cons (o := { dst := some 9, op := Op.call { callee := Callee.value (Operand.func 68), args := #[Operand.tmp 8], argTypes := #[2] }, type := 4, pos := "l09_reader.go:109", after := #[{ on := 5, ground := Ground.data }, { on := 3, ground := Ground.chain }, { on := 3, ground := Ground.guard }], guard := some (3, true) }) rfl (fun K hK => ?_) AllReadyH.nil
    go_simp
    go_at_call 68; refine (IF.out _).mono ?_; rintro e w3 ⟨rfl, hb3⟩; replace HC := Lib.hid (HC.out.trans (hb3.mono HC.out.size))
    go_wp2_with fail
    refine hK.out _ _ (KS.out _ HC.out) (fun hHeld => ?_)
    clear hK K
    try simp only [Act.put, List.setIfInBounds_toArray, List.set_cons_zero, List.set_cons_succ]
    refine wpAnyH_take (i := 7) (oi := { dst := some 10, op := Op.pick (Operand.tmp 6) (Operand.tmp 9) (Operand.const (Value.bool false)), type := 4, pos := "l09_reader.go:109", after := #[{ on := 3, ground := Ground.data }, { on := 6, ground := Ground.data }], guard := none }) (v := ?_) rfl (by kernel_rfl) (by kernel_rfl) (by kernel_rfl) (fun _ _ _ h => h) (Or.inl ⟨by rfl, ?hy⟩) hHeld ?_
    case hy => (intro w' hSw; (try dsimp only at hSw); go_simp; try with_reducible rfl)
    simp only [Act.put, List.setIfInBounds_toArray, List.set_cons_zero, List.set_cons_succ]
    refine wpAnyH_take (i := 8) (oi := { dst := some 11, op := Op.move (Operand.tmp 10), type := 4, pos := "l09_reader.go:109", after := #[{ on := 7, ground := Ground.data }, { on := 6, ground := Ground.chain }], guard := none }) (v := ?_) rfl (by kernel_rfl) (by kernel_rfl) (by kernel_rfl) (fun _ _ _ h => h) (Or.inl ⟨by rfl, ?hy⟩) hHeld ?_
    case hy => (intro w' hSw; (try dsimp only at hSw); go_simp; try with_reducible rfl)
    simp only [Act.put, List.setIfInBounds_toArray, List.set_cons_zero, List.set_cons_succ]
    refine wpAnyH_take (i := 9) (oi := { dst := some 12, op := Op.fieldAddr 62 (Operand.tmp 1) 2, type := 0, pos := "l09_reader.go:109", after := #[{ on := 8, ground := Ground.guard }], guard := some (8, true) }) (v := undef) rfl (by kernel_rfl) (by kernel_rfl) (by kernel_rfl) (fun _ _ _ h => h) (Or.inr ⟨by rfl, rfl⟩) hHeld ?_
    simp only [Act.put, List.setIfInBounds_toArray, List.set_cons_zero, List.set_cons_succ]
    refine wpAnyH_take (i := 10) (oi := { dst := some 13, op := Op.load 26 (Operand.tmp 12), type := 26, pos := "l09_reader.go:109", after := #[{ on := 9, ground := Ground.data }, { on := 8, ground := Ground.guard }], guard := some (8, true) }) (v := undef) rfl (by kernel_rfl) (by kernel_rfl) (by kernel_rfl) (fun _ _ _ h => h) (Or.inr ⟨by rfl, rfl⟩) hHeld ?_
    simp only [Act.put, List.setIfInBounds_toArray, List.set_cons_zero, List.set_cons_succ]
    refine wpAnyH_take (i := 11) (oi := { dst := some 14, op := Op.load 62 (Operand.tmp 1), type := 62, pos := "l09_reader.go:109", after := #[{ on := 8, ground := Ground.guard }], guard := some (8, true) }) (v := undef) rfl (by kernel_rfl) (by kernel_rfl) (by kernel_rfl) (fun _ _ _ h => h) (Or.inr ⟨by rfl, rfl⟩) hHeld ?_
    simp only [Act.put, List.setIfInBounds_toArray, List.set_cons_zero, List.set_cons_succ]
    refine wpAnyH_take (i := 12) (oi := { dst := some 15, op := Op.call { callee := Callee.value (Operand.func 60), args := #[Operand.tmp 14], argTypes := #[62] }, type := 2, pos := "l09_reader.go:109", after := #[{ on := 11, ground := Ground.data }, { on := 8, ground := Ground.chain }, { on := 8, ground := Ground.guard }], guard := some (8, true) }) (v := undef) rfl (by kernel_rfl) (by kernel_rfl) (by kernel_rfl) (fun _ _ _ h => h) (Or.inr ⟨by rfl, rfl⟩) hHeld ?_
    simp only [Act.put, List.setIfInBounds_toArray, List.set_cons_zero, List.set_cons_succ]
    refine wpAnyH_take (i := 13) (oi := { dst := some 16, op := Op.call { callee := Callee.value (Operand.func 69), args := #[Operand.tmp 13, Operand.tmp 15], argTypes := #[26, 2] }, type := 4, pos := "l09_reader.go:109", after := #[{ on := 10, ground := Ground.data }, { on := 12, ground := Ground.data }, { on := 12, ground := Ground.chain }, { on := 8, ground := Ground.guard }], guard := some (8, true) }) (v := undef) rfl (by kernel_rfl) (by kernel_rfl) (by kernel_rfl) (fun _ _ _ h => h) (Or.inr ⟨by rfl, rfl⟩) hHeld ?_
    simp only [Act.put, List.setIfInBounds_toArray, List.set_cons_zero, List.set_cons_succ]
    refine wpAnyH_take (i := 14) (oi := { dst := some 17, op := Op.pick (Operand.tmp 11) (Operand.tmp 16) (Operand.const (Value.bool false)), type := 4, pos := "l09_reader.go:109", after := #[{ on := 8, ground := Ground.data }, { on := 13, ground := Ground.data }], guard := none }) (v := ?_) rfl (by kernel_rfl) (by kernel_rfl) (by kernel_rfl) (fun _ _ _ h => h) (Or.inl ⟨by rfl, ?hy⟩) hHeld ?_
    case hy => (intro w' hSw; (try dsimp only at hSw); go_simp; try with_reducible rfl)
    simp only [Act.put, List.setIfInBounds_toArray, List.set_cons_zero, List.set_cons_succ]
    refine wpAnyH_take (i := 15) (oi := { dst := some 2, op := Op.assign (Operand.tmp 17), type := 4, pos := "l09_reader.go:109", after := #[{ on := 14, ground := Ground.data }, { on := 13, ground := Ground.chain }, { on := 0, ground := Ground.phase }, { on := 1, ground := Ground.phase }, { on := 2, ground := Ground.phase }, { on := 3, ground := Ground.phase }, { on := 4, ground := Ground.phase }, { on := 5, ground := Ground.phase }, { on := 6, ground := Ground.phase }, { on := 7, ground := Ground.phase }, { on := 8, ground := Ground.phase }, { on := 9, ground := Ground.phase }, { on := 10, ground := Ground.phase }, { on := 11, ground := Ground.phase }, { on := 12, ground := Ground.phase }, { on := 13, ground := Ground.phase }, { on := 14, ground := Ground.phase }], guard := none }) (v := ?_) rfl (by kernel_rfl) (by kernel_rfl) (by kernel_rfl) (fun _ _ _ h => h) (Or.inl ⟨by rfl, ?hy⟩) hHeld ?_
    case hy => (intro w' hSw; (try dsimp only at hSw); go_simp; try with_reducible rfl)
    simp only [Act.put, List.setIfInBounds_toArray, List.set_cons_zero, List.set_cons_succ]
    refine wpAnyH_done (by kernel_rfl) ?_ _
    go_wp2
    go_ret
    exact ⟨rfl, FB.out.trans (HC.out.mono (by omega))⟩
  | true =>
  rw [hf] at IF0
  have IF := Lib.hid IF0
  obtain ⟨q, hq⟩ : ∃ q, mkValid (s.size : Int) es = q := ⟨_, rfl⟩
  rw [hq] at VM ⊢
  clear VC0 hv IF0 hf hq
  go_enter Try.func57, Try.ntmps57
  go_upto_region 1 with (fail)
  have b0 : BoxF (w.alloc (.cells #[.string s, .int .i64 f, .slice a es.length c] 62)) w.heap.size #[.string s, .int .i64 f, .slice a es.length c] := BoxF.new w _ _ _ rfl
  have FB := Lib.hid (show Below w.heap.size w (w.alloc (.cells #[.string s, .int .i64 f, .slice a es.length c] 62)) by go_grown)
  have hlt : w.heap.size < (w.alloc (.cells #[.string s, .int .i64 f, .slice a es.length c] 62)).heap.size := by simp
  generalize (w.alloc (.cells #[.string s, .int .i64 f, .slice a es.length c] 62)) = W at *
  have KS := Lib.hid (fun w' (hb : Below W.heap.size W w') => (show w'.cell? ⟨w.heap.size, 0, none⟩ = some (.string s) ∧ w'.cell? ⟨w.heap.size, 1, none⟩ = some (.int .i64 f) ∧ w'.cell? ⟨w.heap.size, 2, none⟩ = some (.slice a es.length c) from ⟨((b0.below hb hlt).box 0 _ rfl), ((b0.below hb hlt).box 1 _ rfl), ((b0.below hb hlt).box 2 _ rfl)⟩))
  have HC := Lib.hid (show Below W.heap.size W W.drew from (Below.refl _ _).drew)
  refine wp_region_held_drew (S := (fun w' => w'.cell? ⟨w.heap.size, 0, none⟩ = some (.string s) ∧ w'.cell? ⟨w.heap.size, 1, none⟩ = some (.int .i64 f) ∧ w'.cell? ⟨w.heap.size, 2, none⟩ = some (.slice a es.length c))) (by kernel_rfl) (KS.out _ HC.out) (fun hHeld => ?_)
  refine wpAnyH_take (i := 0) (oi := { dst := some 3, op := Op.fieldAddr 62 (Operand.tmp 1) 0, type := 0, pos := "l09_reader.go:109", after := #[], guard := none }) (v := ?_) rfl (by kernel_rfl) (by kernel_rfl) (by kernel_rfl) (fun _ _ _ h => h) (Or.inl ⟨by rfl, ?hy⟩) hHeld ?_
  case hy => (intro w' hSw; (try dsimp only at hSw); go_simp; try with_reducible rfl)
  simp only [Act.put, List.setIfInBounds_toArray, List.set_cons_zero, List.set_cons_succ]
  refine wpAnyH_take (i := 1) (oi := { dst := some 4, op := Op.load 9 (Operand.tmp 3), type := 9, pos := "l09_reader.go:109", after := #[{ on := 0, ground := Ground.data }], guard := none }) (v := ?_) rfl (by kernel_rfl) (by kernel_rfl) (by kernel_rfl) (fun _ _ _ h => h) (Or.inl ⟨by rfl, ?hy⟩) hHeld ?_
  case hy => (intro w' hSw; (try dsimp only at hSw); go_simp; try with_reducible rfl)
  simp only [Act.put, List.setIfInBounds_toArray, List.set_cons_zero, List.set_cons_succ]
  refine wpAnyH_ready (rs := [2]) (by kernel_rfl) (by simp) ?_
  refine AllReadyH.cons (o := { dst := some 5, op := Op.call { callee := Callee.value (Operand.func 67), args := #[Operand.tmp 4], argTypes := #[9] }, type := 4, pos := "l09_reader.go:109", after := #[{ on := 1, ground := Ground.data }], guard := none }) rfl (fun K hK => ?_) AllReadyH.nil
  go_simp
  go_at_call 67; refine (VC.out _).mono ?_; rintro e w2 ⟨rfl, hb2⟩; replace HC := Lib.hid (HC.out.trans (hb2.mono HC.out.size))
  go_wp2_with fail
  refine hK.out _ _ (KS.out _ HC.out) (fun hHeld => ?_)
  clear hK K
  try simp only [Act.put, List.setIfInBounds_toArray, List.set_cons_zero, List.set_cons_succ]
  refine wpAnyH_take (i := 3) (oi := { dst := some 6, op := Op.move (Operand.tmp 5), type := 4, pos := "l09_reader.go:109", after := #[{ on := 2, ground := Ground.data }, { on := 2, ground := Ground.chain }], guard := none }) (v := ?_) rfl (by kernel_rfl) (by kernel_rfl) (by kernel_rfl) (fun _ _ _ h => h) (Or.inl ⟨by rfl, ?hy⟩) hHeld ?_
  case hy => (intro w' hSw; (try dsimp only at hSw); go_simp; try with_reducible rfl)
  simp only [Act.put, List.setIfInBounds_toArray, List.set_cons_zero, List.set_cons_succ]
  refine wpAnyH_take (i := 4) (oi := { dst := some 7, op := Op.fieldAddr 62 (Operand.tmp 1) 1, type := 0, pos := "l09_reader.go:109", after := #[{ on := 3, ground := Ground.guard }], guard := some (3, true) }) (v := ?_) rfl (by kernel_rfl) (by kernel_rfl) (by kernel_rfl) (fun _ _ _ h => h) (Or.inl ⟨by rfl, ?hy⟩) hHeld ?_
  case hy => (intro w' hSw; (try dsimp only at hSw); go_simp; try with_reducible rfl)
  simp only [Act.put, List.setIfInBounds_toArray, List.set_cons_zero, List.set_cons_succ]
  refine wpAnyH_take (i := 5) (oi := { dst := some 8, op := Op.load 2 (Operand.tmp 7), type := 2, pos := "l09_reader.go:109", after := #[{ on := 4, ground := Ground.data }, { on := 3, ground := Ground.guard }], guard := some (3, true) }) (v := ?_) rfl (by kernel_rfl) (by kernel_rfl) (by kernel_rfl) (fun _ _ _ h => h) (Or.inl ⟨by rfl, ?hy⟩) hHeld ?_
  case hy => (intro w' hSw; (try dsimp only at hSw); go_simp; try with_reducible rfl)
  simp only [Act.put, List.setIfInBounds_toArray, List.set_cons_zero, List.set_cons_succ]
  refine wpAnyH_ready (rs := [6]) (by kernel_rfl) (by simp) ?_
  refine AllReadyH.cons (o := { dst := some 9, op := Op.call { callee := Callee.value (Operand.func 68), args := #[Operand.tmp 8], argTypes := #[2] }, type := 4, pos := "l09_reader.go:109", after := #[{ on := 5, ground := Ground.data }, { on := 3, ground := Ground.chain }, { on := 3, ground := Ground.guard }], guard := some (3, true) }) rfl (fun K hK => ?_) AllReadyH.nil
  go_simp
  go_at_call 68; refine (IF.out _).mono ?_; rintro e w3 ⟨rfl, hb3⟩; replace HC := Lib.hid (HC.out.trans (hb3.mono HC.out.size))
  go_wp2_with fail
  refine hK.out _ _ (KS.out _ HC.out) (fun hHeld => ?_)
  clear hK K
  try simp only [Act.put, List.setIfInBounds_toArray, List.set_cons_zero, List.set_cons_succ]
  refine wpAnyH_take (i := 7) (oi := { dst := some 10, op := Op.pick (Operand.tmp 6) (Operand.tmp 9) (Operand.const (Value.bool false)), type := 4, pos := "l09_reader.go:109", after := #[{ on := 3, ground := Ground.data }, { on := 6, ground := Ground.data }], guard := none }) (v := ?_) rfl (by kernel_rfl) (by kernel_rfl) (by kernel_rfl) (fun _ _ _ h => h) (Or.inl ⟨by rfl, ?hy⟩) hHeld ?_
  case hy => (intro w' hSw; (try dsimp only at hSw); go_simp; try with_reducible rfl)
  simp only [Act.put, List.setIfInBounds_toArray, List.set_cons_zero, List.set_cons_succ]
  refine wpAnyH_take (i := 8) (oi := { dst := some 11, op := Op.move (Operand.tmp 10), type := 4, pos := "l09_reader.go:109", after := #[{ on := 7, ground := Ground.data }, { on := 6, ground := Ground.chain }], guard := none }) (v := ?_) rfl (by kernel_rfl) (by kernel_rfl) (by kernel_rfl) (fun _ _ _ h => h) (Or.inl ⟨by rfl, ?hy⟩) hHeld ?_
  case hy => (intro w' hSw; (try dsimp only at hSw); go_simp; try with_reducible rfl)
  simp only [Act.put, List.setIfInBounds_toArray, List.set_cons_zero, List.set_cons_succ]
  refine wpAnyH_take (i := 9) (oi := { dst := some 12, op := Op.fieldAddr 62 (Operand.tmp 1) 2, type := 0, pos := "l09_reader.go:109", after := #[{ on := 8, ground := Ground.guard }], guard := some (8, true) }) (v := ?_) rfl (by kernel_rfl) (by kernel_rfl) (by kernel_rfl) (fun _ _ _ h => h) (Or.inl ⟨by rfl, ?hy⟩) hHeld ?_
  case hy => (intro w' hSw; (try dsimp only at hSw); go_simp; try with_reducible rfl)
  simp only [Act.put, List.setIfInBounds_toArray, List.set_cons_zero, List.set_cons_succ]
  refine wpAnyH_take (i := 10) (oi := { dst := some 13, op := Op.load 26 (Operand.tmp 12), type := 26, pos := "l09_reader.go:109", after := #[{ on := 9, ground := Ground.data }, { on := 8, ground := Ground.guard }], guard := some (8, true) }) (v := ?_) rfl (by kernel_rfl) (by kernel_rfl) (by kernel_rfl) (fun _ _ _ h => h) (Or.inl ⟨by rfl, ?hy⟩) hHeld ?_
  case hy => (intro w' hSw; (try dsimp only at hSw); go_simp; try with_reducible rfl)
  simp only [Act.put, List.setIfInBounds_toArray, List.set_cons_zero, List.set_cons_succ]
  refine wpAnyH_take (i := 11) (oi := { dst := some 14, op := Op.load 62 (Operand.tmp 1), type := 62, pos := "l09_reader.go:109", after := #[{ on := 8, ground := Ground.guard }], guard := some (8, true) }) (v := ?_) rfl (by kernel_rfl) (by kernel_rfl) (by kernel_rfl) (fun _ _ _ h => h) (Or.inl ⟨by rfl, ?hy⟩) hHeld ?_
  case hy => (intro w' hSw; (try dsimp only at hSw); go_simp; try with_reducible rfl)
  simp only [Act.put, List.setIfInBounds_toArray, List.set_cons_zero, List.set_cons_succ]
  refine wpAnyH_ready (rs := [12]) (by kernel_rfl) (by simp) ?_
  refine AllReadyH.cons (o := { dst := some 15, op := Op.call { callee := Callee.value (Operand.func 60), args := #[Operand.tmp 14], argTypes := #[62] }, type := 2, pos := "l09_reader.go:109", after := #[{ on := 11, ground := Ground.data }, { on := 8, ground := Ground.chain }, { on := 8, ground := Ground.guard }], guard := some (8, true) }) rfl (fun K hK => ?_) AllReadyH.nil
  go_simp
  go_at_call 60; refine (TO.out _).mono ?_; rintro e w4 ⟨rfl, hb4⟩; replace HC := Lib.hid (HC.out.trans (hb4.mono HC.out.size))
  go_wp2_with fail
  refine hK.out _ _ (KS.out _ HC.out) (fun hHeld => ?_)
  clear hK K
  try simp only [Act.put, List.setIfInBounds_toArray, List.set_cons_zero, List.set_cons_succ]
  refine wpAnyH_ready (rs := [13]) (by kernel_rfl) (by simp) ?_
  refine AllReadyH.cons (o := { dst := some 16, op := Op.call { callee := Callee.value (Operand.func 69), args := #[Operand.tmp 13, Operand.tmp 15], argTypes := #[26, 2] }, type := 4, pos := "l09_reader.go:109", after := #[{ on := 10, ground := Ground.data }, { on := 12, ground := Ground.data }, { on := 12, ground := Ground.chain }, { on := 8, ground := Ground.guard }], guard := some (8, true) }) rfl (fun K hK => ?_) AllReadyH.nil
  go_simp
  go_at_call 69; refine (VM.out _ (FB.out.trans (HC.out.mono (by omega)))).mono ?_; rintro e w5 ⟨rfl, hb5⟩; replace HC := Lib.hid (HC.out.trans (hb5.mono HC.out.size))
  go_wp2_with fail
  refine hK.out _ _ (KS.out _ HC.out) (fun hHeld => ?_)
  clear hK K
  try simp only [Act.put, List.setIfInBounds_toArray, List.set_cons_zero, List.set_cons_succ]
  refine wpAnyH_take (i := 14) (oi := { dst := some 17, op := Op.pick (Operand.tmp 11) (Operand.tmp 16) (Operand.const (Value.bool false)), type := 4, pos := "l09_reader.go:109", after := #[{ on := 8, ground := Ground.data }, { on := 13, ground := Ground.data }], guard := none }) (v := ?_) rfl (by kernel_rfl) (by kernel_rfl) (by kernel_rfl) (fun _ _ _ h => h) (Or.inl ⟨by rfl, ?hy⟩) hHeld ?_
  case hy => (intro w' hSw; (try dsimp only at hSw); go_simp; try with_reducible rfl)
  simp only [Act.put, List.setIfInBounds_toArray, List.set_cons_zero, List.set_cons_succ]
  refine wpAnyH_take (i := 15) (oi := { dst := some 2, op := Op.assign (Operand.tmp 17), type := 4, pos := "l09_reader.go:109", after := #[{ on := 14, ground := Ground.data }, { on := 13, ground := Ground.chain }, { on := 0, ground := Ground.phase }, { on := 1, ground := Ground.phase }, { on := 2, ground := Ground.phase }, { on := 3, ground := Ground.phase }, { on := 4, ground := Ground.phase }, { on := 5, ground := Ground.phase }, { on := 6, ground := Ground.phase }, { on := 7, ground := Ground.phase }, { on := 8, ground := Ground.phase }, { on := 9, ground := Ground.phase }, { on := 10, ground := Ground.phase }, { on := 11, ground := Ground.phase }, { on := 12, ground := Ground.phase }, { on := 13, ground := Ground.phase }, { on := 14, ground := Ground.phase }], guard := none }) (v := ?_) rfl (by kernel_rfl) (by kernel_rfl) (by kernel_rfl) (fun _ _ _ h => h) (Or.inl ⟨by rfl, ?hy⟩) hHeld ?_
  case hy => (intro w' hSw; (try dsimp only at hSw); go_simp; try with_reducible rfl)
  simp only [Act.put, List.setIfInBounds_toArray, List.set_cons_zero, List.set_cons_succ]
  refine wpAnyH_done (by kernel_rfl) ?_ _
  go_wp2
  go_ret
  exact ⟨rfl, FB.out.trans (HC.out.mono (by omega))⟩
def kindAt (es : List MarkV) (k : Int) : Int := match es[k.toNat]? with | some e => e.f0 | none => 0
def askC (s : ByteArray) (f : Int) (es : List MarkV) (k : Int) : Int := if mtOk s f es = true then (if inB 0 ((es.length : Int) - 1) k = true then (if kindAt es k = 1 then 0 else 6) else 3) else 1
set_option maxHeartbeats 4000000 in
theorem idCode_any (s : ByteArray) (f : Int) (a : Option Addr) (es : List MarkV) (c : Nat) (k : Int) (w : World) (hs : s.size ≤ 1048576) (hm : es.length ≤ 1048576) (h : SlS rowMark w a es) : Calls Try.prog 29 #[.agg #[.string s, .int .i64 f, .slice a es.length c], .int .i64 k] w fun e w' => e = .returned (.int .i64 (askC s f es k)) ∧ Below w.heap.size w w' := by
  have vm := fun w' (hb : Below w.heap.size w w') => mtValid_any s f a es c w' hs hm (h.below hb (Nat.le_refl _))
  have pl := fun w => isPlace_any k (es.length : Int) w (by omega) (by omega)
  have EL := Lib.hid (fun w' (hb : Below w.heap.size w w') => h.below hb (Nat.le_refl _))
  unfold askC
  clear h
  cases hv : mtOk s f es with
  | false =>
    rw [hv] at vm
    rw [if_neg (by simp)]
    have VM := Lib.hid vm
    clear vm hv
    go_enter Try.func29, Try.ntmps29
    go_wp2_with fail
    refine (VM.out _ (by go_grown)).mono ?_
    rintro e w1 ⟨rfl, hb1⟩
    have b1 : BoxF w1 w.heap.size #[.string s, .int .i64 f, .slice a es.length c] := BoxF.below (BoxF.new w _ 62 _ rfl) hb1 (by simp)
    have F1 := Lib.hid (show Below w.heap.size w w1 from Below.trans (by go_grown) (hb1.mono (by simp)))
    have hl1 : w.heap.size < w1.heap.size := by have := hb1.size; simp at this; omega
    obtain ⟨x10, _⟩ := b1 0 _ rfl
    obtain ⟨x11, _⟩ := b1 1 _ rfl
    obtain ⟨x12, _⟩ := b1 2 _ rfl
    clear hb1
    go_wp2
    go_ret
    exact ⟨rfl, F1.out⟩
  | true =>
  rw [hv] at vm
  rw [if_pos rfl]
  have VM := Lib.hid vm
  clear vm hv
  cases hp : inB 0 ((es.length : Int) - 1) k with
  | false =>
    rw [hp] at pl
    rw [if_neg (by simp)]
    have PL := Lib.hid pl
    clear pl hp
    go_enter Try.func29, Try.ntmps29
    go_wp2_with fail
    refine (VM.out _ (by go_grown)).mono ?_
    rintro e w1 ⟨rfl, hb1⟩
    have b1 : BoxF w1 w.heap.size #[.string s, .int .i64 f, .slice a es.length c] := BoxF.below (BoxF.new w _ 62 _ rfl) hb1 (by simp)
    have F1 := Lib.hid (show Below w.heap.size w w1 from Below.trans (by go_grown) (hb1.mono (by simp)))
    have hl1 : w.heap.size < w1.heap.size := by have := hb1.size; simp at this; omega
    obtain ⟨x10, _⟩ := b1 0 _ rfl
    obtain ⟨x11, _⟩ := b1 1 _ rfl
    obtain ⟨x12, _⟩ := b1 2 _ rfl
    clear hb1
    go_wp2_with fail
    refine (PL.out _).mono ?_
    rintro e w2 ⟨rfl, hb2⟩
    have F2 := Lib.hid (F1.out.trans (hb2.mono F1.out.size))
    have b2 := b1.below hb2 hl1
    clear x10 x11 x12 hb2
    obtain ⟨x20, _⟩ := b2 0 _ rfl
    obtain ⟨x21, _⟩ := b2 1 _ rfl
    obtain ⟨x22, _⟩ := b2 2 _ rfl
    go_wp2
    go_ret
    exact ⟨rfl, F2.out⟩
  | true =>
  rw [hp] at pl
  rw [if_pos rfl]
  have PL := Lib.hid pl
  obtain ⟨i0, i1⟩ := inB_iff.1 hp
  obtain ⟨m, rfl⟩ : ∃ m : Nat, k = (m : Int) := ⟨k.toNat, by omega⟩
  have hml : m < es.length := by omega
  have e1 : (m : Int) < es.length := by omega
  obtain ⟨x, hx⟩ : ∃ e, es[m]? = some e := ⟨es[m], by simp [hml]⟩
  have hkk : kindAt es (m : Int) = x.f0 := by unfold kindAt; rw [Int.toNat_natCast, hx]
  rw [hkk]
  have HXX := Lib.hid hx
  clear pl hp i0 i1 hkk hx
  by_cases hk : x.f0 = 1
  · have hk1 : (x.f0 != 1) = false := by simp [hk]
    rw [if_pos hk]
    clear hk
    go_enter Try.func29, Try.ntmps29
    go_wp2_with fail
    refine (VM.out _ (by go_grown)).mono ?_
    rintro e w1 ⟨rfl, hb1⟩
    have b1 : BoxF w1 w.heap.size #[.string s, .int .i64 f, .slice a es.length c] := BoxF.below (BoxF.new w _ 62 _ rfl) hb1 (by simp)
    have F1 := Lib.hid (show Below w.heap.size w w1 from Below.trans (by go_grown) (hb1.mono (by simp)))
    have hl1 : w.heap.size < w1.heap.size := by have := hb1.size; simp at this; omega
    obtain ⟨x10, _⟩ := b1 0 _ rfl
    obtain ⟨x11, _⟩ := b1 1 _ rfl
    obtain ⟨x12, _⟩ := b1 2 _ rfl
    clear hb1
    go_wp2_with fail
    refine (PL.out _).mono ?_
    rintro e w2 ⟨rfl, hb2⟩
    have F2 := Lib.hid (F1.out.trans (hb2.mono F1.out.size))
    have b2 := b1.below hb2 hl1
    clear x10 x11 x12 hb2
    obtain ⟨x20, _⟩ := b2 0 _ rfl
    obtain ⟨x21, _⟩ := b2 1 _ rfl
    obtain ⟨x22, _⟩ := b2 2 _ rfl
    obtain ⟨bb, off, rfl, hbl, hcc⟩ := (EL.out _ F2.out).at rowMark_len HXX.out
    have c0 : w2.cell? ⟨bb, off + m * 3, none⟩ = some (.int .i64 x.f0) := hcc 0 _ rfl
    clear hcc
    go_wp2
    go_ret
    exact ⟨rfl, F2.out⟩
  · have hk1 : (x.f0 != 1) = true := by simp [hk]
    rw [if_neg hk]
    clear hk
    go_enter Try.func29, Try.ntmps29
    go_wp2_with fail
    refine (VM.out _ (by go_grown)).mono ?_
    rintro e w1 ⟨rfl, hb1⟩
    have b1 : BoxF w1 w.heap.size #[.string s, .int .i64 f, .slice a es.length c] := BoxF.below (BoxF.new w _ 62 _ rfl) hb1 (by simp)
    have F1 := Lib.hid (show Below w.heap.size w w1 from Below.trans (by go_grown) (hb1.mono (by simp)))
    have hl1 : w.heap.size < w1.heap.size := by have := hb1.size; simp at this; omega
    obtain ⟨x10, _⟩ := b1 0 _ rfl
    obtain ⟨x11, _⟩ := b1 1 _ rfl
    obtain ⟨x12, _⟩ := b1 2 _ rfl
    clear hb1
    go_wp2_with fail
    refine (PL.out _).mono ?_
    rintro e w2 ⟨rfl, hb2⟩
    have F2 := Lib.hid (F1.out.trans (hb2.mono F1.out.size))
    have b2 := b1.below hb2 hl1
    clear x10 x11 x12 hb2
    obtain ⟨x20, _⟩ := b2 0 _ rfl
    obtain ⟨x21, _⟩ := b2 1 _ rfl
    obtain ⟨x22, _⟩ := b2 2 _ rfl
    obtain ⟨bb, off, rfl, hbl, hcc⟩ := (EL.out _ F2.out).at rowMark_len HXX.out
    have c0 : w2.cell? ⟨bb, off + m * 3, none⟩ = some (.int .i64 x.f0) := hcc 0 _ rfl
    clear hcc
    go_wp2
    go_ret
    exact ⟨rfl, F2.out⟩
/-- Two structs of three cells in boxes of the region's own. -/
def TwoIn3 (a b c a' b' c' : Value) (W wx : World) (v u : Value) : Prop :=
  ∃ p q, v = .pointer (some ⟨p, 0, none⟩) ∧ u = .pointer (some ⟨q, 0, none⟩) ∧ W.heap.size ≤ p ∧ W.heap.size ≤ q ∧ p < wx.heap.size ∧ q < wx.heap.size ∧ BoxF wx p #[a, b, c] ∧ BoxF wx q #[a', b', c']
theorem TwoIn3.mk {W w : World} {p q : Nat} {z0 z1 z2 y0 y1 y2 a b c a' b' c' : Value} {Ty Ty' : TypeId} (hpq : p ≠ q) (hp : W.heap.size ≤ p) (hq : W.heap.size ≤ q) (hm : MadeAt w p (.cells #[z0, z1, z2] Ty)) (hm' : MadeAt w q (.cells #[y0, y1, y2] Ty')) :
    TwoIn3 a b c a' b' c' W ((((((w.setCell ⟨p, 0, none⟩ a).setCell ⟨p, 1, none⟩ b).setCell ⟨p, 2, none⟩ c).setCell ⟨q, 0, none⟩ a').setCell ⟨q, 1, none⟩ b').setCell ⟨q, 2, none⟩ c') (.pointer (some ⟨p, 0, none⟩)) (.pointer (some ⟨q, 0, none⟩)) := by
  obtain ⟨c0, f0⟩ := hm.at 0 rfl
  obtain ⟨c1, f1⟩ := hm.at 1 rfl
  obtain ⟨c2, f2⟩ := hm.at 2 rfl
  obtain ⟨d0, g0⟩ := hm'.at 0 rfl
  obtain ⟨d1, g1⟩ := hm'.at 1 rfl
  obtain ⟨d2, g2⟩ := hm'.at 2 rfl
  have h1 := hm.lt
  have h2 := hm'.lt
  have hqp : ¬ q = p := fun h => hpq h.symm
  exact ⟨p, q, rfl, rfl, hp, hq, by simpa [World.setCell] using h1, by simpa [World.setCell] using h2, boxF3 (by simp [go_sem, c0, f0, hpq, hqp]) (by simp [go_sem, c1, f1, hpq, hqp]) (by simp [go_sem, c2, f2, hpq, hqp]), boxF3 (by simp [go_sem, d0, g0, hpq, hqp]) (by simp [go_sem, d1, g1, hpq, hqp]) (by simp [go_sem, d2, g2, hpq, hqp])⟩
def dmGood (total : Int) (x y : MarkV) : Bool := !(y.f0 == 1) && !decide (320 < betV total x.f2 y.f1)
set_option maxHeartbeats 8000000 in
theorem dataMark_any (s : ByteArray) (f : Int) (a : Option Addr) (es : List MarkV) (c : Nat) (m j : Nat) (x y : MarkV) (w : World) (hs : s.size ≤ 1048576) (hm : es.length ≤ 1048576) (h : SlS rowMark w a es) (hx : es[m]? = some x) (hy : es[j]? = some y) (hj : j = (m + 1) % es.length) :
    Calls Try.prog 30 #[.agg #[.string s, .int .i64 f, .slice a es.length c], .int .i64 (m : Int)] w fun e w' => e = .returned (.tuple #[.int .i64 (if dmGood s.size x y = true then (j : Int) else 0), .bool (dmGood s.size x y)]) ∧ Below w.heap.size w w' := by
  obtain ⟨g, hg⟩ : ∃ g, dmGood s.size x y = g := ⟨_, rfl⟩
  rw [hg]
  obtain ⟨nn, hnn⟩ : ∃ nn, (if g = true then (j : Int) else 0) = nn := ⟨_, rfl⟩
  rw [hnn]
  have HQ := Lib.hid (And.intro hg hnn)
  clear hg hnn
  have hml : m < es.length := (List.getElem?_eq_some_iff.1 hx).1
  have hjl : j < es.length := (List.getElem?_eq_some_iff.1 hy).1
  have TO := Lib.hid (fun w => mtTotal_any s f a es c w hs)
  have CB := Lib.hid (fun w => cellsBetween_any (s.size : Int) x.f2 y.f1 w)
  have hn0 : ¬ (es.length : Int) = 0 := by omega
  have hn1 : ¬ es.length = 0 := by omega
  have hjm : ((m : Int) + 1) % (es.length : Int) = (j : Int) := by rw [hj]; simp
  have hjt : ((m : Int) + 1).tmod (es.length : Int) = (j : Int) := by rw [Int.tmod_eq_emod_of_nonneg (by omega)]; exact hjm
  have hlen0 : ¬ es = [] := by intro h9; rw [h9] at hml; simp at hml
  obtain ⟨bb, off, rfl, hbl, hcx⟩ := h.at rowMark_len hx
  obtain ⟨b2, o2, hba, _, hcy⟩ := h.at rowMark_len hy
  cases hba
  have x0 : w.cell? ⟨bb, off + m * 3, none⟩ = some (.int .i64 x.f0) := hcx 0 _ rfl
  have x1 : w.cell? ⟨bb, off + m * 3 + 1, none⟩ = some (.int .i64 x.f1) := hcx 1 _ rfl
  have x2 : w.cell? ⟨bb, off + m * 3 + 2, none⟩ = some (.int .i64 x.f2) := hcx 2 _ rfl
  have y0 : w.cell? ⟨bb, off + j * 3, none⟩ = some (.int .i64 y.f0) := hcy 0 _ rfl
  have y1 : w.cell? ⟨bb, off + j * 3 + 1, none⟩ = some (.int .i64 y.f1) := hcy 1 _ rfl
  have y2 : w.cell? ⟨bb, off + j * 3 + 2, none⟩ = some (.int .i64 y.f2) := hcy 2 _ rfl
  have HXY := Lib.hid (And.intro x0 (And.intro x1 (And.intro x2 (And.intro y0 (And.intro y1 (And.intro y2 hbl))))))
  have e1 : (m : Int) < es.length := by omega
  have e2 : (j : Int) < es.length := by omega
  clear hcx hcy h hx hy hj x0 x1 x2 y0 y1 y2
  go_enter Try.func30, Try.ntmps30
  go_upto_region 2 with (fail)
  have b0 : BoxF (w.alloc (.cells #[.string s, .int .i64 f, .slice (some ⟨bb, off, none⟩) es.length c] 62)) w.heap.size #[.string s, .int .i64 f, .slice (some ⟨bb, off, none⟩) es.length c] := BoxF.new w _ _ _ rfl
  have FB := Lib.hid (show Below w.heap.size w (w.alloc (.cells #[.string s, .int .i64 f, .slice (some ⟨bb, off, none⟩) es.length c] 62)) by go_grown)
  have hlt : w.heap.size < (w.alloc (.cells #[.string s, .int .i64 f, .slice (some ⟨bb, off, none⟩) es.length c] 62)).heap.size := by simp
  have HXW := Lib.hid (fun b o (hb : b < w.heap.size) => (((Below.refl w.heap.size w).alloc (Nat.le_refl _) (.cells #[.string s, .int .i64 f, .slice (some ⟨bb, off, none⟩) es.length c] 62)).cell (p := ⟨b, o, none⟩) hb))
  generalize (w.alloc (.cells #[.string s, .int .i64 f, .slice (some ⟨bb, off, none⟩) es.length c] 62)) = W at *
  obtain ⟨x0, x1, x2, y0, y1, y2, hbl⟩ := HXY.out
  have hbW : bb < W.heap.size := by omega
  rw [← HXW.out _ _ hbl] at x0 x1 x2 y0 y1 y2
  go_cut [7, 8] (fun v7 v8 wx => Hid (TwoIn3 (.int .i64 x.f0) (.int .i64 x.f1) (.int .i64 x.f2) (.int .i64 y.f0) (.int .i64 y.f1) (.int .i64 y.f2) W wx v7 v8 ∧ Below W.heap.size W wx))
  case first =>
    have KS := Lib.hid (fun w' (hb : Below W.heap.size W w') => (show w'.cell? ⟨w.heap.size, 0, none⟩ = some (.string s) ∧ w'.cell? ⟨w.heap.size, 1, none⟩ = some (.int .i64 f) ∧ w'.cell? ⟨w.heap.size, 2, none⟩ = some (.slice (some ⟨bb, off, none⟩) es.length c) ∧ w'.cell? ⟨bb, off + m * 3, none⟩ = some (.int .i64 x.f0) ∧ w'.cell? ⟨bb, off + m * 3 + 1, none⟩ = some (.int .i64 x.f1) ∧ w'.cell? ⟨bb, off + m * 3 + 2, none⟩ = some (.int .i64 x.f2) ∧ w'.cell? ⟨bb, off + j * 3, none⟩ = some (.int .i64 y.f0) ∧ w'.cell? ⟨bb, off + j * 3 + 1, none⟩ = some (.int .i64 y.f1) ∧ w'.cell? ⟨bb, off + j * 3 + 2, none⟩ = some (.int .i64 y.f2) from ⟨((b0.below hb hlt).box 0 _ rfl), ((b0.below hb hlt).box 1 _ rfl), ((b0.below hb hlt).box 2 _ rfl), by rw [hb.cell (p := ⟨bb, _, none⟩) hbW]; exact x0, by rw [hb.cell (p := ⟨bb, _, none⟩) hbW]; exact x1, by rw [hb.cell (p := ⟨bb, _, none⟩) hbW]; exact x2, by rw [hb.cell (p := ⟨bb, _, none⟩) hbW]; exact y0, by rw [hb.cell (p := ⟨bb, _, none⟩) hbW]; exact y1, by rw [hb.cell (p := ⟨bb, _, none⟩) hbW]; exact y2⟩))
    have HC := Lib.hid (show Below W.heap.size W W.drew from (Below.refl _ _).drew)
    clear b0 x0 x1 x2 y0 y1 y2
    refine wp_region_held_drew (S := (fun w' => w'.cell? ⟨w.heap.size, 0, none⟩ = some (.string s) ∧ w'.cell? ⟨w.heap.size, 1, none⟩ = some (.int .i64 f) ∧ w'.cell? ⟨w.heap.size, 2, none⟩ = some (.slice (some ⟨bb, off, none⟩) es.length c) ∧ w'.cell? ⟨bb, off + m * 3, none⟩ = some (.int .i64 x.f0) ∧ w'.cell? ⟨bb, off + m * 3 + 1, none⟩ = some (.int .i64 x.f1) ∧ w'.cell? ⟨bb, off + m * 3 + 2, none⟩ = some (.int .i64 x.f2) ∧ w'.cell? ⟨bb, off + j * 3, none⟩ = some (.int .i64 y.f0) ∧ w'.cell? ⟨bb, off + j * 3 + 1, none⟩ = some (.int .i64 y.f1) ∧ w'.cell? ⟨bb, off + j * 3 + 2, none⟩ = some (.int .i64 y.f2))) (by kernel_rfl) (KS.out _ HC.out) (fun hHeld => ?_)
    refine wpAnyH_take (i := 0) (oi := { dst := some 15, op := Op.fieldAddr 62 (Operand.tmp 2) 2, type := 0, pos := "l09_reader.go:146", after := #[], guard := none }) (v := ?_) rfl (by kernel_rfl) (by kernel_rfl) (by kernel_rfl) (fun _ _ _ h => h) (Or.inl ⟨by rfl, ?hy⟩) hHeld ?_
    case hy => (intro w' hSw; (try dsimp only at hSw); go_simp; try with_reducible rfl)
    simp only [Act.put, List.setIfInBounds_toArray, List.set_cons_zero, List.set_cons_succ]
    refine wpAnyH_take (i := 1) (oi := { dst := some 16, op := Op.load 26 (Operand.tmp 15), type := 26, pos := "l09_reader.go:146", after := #[{ on := 0, ground := Ground.data }], guard := none }) (v := ?_) rfl (by kernel_rfl) (by kernel_rfl) (by kernel_rfl) (fun _ _ _ h => h) (Or.inl ⟨by rfl, ?hy⟩) hHeld ?_
    case hy => (intro w' hSw; (try dsimp only at hSw); go_simp; try with_reducible rfl)
    simp only [Act.put, List.setIfInBounds_toArray, List.set_cons_zero, List.set_cons_succ]
    refine wpAnyH_take (i := 2) (oi := { dst := some 17, op := Op.move (Operand.tmp 1), type := 2, pos := "l09_reader.go:146", after := #[], guard := none }) (v := ?_) rfl (by kernel_rfl) (by kernel_rfl) (by kernel_rfl) (fun _ _ _ h => h) (Or.inl ⟨by rfl, ?hy⟩) hHeld ?_
    case hy => (intro w' hSw; (try dsimp only at hSw); go_simp; try with_reducible rfl)
    simp only [Act.put, List.setIfInBounds_toArray, List.set_cons_zero, List.set_cons_succ]
    refine wpAnyH_take (i := 3) (oi := { dst := some 18, op := Op.indexAddr 26 (Operand.tmp 16) (Operand.tmp 17), type := 0, pos := "l09_reader.go:146", after := #[{ on := 1, ground := Ground.data }, { on := 2, ground := Ground.data }], guard := none }) (v := ?_) rfl (by kernel_rfl) (by kernel_rfl) (by kernel_rfl) (fun _ _ _ h => h) (Or.inl ⟨by rfl, ?hy⟩) hHeld ?_
    case hy => (intro w' hSw; (try dsimp only at hSw); go_simp; try with_reducible rfl)
    simp only [Act.put, List.setIfInBounds_toArray, List.set_cons_zero, List.set_cons_succ]
    refine wpAnyH_take (i := 4) (oi := { dst := some 19, op := Op.load 58 (Operand.tmp 18), type := 58, pos := "l09_reader.go:146", after := #[{ on := 3, ground := Ground.data }], guard := none }) (v := ?_) rfl (by kernel_rfl) (by kernel_rfl) (by kernel_rfl) (fun _ _ _ h => h) (Or.inl ⟨by rfl, ?hy⟩) hHeld ?_
    case hy => (intro w' hSw; (try dsimp only at hSw); go_simp; try with_reducible rfl)
    simp only [Act.put, List.setIfInBounds_toArray, List.set_cons_zero, List.set_cons_succ]
    refine wpAnyH_take (i := 5) (oi := { dst := some 20, op := Op.fieldAddr 62 (Operand.tmp 2) 2, type := 0, pos := "l09_reader.go:146", after := #[{ on := 12, ground := Ground.gcOnly Departure.lateStores }], guard := none }) (v := ?_) rfl (by kernel_rfl) (by kernel_rfl) (by kernel_rfl) (fun _ _ _ h => h) (Or.inl ⟨by rfl, ?hy⟩) hHeld ?_
    case hy => (intro w' hSw; (try dsimp only at hSw); go_simp; try with_reducible rfl)
    simp only [Act.put, List.setIfInBounds_toArray, List.set_cons_zero, List.set_cons_succ]
    refine wpAnyH_take (i := 6) (oi := { dst := some 21, op := Op.load 26 (Operand.tmp 20), type := 26, pos := "l09_reader.go:146", after := #[{ on := 5, ground := Ground.data }, { on := 12, ground := Ground.gcOnly Departure.lateStores }], guard := none }) (v := ?_) rfl (by kernel_rfl) (by kernel_rfl) (by kernel_rfl) (fun _ _ _ h => h) (Or.inl ⟨by rfl, ?hy⟩) hHeld ?_
    case hy => (intro w' hSw; (try dsimp only at hSw); go_simp; try with_reducible rfl)
    simp only [Act.put, List.setIfInBounds_toArray, List.set_cons_zero, List.set_cons_succ]
    refine wpAnyH_take (i := 7) (oi := { dst := some 22, op := Op.move (Operand.tmp 6), type := 2, pos := "l09_reader.go:146", after := #[{ on := 12, ground := Ground.gcOnly Departure.lateStores }], guard := none }) (v := ?_) rfl (by kernel_rfl) (by kernel_rfl) (by kernel_rfl) (fun _ _ _ h => h) (Or.inl ⟨by rfl, ?hy⟩) hHeld ?_
    case hy => (intro w' hSw; (try dsimp only at hSw); go_simp; try with_reducible rfl)
    simp only [Act.put, List.setIfInBounds_toArray, List.set_cons_zero, List.set_cons_succ]
    refine wpAnyH_take (i := 8) (oi := { dst := some 23, op := Op.indexAddr 26 (Operand.tmp 21) (Operand.tmp 22), type := 0, pos := "l09_reader.go:146", after := #[{ on := 6, ground := Ground.data }, { on := 7, ground := Ground.data }, { on := 12, ground := Ground.gcOnly Departure.lateStores }], guard := none }) (v := ?_) rfl (by kernel_rfl) (by kernel_rfl) (by kernel_rfl) (fun _ _ _ h => h) (Or.inl ⟨by rfl, ?hy⟩) hHeld ?_
    case hy => (intro w' hSw; (try dsimp only at hSw); go_simp; try with_reducible rfl)
    simp only [Act.put, List.setIfInBounds_toArray, List.set_cons_zero, List.set_cons_succ]
    refine wpAnyH_take (i := 9) (oi := { dst := some 24, op := Op.load 58 (Operand.tmp 23), type := 58, pos := "l09_reader.go:146", after := #[{ on := 8, ground := Ground.data }, { on := 12, ground := Ground.gcOnly Departure.lateStores }], guard := none }) (v := ?_) rfl (by kernel_rfl) (by kernel_rfl) (by kernel_rfl) (fun _ _ _ h => h) (Or.inl ⟨by rfl, ?hy⟩) hHeld ?_
    case hy => (intro w' hSw; (try dsimp only at hSw); go_simp; try with_reducible rfl)
    simp only [Act.put, List.setIfInBounds_toArray, List.set_cons_zero, List.set_cons_succ]
    refine wpAnyH_ready (rs := [10, 11]) (by kernel_rfl) (by simp) ?_
    refine AllReadyH.cons (o := { dst := some 7, op := Op.alloc 58, type := 0, pos := "l09_reader.go:146", after := #[], guard := none }) rfl (fun K hK => ?_) (AllReadyH.cons (o := { dst := some 8, op := Op.alloc 58, type := 0, pos := "l09_reader.go:146", after := #[], guard := none }) rfl (fun K hK => ?_) AllReadyH.nil)
    · have E1 := Lib.hid (show MadeAt (W.alloc (.cells #[.int .i64 0, .int .i64 0, .int .i64 0] 58)).drew W.heap.size (.cells #[.int .i64 0, .int .i64 0, .int .i64 0] 58) from MadeAt.new W (.cells #[.int .i64 0, .int .i64 0, .int .i64 0] 58))
      have P1 := Lib.hid (Nat.le_refl W.heap.size)
      replace HC := Lib.hid (show Below W.heap.size W (W.alloc (.cells #[.int .i64 0, .int .i64 0, .int .i64 0] 58)).drew from ((Below.refl _ _).alloc (Nat.le_refl _) (.cells #[.int .i64 0, .int .i64 0, .int .i64 0] 58)).drew)
      go_simp
      refine hK.out _ _ (KS.out _ HC.out) (fun hHeld => ?_)
      clear hK K
      try simp only [Act.put, List.setIfInBounds_toArray, List.set_cons_zero, List.set_cons_succ]
      generalize hV1 : (W.alloc (.cells #[.int .i64 0, .int .i64 0, .int .i64 0] 58)).drew = V1 at *
      clear hV1
      refine wpAnyH_ready (rs := [11]) (by kernel_rfl) (by simp) ?_
      refine AllReadyH.cons (o := { dst := some 8, op := Op.alloc 58, type := 0, pos := "l09_reader.go:146", after := #[], guard := none }) rfl (fun K hK => ?_) AllReadyH.nil
      have E2 := Lib.hid ((fun (Vx : World) (h : Below W.heap.size W Vx) => MadeAt.new Vx (.cells #[.int .i64 0, .int .i64 0, .int .i64 0] 58)) _ HC.out)
      have P2 := Lib.hid HC.out.size
      have N12 := Lib.hid (Nat.ne_of_lt E1.out.lt)
      replace E1 := Lib.hid (E1.out.below ((Below.refl _ _).alloc (Nat.le_refl _) (.cells #[.int .i64 0, .int .i64 0, .int .i64 0] 58)))
      replace HC := Lib.hid (HC.out.alloc HC.out.size (.cells #[.int .i64 0, .int .i64 0, .int .i64 0] 58))
      go_simp
      refine hK.out _ _ (KS.out _ HC.out) (fun hHeld => ?_)
      clear hK K
      try simp only [Act.put, List.setIfInBounds_toArray, List.set_cons_zero, List.set_cons_succ]
      generalize hV2 : V1.alloc (.cells #[.int .i64 0, .int .i64 0, .int .i64 0] 58) = V2 at *
      clear hV2
      refine wpAnyH_ready (rs := [12]) (by kernel_rfl) (by simp) ?_
      refine AllReadyH.cons (o := { dst := none, op := Op.store 58 (Operand.tmp 7) (Operand.tmp 19), type := 0, pos := "l09_reader.go:146", after := #[{ on := 10, ground := Ground.data }, { on := 4, ground := Ground.data }, { on := 0, ground := Ground.phase }, { on := 1, ground := Ground.phase }, { on := 2, ground := Ground.phase }, { on := 3, ground := Ground.phase }, { on := 4, ground := Ground.phase }, { on := 5, ground := Ground.textOnly Departure.lateStores }, { on := 6, ground := Ground.textOnly Departure.lateStores }, { on := 7, ground := Ground.textOnly Departure.lateStores }, { on := 8, ground := Ground.textOnly Departure.lateStores }, { on := 9, ground := Ground.textOnly Departure.lateStores }, { on := 10, ground := Ground.phase }, { on := 11, ground := Ground.phase }], guard := none }) rfl (fun K hK => ?_) AllReadyH.nil
      have n12 := N12.out
      have n21 := fun h => N12.out (Eq.symm h)
      obtain ⟨qa0, qb0⟩ := E1.out.at 0 rfl
      obtain ⟨qa1, qb1⟩ := E1.out.at 1 rfl
      obtain ⟨qa2, qb2⟩ := E1.out.at 2 rfl
      obtain ⟨ra0, rb0⟩ := E2.out.at 0 rfl
      obtain ⟨ra1, rb1⟩ := E2.out.at 1 rfl
      obtain ⟨ra2, rb2⟩ := E2.out.at 2 rfl
      go_simp
      refine hK.out _ _ (KS.out _ (((HC.out.setCell P1.out _).setCell P1.out _).setCell P1.out _)) (fun hHeld => ?_)
      clear hK K
      try simp only [Act.put, List.setIfInBounds_toArray, List.set_cons_zero, List.set_cons_succ]
      refine wpAnyH_ready (rs := [13]) (by kernel_rfl) (by simp) ?_
      refine AllReadyH.cons (o := { dst := none, op := Op.store 58 (Operand.tmp 8) (Operand.tmp 24), type := 0, pos := "l09_reader.go:146", after := #[{ on := 11, ground := Ground.data }, { on := 9, ground := Ground.data }, { on := 12, ground := Ground.chain }, { on := 0, ground := Ground.phase }, { on := 1, ground := Ground.phase }, { on := 2, ground := Ground.phase }, { on := 3, ground := Ground.phase }, { on := 4, ground := Ground.phase }, { on := 5, ground := Ground.phase }, { on := 6, ground := Ground.phase }, { on := 7, ground := Ground.phase }, { on := 8, ground := Ground.phase }, { on := 9, ground := Ground.phase }, { on := 10, ground := Ground.phase }, { on := 11, ground := Ground.phase }, { on := 12, ground := Ground.phase }], guard := none }) rfl (fun K hK => ?_) AllReadyH.nil
      go_simp
      refine hK.out _ _ (KS.out _ ((((((HC.out.setCell P1.out _).setCell P1.out _).setCell P1.out _).setCell P2.out _).setCell P2.out _).setCell P2.out _)) (fun hHeld => ?_)
      clear hK K
      try simp only [Act.put, List.setIfInBounds_toArray, List.set_cons_zero, List.set_cons_succ]
      refine wpAnyH_done (by kernel_rfl) ?_ _
      go_wp2_with fail
      go_meet
      case rel => exact Lib.hid ⟨TwoIn3.mk N12.out P1.out P2.out E1.out E2.out, ((((((HC.out.setCell P1.out _).setCell P1.out _).setCell P1.out _).setCell P2.out _).setCell P2.out _).setCell P2.out _)⟩
    · have E2 := Lib.hid (show MadeAt (W.alloc (.cells #[.int .i64 0, .int .i64 0, .int .i64 0] 58)).drew W.heap.size (.cells #[.int .i64 0, .int .i64 0, .int .i64 0] 58) from MadeAt.new W (.cells #[.int .i64 0, .int .i64 0, .int .i64 0] 58))
      have P2 := Lib.hid (Nat.le_refl W.heap.size)
      replace HC := Lib.hid (show Below W.heap.size W (W.alloc (.cells #[.int .i64 0, .int .i64 0, .int .i64 0] 58)).drew from ((Below.refl _ _).alloc (Nat.le_refl _) (.cells #[.int .i64 0, .int .i64 0, .int .i64 0] 58)).drew)
      go_simp
      refine hK.out _ _ (KS.out _ HC.out) (fun hHeld => ?_)
      clear hK K
      try simp only [Act.put, List.setIfInBounds_toArray, List.set_cons_zero, List.set_cons_succ]
      generalize hV2 : (W.alloc (.cells #[.int .i64 0, .int .i64 0, .int .i64 0] 58)).drew = V2 at *
      clear hV2
      refine wpAnyH_ready (rs := [10]) (by kernel_rfl) (by simp) ?_
      refine AllReadyH.cons (o := { dst := some 7, op := Op.alloc 58, type := 0, pos := "l09_reader.go:146", after := #[], guard := none }) rfl (fun K hK => ?_) AllReadyH.nil
      have E1 := Lib.hid ((fun (Vx : World) (h : Below W.heap.size W Vx) => MadeAt.new Vx (.cells #[.int .i64 0, .int .i64 0, .int .i64 0] 58)) _ HC.out)
      have P1 := Lib.hid HC.out.size
      have N12 := Lib.hid (Nat.ne_of_gt E2.out.lt)
      replace E2 := Lib.hid (E2.out.below ((Below.refl _ _).alloc (Nat.le_refl _) (.cells #[.int .i64 0, .int .i64 0, .int .i64 0] 58)))
      replace HC := Lib.hid (HC.out.alloc HC.out.size (.cells #[.int .i64 0, .int .i64 0, .int .i64 0] 58))
      go_simp
      refine hK.out _ _ (KS.out _ HC.out) (fun hHeld => ?_)
      clear hK K
      try simp only [Act.put, List.setIfInBounds_toArray, List.set_cons_zero, List.set_cons_succ]
      generalize hV1 : V2.alloc (.cells #[.int .i64 0, .int .i64 0, .int .i64 0] 58) = V1 at *
      clear hV1
      refine wpAnyH_ready (rs := [12]) (by kernel_rfl) (by simp) ?_
      refine AllReadyH.cons (o := { dst := none, op := Op.store 58 (Operand.tmp 7) (Operand.tmp 19), type := 0, pos := "l09_reader.go:146", after := #[{ on := 10, ground := Ground.data }, { on := 4, ground := Ground.data }, { on := 0, ground := Ground.phase }, { on := 1, ground := Ground.phase }, { on := 2, ground := Ground.phase }, { on := 3, ground := Ground.phase }, { on := 4, ground := Ground.phase }, { on := 5, ground := Ground.textOnly Departure.lateStores }, { on := 6, ground := Ground.textOnly Departure.lateStores }, { on := 7, ground := Ground.textOnly Departure.lateStores }, { on := 8, ground := Ground.textOnly Departure.lateStores }, { on := 9, ground := Ground.textOnly Departure.lateStores }, { on := 10, ground := Ground.phase }, { on := 11, ground := Ground.phase }], guard := none }) rfl (fun K hK => ?_) AllReadyH.nil
      have n12 := N12.out
      have n21 := fun h => N12.out (Eq.symm h)
      obtain ⟨qa0, qb0⟩ := E1.out.at 0 rfl
      obtain ⟨qa1, qb1⟩ := E1.out.at 1 rfl
      obtain ⟨qa2, qb2⟩ := E1.out.at 2 rfl
      obtain ⟨ra0, rb0⟩ := E2.out.at 0 rfl
      obtain ⟨ra1, rb1⟩ := E2.out.at 1 rfl
      obtain ⟨ra2, rb2⟩ := E2.out.at 2 rfl
      go_simp
      refine hK.out _ _ (KS.out _ (((HC.out.setCell P1.out _).setCell P1.out _).setCell P1.out _)) (fun hHeld => ?_)
      clear hK K
      try simp only [Act.put, List.setIfInBounds_toArray, List.set_cons_zero, List.set_cons_succ]
      refine wpAnyH_ready (rs := [13]) (by kernel_rfl) (by simp) ?_
      refine AllReadyH.cons (o := { dst := none, op := Op.store 58 (Operand.tmp 8) (Operand.tmp 24), type := 0, pos := "l09_reader.go:146", after := #[{ on := 11, ground := Ground.data }, { on := 9, ground := Ground.data }, { on := 12, ground := Ground.chain }, { on := 0, ground := Ground.phase }, { on := 1, ground := Ground.phase }, { on := 2, ground := Ground.phase }, { on := 3, ground := Ground.phase }, { on := 4, ground := Ground.phase }, { on := 5, ground := Ground.phase }, { on := 6, ground := Ground.phase }, { on := 7, ground := Ground.phase }, { on := 8, ground := Ground.phase }, { on := 9, ground := Ground.phase }, { on := 10, ground := Ground.phase }, { on := 11, ground := Ground.phase }, { on := 12, ground := Ground.phase }], guard := none }) rfl (fun K hK => ?_) AllReadyH.nil
      go_simp
      refine hK.out _ _ (KS.out _ ((((((HC.out.setCell P1.out _).setCell P1.out _).setCell P1.out _).setCell P2.out _).setCell P2.out _).setCell P2.out _)) (fun hHeld => ?_)
      clear hK K
      try simp only [Act.put, List.setIfInBounds_toArray, List.set_cons_zero, List.set_cons_succ]
      refine wpAnyH_done (by kernel_rfl) ?_ _
      go_wp2_with fail
      go_meet
      case rel => exact Lib.hid ⟨TwoIn3.mk N12.out P1.out P2.out E1.out E2.out, ((((((HC.out.setCell P1.out _).setCell P1.out _).setCell P1.out _).setCell P2.out _).setCell P2.out _).setCell P2.out _)⟩
  obtain ⟨⟨p7, p8, rfl, rfl, hp7, hp8, hl7, hl8, b7, b8⟩, hbc⟩ := hcut.out
  clear hcut
  have FC := Lib.hid (FB.out.trans (hbc.mono (by omega)))
  have bT := b0.below hbc hlt
  have hzc := hbc.size
  have KS := Lib.hid (fun w' (hb : Below wc.heap.size wc w') => (show w'.cell? ⟨w.heap.size, 0, none⟩ = some (.string s) ∧ w'.cell? ⟨w.heap.size, 1, none⟩ = some (.int .i64 f) ∧ w'.cell? ⟨w.heap.size, 2, none⟩ = some (.slice (some ⟨bb, off, none⟩) es.length c) ∧ w'.cell? ⟨p7, 2, none⟩ = some (.int .i64 x.f2) ∧ w'.cell? ⟨p8, 0, none⟩ = some (.int .i64 y.f0) ∧ w'.cell? ⟨p8, 1, none⟩ = some (.int .i64 y.f1) from ⟨((bT.below hb (by omega)).box 0 _ rfl), ((bT.below hb (by omega)).box 1 _ rfl), ((bT.below hb (by omega)).box 2 _ rfl), ((b7.below hb hl7).box 2 _ rfl), ((b8.below hb hl8).box 0 _ rfl), ((b8.below hb hl8).box 1 _ rfl)⟩))
  have HC := Lib.hid (show Below wc.heap.size wc wc.drew from (Below.refl _ _).drew)
  clear b0 bT b7 b8 hbc FB x0 x1 x2 y0 y1 y2 hbl hbW HXW HXY
  go_upto_region 3 with (fail)
  by_cases hk : y.f0 = 1
  · have hyk : (y.f0 == 1) = true := by simp [hk]
    have HG := Lib.hid (show dmGood s.size x y = false by unfold dmGood; rw [hyk]; rfl)
    clear hk
    refine wp_region_held_drew (S := (fun w' => w'.cell? ⟨w.heap.size, 0, none⟩ = some (.string s) ∧ w'.cell? ⟨w.heap.size, 1, none⟩ = some (.int .i64 f) ∧ w'.cell? ⟨w.heap.size, 2, none⟩ = some (.slice (some ⟨bb, off, none⟩) es.length c) ∧ w'.cell? ⟨p7, 2, none⟩ = some (.int .i64 x.f2) ∧ w'.cell? ⟨p8, 0, none⟩ = some (.int .i64 y.f0) ∧ w'.cell? ⟨p8, 1, none⟩ = some (.int .i64 y.f1))) (by kernel_rfl) (KS.out _ HC.out) (fun hHeld => ?_)
    refine wpAnyH_take (i := 0) (oi := { dst := some 25, op := Op.fieldAddr 58 (Operand.tmp 8) 0, type := 0, pos := "l09_reader.go:147", after := #[], guard := none }) (v := ?_) rfl (by kernel_rfl) (by kernel_rfl) (by kernel_rfl) (fun _ _ _ h => h) (Or.inl ⟨by rfl, ?hy⟩) hHeld ?_
    case hy => (intro w' hSw; (try dsimp only at hSw); go_simp; try with_reducible rfl)
    simp only [Act.put, List.setIfInBounds_toArray, List.set_cons_zero, List.set_cons_succ]
    refine wpAnyH_take (i := 1) (oi := { dst := some 26, op := Op.load 2 (Operand.tmp 25), type := 2, pos := "l09_reader.go:147", after := #[{ on := 0, ground := Ground.data }], guard := none }) (v := ?_) rfl (by kernel_rfl) (by kernel_rfl) (by kernel_rfl) (fun _ _ _ h => h) (Or.inl ⟨by rfl, ?hy⟩) hHeld ?_
    case hy => (intro w' hSw; (try dsimp only at hSw); go_simp; try with_reducible rfl)
    simp only [Act.put, List.setIfInBounds_toArray, List.set_cons_zero, List.set_cons_succ]
    refine wpAnyH_take (i := 2) (oi := { dst := some 27, op := Op.binOp BinOp.eql 2 (Operand.tmp 26) (Operand.const (Value.int IntKind.i64 1)) 2, type := 4, pos := "l09_reader.go:147", after := #[{ on := 1, ground := Ground.data }], guard := none }) (v := ?_) rfl (by kernel_rfl) (by kernel_rfl) (by kernel_rfl) (fun _ _ _ h => h) (Or.inl ⟨by rfl, ?hy⟩) hHeld ?_
    case hy => (intro w' hSw; (try dsimp only at hSw); go_simp; try with_reducible rfl)
    simp only [Act.put, List.setIfInBounds_toArray, List.set_cons_zero, List.set_cons_succ]
    refine wpAnyH_take (i := 3) (oi := { dst := some 28, op := Op.move (Operand.tmp 27), type := 4, pos := "l09_reader.go:147", after := #[{ on := 2, ground := Ground.data }], guard := none }) (v := ?_) rfl (by kernel_rfl) (by kernel_rfl) (by kernel_rfl) (fun _ _ _ h => h) (Or.inl ⟨by rfl, ?hy⟩) hHeld ?_
    case hy => (intro w' hSw; (try dsimp only at hSw); go_simp; try with_reducible rfl)
    simp only [Act.put, List.setIfInBounds_toArray, List.set_cons_zero, List.set_cons_succ]
    refine wpAnyH_take (i := 4) (oi := { dst := some 29, op := Op.load 62 (Operand.tmp 2), type := 62, pos := "l09_reader.go:147", after := #[{ on := 3, ground := Ground.guard }], guard := some (3, false) }) (v := undef) rfl (by kernel_rfl) (by kernel_rfl) (by kernel_rfl) (fun _ _ _ h => h) (Or.inr ⟨by rfl, rfl⟩) hHeld ?_
    simp only [Act.put, List.setIfInBounds_toArray, List.set_cons_zero, List.set_cons_succ]
    refine wpAnyH_take (i := 5) (oi := { dst := some 30, op := Op.call { callee := Callee.value (Operand.func 60), args := #[Operand.tmp 29], argTypes := #[62] }, type := 2, pos := "l09_reader.go:147", after := #[{ on := 4, ground := Ground.data }, { on := 3, ground := Ground.chain }, { on := 3, ground := Ground.guard }], guard := some (3, false) }) (v := undef) rfl (by kernel_rfl) (by kernel_rfl) (by kernel_rfl) (fun _ _ _ h => h) (Or.inr ⟨by rfl, rfl⟩) hHeld ?_
    simp only [Act.put, List.setIfInBounds_toArray, List.set_cons_zero, List.set_cons_succ]
    refine wpAnyH_take (i := 6) (oi := { dst := some 31, op := Op.fieldAddr 58 (Operand.tmp 7) 2, type := 0, pos := "l09_reader.go:147", after := #[{ on := 3, ground := Ground.guard }], guard := some (3, false) }) (v := undef) rfl (by kernel_rfl) (by kernel_rfl) (by kernel_rfl) (fun _ _ _ h => h) (Or.inr ⟨by rfl, rfl⟩) hHeld ?_
    simp only [Act.put, List.setIfInBounds_toArray, List.set_cons_zero, List.set_cons_succ]
    refine wpAnyH_take (i := 7) (oi := { dst := some 32, op := Op.load 2 (Operand.tmp 31), type := 2, pos := "l09_reader.go:147", after := #[{ on := 6, ground := Ground.data }, { on := 3, ground := Ground.guard }], guard := some (3, false) }) (v := undef) rfl (by kernel_rfl) (by kernel_rfl) (by kernel_rfl) (fun _ _ _ h => h) (Or.inr ⟨by rfl, rfl⟩) hHeld ?_
    simp only [Act.put, List.setIfInBounds_toArray, List.set_cons_zero, List.set_cons_succ]
    refine wpAnyH_take (i := 8) (oi := { dst := some 33, op := Op.fieldAddr 58 (Operand.tmp 8) 1, type := 0, pos := "l09_reader.go:147", after := #[{ on := 3, ground := Ground.guard }], guard := some (3, false) }) (v := undef) rfl (by kernel_rfl) (by kernel_rfl) (by kernel_rfl) (fun _ _ _ h => h) (Or.inr ⟨by rfl, rfl⟩) hHeld ?_
    simp only [Act.put, List.setIfInBounds_toArray, List.set_cons_zero, List.set_cons_succ]
    refine wpAnyH_take (i := 9) (oi := { dst := some 34, op := Op.load 2 (Operand.tmp 33), type := 2, pos := "l09_reader.go:147", after := #[{ on := 8, ground := Ground.data }, { on := 3, ground := Ground.guard }], guard := some (3, false) }) (v := undef) rfl (by kernel_rfl) (by kernel_rfl) (by kernel_rfl) (fun _ _ _ h => h) (Or.inr ⟨by rfl, rfl⟩) hHeld ?_
    simp only [Act.put, List.setIfInBounds_toArray, List.set_cons_zero, List.set_cons_succ]
    refine wpAnyH_take (i := 10) (oi := { dst := some 35, op := Op.call { callee := Callee.value (Operand.func 59), args := #[Operand.tmp 30, Operand.tmp 32, Operand.tmp 34], argTypes := #[2, 2, 2] }, type := 2, pos := "l09_reader.go:147", after := #[{ on := 5, ground := Ground.data }, { on := 7, ground := Ground.data }, { on := 9, ground := Ground.data }, { on := 5, ground := Ground.chain }, { on := 3, ground := Ground.guard }], guard := some (3, false) }) (v := undef) rfl (by kernel_rfl) (by kernel_rfl) (by kernel_rfl) (fun _ _ _ h => h) (Or.inr ⟨by rfl, rfl⟩) hHeld ?_
    simp only [Act.put, List.setIfInBounds_toArray, List.set_cons_zero, List.set_cons_succ]
    refine wpAnyH_take (i := 11) (oi := { dst := some 36, op := Op.binOp BinOp.gtr 2 (Operand.tmp 35) (Operand.const (Value.int IntKind.i64 320)) 2, type := 4, pos := "l09_reader.go:147", after := #[{ on := 10, ground := Ground.data }, { on := 3, ground := Ground.guard }], guard := some (3, false) }) (v := undef) rfl (by kernel_rfl) (by kernel_rfl) (by kernel_rfl) (fun _ _ _ h => h) (Or.inr ⟨by rfl, rfl⟩) hHeld ?_
    simp only [Act.put, List.setIfInBounds_toArray, List.set_cons_zero, List.set_cons_succ]
    refine wpAnyH_take (i := 12) (oi := { dst := some 37, op := Op.pick (Operand.tmp 28) (Operand.const (Value.bool true)) (Operand.tmp 36), type := 4, pos := "l09_reader.go:147", after := #[{ on := 3, ground := Ground.data }, { on := 11, ground := Ground.data }], guard := none }) (v := ?_) rfl (by kernel_rfl) (by kernel_rfl) (by kernel_rfl) (fun _ _ _ h => h) (Or.inl ⟨by rfl, ?hy⟩) hHeld ?_
    case hy => (intro w' hSw; (try dsimp only at hSw); go_simp; try with_reducible rfl)
    simp only [Act.put, List.setIfInBounds_toArray, List.set_cons_zero, List.set_cons_succ]
    refine wpAnyH_done (by kernel_rfl) ?_ _
    go_wp2
    go_ret2
    obtain ⟨hg9, hn9⟩ := HQ.out
    have hg8 := hg9.symm.trans HG.out
    rw [hg8] at hn9
    subst hg8
    subst hn9
    exact ⟨rfl, FC.out.trans (HC.out.mono (by omega))⟩
  have hyk : (y.f0 == 1) = false := by simp [hk]
  have HG0 := Lib.hid (show dmGood s.size x y = !decide (320 < betV s.size x.f2 y.f1) by unfold dmGood; rw [hyk]; rfl)
  clear hk
  generalize betV s.size x.f2 y.f1 = B at *
  by_cases hB : 320 < B
  · have HG := Lib.hid (show dmGood s.size x y = false by rw [HG0.out]; simp [hB])
    refine wp_region_held_drew (S := (fun w' => w'.cell? ⟨w.heap.size, 0, none⟩ = some (.string s) ∧ w'.cell? ⟨w.heap.size, 1, none⟩ = some (.int .i64 f) ∧ w'.cell? ⟨w.heap.size, 2, none⟩ = some (.slice (some ⟨bb, off, none⟩) es.length c) ∧ w'.cell? ⟨p7, 2, none⟩ = some (.int .i64 x.f2) ∧ w'.cell? ⟨p8, 0, none⟩ = some (.int .i64 y.f0) ∧ w'.cell? ⟨p8, 1, none⟩ = some (.int .i64 y.f1))) (by kernel_rfl) (KS.out _ HC.out) (fun hHeld => ?_)
    refine wpAnyH_take (i := 0) (oi := { dst := some 25, op := Op.fieldAddr 58 (Operand.tmp 8) 0, type := 0, pos := "l09_reader.go:147", after := #[], guard := none }) (v := ?_) rfl (by kernel_rfl) (by kernel_rfl) (by kernel_rfl) (fun _ _ _ h => h) (Or.inl ⟨by rfl, ?hy⟩) hHeld ?_
    case hy => (intro w' hSw; (try dsimp only at hSw); go_simp; try with_reducible rfl)
    simp only [Act.put, List.setIfInBounds_toArray, List.set_cons_zero, List.set_cons_succ]
    refine wpAnyH_take (i := 1) (oi := { dst := some 26, op := Op.load 2 (Operand.tmp 25), type := 2, pos := "l09_reader.go:147", after := #[{ on := 0, ground := Ground.data }], guard := none }) (v := ?_) rfl (by kernel_rfl) (by kernel_rfl) (by kernel_rfl) (fun _ _ _ h => h) (Or.inl ⟨by rfl, ?hy⟩) hHeld ?_
    case hy => (intro w' hSw; (try dsimp only at hSw); go_simp; try with_reducible rfl)
    simp only [Act.put, List.setIfInBounds_toArray, List.set_cons_zero, List.set_cons_succ]
    refine wpAnyH_take (i := 2) (oi := { dst := some 27, op := Op.binOp BinOp.eql 2 (Operand.tmp 26) (Operand.const (Value.int IntKind.i64 1)) 2, type := 4, pos := "l09_reader.go:147", after := #[{ on := 1, ground := Ground.data }], guard := none }) (v := ?_) rfl (by kernel_rfl) (by kernel_rfl) (by kernel_rfl) (fun _ _ _ h => h) (Or.inl ⟨by rfl, ?hy⟩) hHeld ?_
    case hy => (intro w' hSw; (try dsimp only at hSw); go_simp; try with_reducible rfl)
    simp only [Act.put, List.setIfInBounds_toArray, List.set_cons_zero, List.set_cons_succ]
    refine wpAnyH_take (i := 3) (oi := { dst := some 28, op := Op.move (Operand.tmp 27), type := 4, pos := "l09_reader.go:147", after := #[{ on := 2, ground := Ground.data }], guard := none }) (v := ?_) rfl (by kernel_rfl) (by kernel_rfl) (by kernel_rfl) (fun _ _ _ h => h) (Or.inl ⟨by rfl, ?hy⟩) hHeld ?_
    case hy => (intro w' hSw; (try dsimp only at hSw); go_simp; try with_reducible rfl)
    simp only [Act.put, List.setIfInBounds_toArray, List.set_cons_zero, List.set_cons_succ]
    refine wpAnyH_take (i := 4) (oi := { dst := some 29, op := Op.load 62 (Operand.tmp 2), type := 62, pos := "l09_reader.go:147", after := #[{ on := 3, ground := Ground.guard }], guard := some (3, false) }) (v := ?_) rfl (by kernel_rfl) (by kernel_rfl) (by kernel_rfl) (fun _ _ _ h => h) (Or.inl ⟨by rfl, ?hy⟩) hHeld ?_
    case hy => (intro w' hSw; (try dsimp only at hSw); go_simp; try with_reducible rfl)
    simp only [Act.put, List.setIfInBounds_toArray, List.set_cons_zero, List.set_cons_succ]
    refine wpAnyH_take (i := 6) (oi := { dst := some 31, op := Op.fieldAddr 58 (Operand.tmp 7) 2, type := 0, pos := "l09_reader.go:147", after := #[{ on := 3, ground := Ground.guard }], guard := some (3, false) }) (v := ?_) rfl (by kernel_rfl) (by kernel_rfl) (by kernel_rfl) (fun _ _ _ h => h) (Or.inl ⟨by rfl, ?hy⟩) hHeld ?_
    case hy => (intro w' hSw; (try dsimp only at hSw); go_simp; try with_reducible rfl)
    simp only [Act.put, List.setIfInBounds_toArray, List.set_cons_zero, List.set_cons_succ]
    refine wpAnyH_take (i := 7) (oi := { dst := some 32, op := Op.load 2 (Operand.tmp 31), type := 2, pos := "l09_reader.go:147", after := #[{ on := 6, ground := Ground.data }, { on := 3, ground := Ground.guard }], guard := some (3, false) }) (v := ?_) rfl (by kernel_rfl) (by kernel_rfl) (by kernel_rfl) (fun _ _ _ h => h) (Or.inl ⟨by rfl, ?hy⟩) hHeld ?_
    case hy => (intro w' hSw; (try dsimp only at hSw); go_simp; try with_reducible rfl)
    simp only [Act.put, List.setIfInBounds_toArray, List.set_cons_zero, List.set_cons_succ]
    refine wpAnyH_take (i := 8) (oi := { dst := some 33, op := Op.fieldAddr 58 (Operand.tmp 8) 1, type := 0, pos := "l09_reader.go:147", after := #[{ on := 3, ground := Ground.guard }], guard := some (3, false) }) (v := ?_) rfl (by kernel_rfl) (by kernel_rfl) (by kernel_rfl) (fun _ _ _ h => h) (Or.inl ⟨by rfl, ?hy⟩) hHeld ?_
    case hy => (intro w' hSw; (try dsimp only at hSw); go_simp; try with_reducible rfl)
    simp only [Act.put, List.setIfInBounds_toArray, List.set_cons_zero, List.set_cons_succ]
    refine wpAnyH_take (i := 9) (oi := { dst := some 34, op := Op.load 2 (Operand.tmp 33), type := 2, pos := "l09_reader.go:147", after := #[{ on := 8, ground := Ground.data }, { on := 3, ground := Ground.guard }], guard := some (3, false) }) (v := ?_) rfl (by kernel_rfl) (by kernel_rfl) (by kernel_rfl) (fun _ _ _ h => h) (Or.inl ⟨by rfl, ?hy⟩) hHeld ?_
    case hy => (intro w' hSw; (try dsimp only at hSw); go_simp; try with_reducible rfl)
    simp only [Act.put, List.setIfInBounds_toArray, List.set_cons_zero, List.set_cons_succ]
    refine wpAnyH_ready (rs := [5]) (by kernel_rfl) (by simp) ?_
    refine AllReadyH.cons (o := { dst := some 30, op := Op.call { callee := Callee.value (Operand.func 60), args := #[Operand.tmp 29], argTypes := #[62] }, type := 2, pos := "l09_reader.go:147", after := #[{ on := 4, ground := Ground.data }, { on := 3, ground := Ground.chain }, { on := 3, ground := Ground.guard }], guard := some (3, false) }) rfl (fun K hK => ?_) AllReadyH.nil
    go_simp
    go_at_call 60; refine (TO.out _).mono ?_; rintro e w4 ⟨rfl, hb4⟩; replace HC := Lib.hid (HC.out.trans (hb4.mono HC.out.size))
    go_wp2_with fail
    refine hK.out _ _ (KS.out _ HC.out) (fun hHeld => ?_)
    clear hK K
    try simp only [Act.put, List.setIfInBounds_toArray, List.set_cons_zero, List.set_cons_succ]
    refine wpAnyH_ready (rs := [10]) (by kernel_rfl) (by simp) ?_
    refine AllReadyH.cons (o := { dst := some 35, op := Op.call { callee := Callee.value (Operand.func 59), args := #[Operand.tmp 30, Operand.tmp 32, Operand.tmp 34], argTypes := #[2, 2, 2] }, type := 2, pos := "l09_reader.go:147", after := #[{ on := 5, ground := Ground.data }, { on := 7, ground := Ground.data }, { on := 9, ground := Ground.data }, { on := 5, ground := Ground.chain }, { on := 3, ground := Ground.guard }], guard := some (3, false) }) rfl (fun K hK => ?_) AllReadyH.nil
    go_simp
    go_at_call 59; refine (CB.out _).mono ?_; rintro e w5 ⟨rfl, hb5⟩; replace HC := Lib.hid (HC.out.trans (hb5.mono HC.out.size))
    go_wp2_with fail
    refine hK.out _ _ (KS.out _ HC.out) (fun hHeld => ?_)
    clear hK K
    try simp only [Act.put, List.setIfInBounds_toArray, List.set_cons_zero, List.set_cons_succ]
    refine wpAnyH_take (i := 11) (oi := { dst := some 36, op := Op.binOp BinOp.gtr 2 (Operand.tmp 35) (Operand.const (Value.int IntKind.i64 320)) 2, type := 4, pos := "l09_reader.go:147", after := #[{ on := 10, ground := Ground.data }, { on := 3, ground := Ground.guard }], guard := some (3, false) }) (v := ?_) rfl (by kernel_rfl) (by kernel_rfl) (by kernel_rfl) (fun _ _ _ h => h) (Or.inl ⟨by rfl, ?hy⟩) hHeld ?_
    case hy => (intro w' hSw; (try dsimp only at hSw); go_simp; try with_reducible rfl)
    simp only [Act.put, List.setIfInBounds_toArray, List.set_cons_zero, List.set_cons_succ]
    refine wpAnyH_take (i := 12) (oi := { dst := some 37, op := Op.pick (Operand.tmp 28) (Operand.const (Value.bool true)) (Operand.tmp 36), type := 4, pos := "l09_reader.go:147", after := #[{ on := 3, ground := Ground.data }, { on := 11, ground := Ground.data }], guard := none }) (v := ?_) rfl (by kernel_rfl) (by kernel_rfl) (by kernel_rfl) (fun _ _ _ h => h) (Or.inl ⟨by rfl, ?hy⟩) hHeld ?_
    case hy => (intro w' hSw; (try dsimp only at hSw); go_simp; try with_reducible rfl)
    simp only [Act.put, List.setIfInBounds_toArray, List.set_cons_zero, List.set_cons_succ]
    refine wpAnyH_done (by kernel_rfl) ?_ _
    go_wp2
    go_ret2
    obtain ⟨hg9, hn9⟩ := HQ.out
    have hg8 := hg9.symm.trans HG.out
    rw [hg8] at hn9
    subst hg8
    subst hn9
    exact ⟨rfl, FC.out.trans (HC.out.mono (by omega))⟩
  have HG := Lib.hid (show dmGood s.size x y = true by rw [HG0.out]; simp [hB])
  refine wp_region_held_drew (S := (fun w' => w'.cell? ⟨w.heap.size, 0, none⟩ = some (.string s) ∧ w'.cell? ⟨w.heap.size, 1, none⟩ = some (.int .i64 f) ∧ w'.cell? ⟨w.heap.size, 2, none⟩ = some (.slice (some ⟨bb, off, none⟩) es.length c) ∧ w'.cell? ⟨p7, 2, none⟩ = some (.int .i64 x.f2) ∧ w'.cell? ⟨p8, 0, none⟩ = some (.int .i64 y.f0) ∧ w'.cell? ⟨p8, 1, none⟩ = some (.int .i64 y.f1))) (by kernel_rfl) (KS.out _ HC.out) (fun hHeld => ?_)
  refine wpAnyH_take (i := 0) (oi := { dst := some 25, op := Op.fieldAddr 58 (Operand.tmp 8) 0, type := 0, pos := "l09_reader.go:147", after := #[], guard := none }) (v := ?_) rfl (by kernel_rfl) (by kernel_rfl) (by kernel_rfl) (fun _ _ _ h => h) (Or.inl ⟨by rfl, ?hy⟩) hHeld ?_
  case hy => (intro w' hSw; (try dsimp only at hSw); go_simp; try with_reducible rfl)
  simp only [Act.put, List.setIfInBounds_toArray, List.set_cons_zero, List.set_cons_succ]
  refine wpAnyH_take (i := 1) (oi := { dst := some 26, op := Op.load 2 (Operand.tmp 25), type := 2, pos := "l09_reader.go:147", after := #[{ on := 0, ground := Ground.data }], guard := none }) (v := ?_) rfl (by kernel_rfl) (by kernel_rfl) (by kernel_rfl) (fun _ _ _ h => h) (Or.inl ⟨by rfl, ?hy⟩) hHeld ?_
  case hy => (intro w' hSw; (try dsimp only at hSw); go_simp; try with_reducible rfl)
  simp only [Act.put, List.setIfInBounds_toArray, List.set_cons_zero, List.set_cons_succ]
  refine wpAnyH_take (i := 2) (oi := { dst := some 27, op := Op.binOp BinOp.eql 2 (Operand.tmp 26) (Operand.const (Value.int IntKind.i64 1)) 2, type := 4, pos := "l09_reader.go:147", after := #[{ on := 1, ground := Ground.data }], guard := none }) (v := ?_) rfl (by kernel_rfl) (by kernel_rfl) (by kernel_rfl) (fun _ _ _ h => h) (Or.inl ⟨by rfl, ?hy⟩) hHeld ?_
  case hy => (intro w' hSw; (try dsimp only at hSw); go_simp; try with_reducible rfl)
  simp only [Act.put, List.setIfInBounds_toArray, List.set_cons_zero, List.set_cons_succ]
  refine wpAnyH_take (i := 3) (oi := { dst := some 28, op := Op.move (Operand.tmp 27), type := 4, pos := "l09_reader.go:147", after := #[{ on := 2, ground := Ground.data }], guard := none }) (v := ?_) rfl (by kernel_rfl) (by kernel_rfl) (by kernel_rfl) (fun _ _ _ h => h) (Or.inl ⟨by rfl, ?hy⟩) hHeld ?_
  case hy => (intro w' hSw; (try dsimp only at hSw); go_simp; try with_reducible rfl)
  simp only [Act.put, List.setIfInBounds_toArray, List.set_cons_zero, List.set_cons_succ]
  refine wpAnyH_take (i := 4) (oi := { dst := some 29, op := Op.load 62 (Operand.tmp 2), type := 62, pos := "l09_reader.go:147", after := #[{ on := 3, ground := Ground.guard }], guard := some (3, false) }) (v := ?_) rfl (by kernel_rfl) (by kernel_rfl) (by kernel_rfl) (fun _ _ _ h => h) (Or.inl ⟨by rfl, ?hy⟩) hHeld ?_
  case hy => (intro w' hSw; (try dsimp only at hSw); go_simp; try with_reducible rfl)
  simp only [Act.put, List.setIfInBounds_toArray, List.set_cons_zero, List.set_cons_succ]
  refine wpAnyH_take (i := 6) (oi := { dst := some 31, op := Op.fieldAddr 58 (Operand.tmp 7) 2, type := 0, pos := "l09_reader.go:147", after := #[{ on := 3, ground := Ground.guard }], guard := some (3, false) }) (v := ?_) rfl (by kernel_rfl) (by kernel_rfl) (by kernel_rfl) (fun _ _ _ h => h) (Or.inl ⟨by rfl, ?hy⟩) hHeld ?_
  case hy => (intro w' hSw; (try dsimp only at hSw); go_simp; try with_reducible rfl)
  simp only [Act.put, List.setIfInBounds_toArray, List.set_cons_zero, List.set_cons_succ]
  refine wpAnyH_take (i := 7) (oi := { dst := some 32, op := Op.load 2 (Operand.tmp 31), type := 2, pos := "l09_reader.go:147", after := #[{ on := 6, ground := Ground.data }, { on := 3, ground := Ground.guard }], guard := some (3, false) }) (v := ?_) rfl (by kernel_rfl) (by kernel_rfl) (by kernel_rfl) (fun _ _ _ h => h) (Or.inl ⟨by rfl, ?hy⟩) hHeld ?_
  case hy => (intro w' hSw; (try dsimp only at hSw); go_simp; try with_reducible rfl)
  simp only [Act.put, List.setIfInBounds_toArray, List.set_cons_zero, List.set_cons_succ]
  refine wpAnyH_take (i := 8) (oi := { dst := some 33, op := Op.fieldAddr 58 (Operand.tmp 8) 1, type := 0, pos := "l09_reader.go:147", after := #[{ on := 3, ground := Ground.guard }], guard := some (3, false) }) (v := ?_) rfl (by kernel_rfl) (by kernel_rfl) (by kernel_rfl) (fun _ _ _ h => h) (Or.inl ⟨by rfl, ?hy⟩) hHeld ?_
  case hy => (intro w' hSw; (try dsimp only at hSw); go_simp; try with_reducible rfl)
  simp only [Act.put, List.setIfInBounds_toArray, List.set_cons_zero, List.set_cons_succ]
  refine wpAnyH_take (i := 9) (oi := { dst := some 34, op := Op.load 2 (Operand.tmp 33), type := 2, pos := "l09_reader.go:147", after := #[{ on := 8, ground := Ground.data }, { on := 3, ground := Ground.guard }], guard := some (3, false) }) (v := ?_) rfl (by kernel_rfl) (by kernel_rfl) (by kernel_rfl) (fun _ _ _ h => h) (Or.inl ⟨by rfl, ?hy⟩) hHeld ?_
  case hy => (intro w' hSw; (try dsimp only at hSw); go_simp; try with_reducible rfl)
  simp only [Act.put, List.setIfInBounds_toArray, List.set_cons_zero, List.set_cons_succ]
  refine wpAnyH_ready (rs := [5]) (by kernel_rfl) (by simp) ?_
  refine AllReadyH.cons (o := { dst := some 30, op := Op.call { callee := Callee.value (Operand.func 60), args := #[Operand.tmp 29], argTypes := #[62] }, type := 2, pos := "l09_reader.go:147", after := #[{ on := 4, ground := Ground.data }, { on := 3, ground := Ground.chain }, { on := 3, ground := Ground.guard }], guard := some (3, false) }) rfl (fun K hK => ?_) AllReadyH.nil
  go_simp
  go_at_call 60; refine (TO.out _).mono ?_; rintro e w4 ⟨rfl, hb4⟩; replace HC := Lib.hid (HC.out.trans (hb4.mono HC.out.size))
  go_wp2_with fail
  refine hK.out _ _ (KS.out _ HC.out) (fun hHeld => ?_)
  clear hK K
  try simp only [Act.put, List.setIfInBounds_toArray, List.set_cons_zero, List.set_cons_succ]
  refine wpAnyH_ready (rs := [10]) (by kernel_rfl) (by simp) ?_
  refine AllReadyH.cons (o := { dst := some 35, op := Op.call { callee := Callee.value (Operand.func 59), args := #[Operand.tmp 30, Operand.tmp 32, Operand.tmp 34], argTypes := #[2, 2, 2] }, type := 2, pos := "l09_reader.go:147", after := #[{ on := 5, ground := Ground.data }, { on := 7, ground := Ground.data }, { on := 9, ground := Ground.data }, { on := 5, ground := Ground.chain }, { on := 3, ground := Ground.guard }], guard := some (3, false) }) rfl (fun K hK => ?_) AllReadyH.nil
  go_simp
  go_at_call 59; refine (CB.out _).mono ?_; rintro e w5 ⟨rfl, hb5⟩; replace HC := Lib.hid (HC.out.trans (hb5.mono HC.out.size))
  go_wp2_with fail
  refine hK.out _ _ (KS.out _ HC.out) (fun hHeld => ?_)
  clear hK K
  try simp only [Act.put, List.setIfInBounds_toArray, List.set_cons_zero, List.set_cons_succ]
  refine wpAnyH_take (i := 11) (oi := { dst := some 36, op := Op.binOp BinOp.gtr 2 (Operand.tmp 35) (Operand.const (Value.int IntKind.i64 320)) 2, type := 4, pos := "l09_reader.go:147", after := #[{ on := 10, ground := Ground.data }, { on := 3, ground := Ground.guard }], guard := some (3, false) }) (v := ?_) rfl (by kernel_rfl) (by kernel_rfl) (by kernel_rfl) (fun _ _ _ h => h) (Or.inl ⟨by rfl, ?hy⟩) hHeld ?_
  case hy => (intro w' hSw; (try dsimp only at hSw); go_simp; try with_reducible rfl)
  simp only [Act.put, List.setIfInBounds_toArray, List.set_cons_zero, List.set_cons_succ]
  refine wpAnyH_take (i := 12) (oi := { dst := some 37, op := Op.pick (Operand.tmp 28) (Operand.const (Value.bool true)) (Operand.tmp 36), type := 4, pos := "l09_reader.go:147", after := #[{ on := 3, ground := Ground.data }, { on := 11, ground := Ground.data }], guard := none }) (v := ?_) rfl (by kernel_rfl) (by kernel_rfl) (by kernel_rfl) (fun _ _ _ h => h) (Or.inl ⟨by rfl, ?hy⟩) hHeld ?_
  case hy => (intro w' hSw; (try dsimp only at hSw); go_simp; try with_reducible rfl)
  simp only [Act.put, List.setIfInBounds_toArray, List.set_cons_zero, List.set_cons_succ]
  refine wpAnyH_done (by kernel_rfl) ?_ _
  go_wp2
  go_ret2
  obtain ⟨hg9, hn9⟩ := HQ.out
  have hg8 := hg9.symm.trans HG.out
  rw [hg8] at hn9
  subst hg8
  subst hn9
  exact ⟨rfl, FC.out.trans (HC.out.mono (by omega))⟩
def nextI (es : List MarkV) (k : Int) : Nat := (k.toNat + 1) % es.length
def dmB (s : ByteArray) (f : Int) (es : List MarkV) (k : Int) : Bool := decide (askC s f es k = 0) && (match es[k.toNat]?, es[nextI es k]? with | some x, some y => dmGood s.size x y | _, _ => false)
def dmN (s : ByteArray) (f : Int) (es : List MarkV) (k : Int) : Int := if dmB s f es k = true then (nextI es k : Int) else 0
set_option maxHeartbeats 4000000 in
theorem dataMarkOf_g (s : ByteArray) (f : Int) (a : Option Addr) (c : Nat) (es : List MarkV) (k : Int) (hs : s.size ≤ 1048576) (hm : es.length ≤ 1048576) (w : World) (h : SlS rowMark w a es) :
    Calls Try.prog 10 #[.string s, .int .i64 f, .slice a es.length c, .int .i64 k] w fun e w' => e = .returned (.tuple #[.int .i64 (dmN s f es k), .bool (dmB s f es k)]) ∧ Below w.heap.size w w' := by
  have ic := fun w' (hb : Below w.heap.size w w') => idCode_any s f a es c k w' hs hm (h.below hb (Nat.le_refl _))
  by_cases hk : askC s f es k = 0
  case neg =>
    have HB := Lib.hid (show dmB s f es k = false by unfold dmB; simp [hk])
    unfold dmN
    rw [HB.out]
    obtain ⟨q, hq⟩ : ∃ q, askC s f es k = q := ⟨_, rfl⟩
    rw [hq] at hk ic
    have hne : (q != 0) = true := by simp [hk]
    have IC := Lib.hid ic
    clear ic hk hq h
    go_enter Try.func10, Try.ntmps10
    go_wp2_with fail
    refine (IC.out _ (by go_grown)).mono ?_
    rintro e w1 ⟨rfl, hb1⟩
    have F1 := Lib.hid (show Below w.heap.size w w1 from Below.trans (by go_grown) (hb1.mono (by simp)))
    clear hb1
    go_wp2
    go_ret2
    exact ⟨rfl, F1.out⟩
  obtain ⟨m, hkm, hml⟩ : ∃ m : Nat, k = (m : Int) ∧ m < es.length := by
    unfold askC at hk
    split at hk
    · split at hk
      · rename_i hp
        obtain ⟨i0, i1⟩ := inB_iff.1 hp
        exact ⟨k.toNat, by omega, by omega⟩
      · omega
    · omega
  subst hkm
  have hjl : (m + 1) % es.length < es.length := Nat.mod_lt _ (by omega)
  obtain ⟨x, hx⟩ : ∃ e, es[m]? = some e := ⟨es[m], by simp [hml]⟩
  obtain ⟨y, hy⟩ : ∃ e, es[(m + 1) % es.length]? = some e := ⟨es[(m + 1) % es.length], by simp [hjl]⟩
  have HB := Lib.hid (show dmB s f es (m : Int) = dmGood s.size x y by unfold dmB nextI; rw [Int.toNat_natCast, hx, hy]; simp [hk])
  have HN := Lib.hid (show nextI es (m : Int) = (m + 1) % es.length by unfold nextI; rw [Int.toNat_natCast])
  unfold dmN
  rw [HB.out, HN.out]
  rw [hk] at ic
  have DM := Lib.hid (fun w' (hb : Below w.heap.size w w') => dataMark_any s f a es c m ((m + 1) % es.length) x y w' hs hm (h.below hb (Nat.le_refl _)) hx hy rfl)
  generalize (m + 1) % es.length = j at *
  generalize dmGood s.size x y = q at *
  generalize (if q = true then (j : Int) else 0) = nn at *
  have IC := Lib.hid ic
  clear ic hk h hx hy HB HN
  go_enter Try.func10, Try.ntmps10
  go_wp2_with fail
  refine (IC.out _ (by go_grown)).mono ?_
  rintro e w1 ⟨rfl, hb1⟩
  have b1 : BoxF w1 w.heap.size #[.string s, .int .i64 f, .slice a es.length c] := BoxF.below (BoxF.new w _ 62 _ rfl) hb1 (by simp)
  have F1 := Lib.hid (show Below w.heap.size w w1 from Below.trans (by go_grown) (hb1.mono (by simp)))
  obtain ⟨x10, _⟩ := b1 0 _ rfl
  obtain ⟨x11, _⟩ := b1 1 _ rfl
  obtain ⟨x12, _⟩ := b1 2 _ rfl
  clear hb1
  go_wp2_with fail
  refine (DM.out _ F1.out).mono ?_
  rintro e w2 ⟨rfl, hb2⟩
  have F2 := Lib.hid (F1.out.trans (hb2.mono F1.out.size))
  clear hb2
  go_wp2
  go_ret2
  exact ⟨rfl, F2.out⟩
end Go.Proofs.Ytidedgcmpkahgaa
