/- impl.BestFound -/
import Derived.Test.YtlffbaelcjfibaaDoorFoundList
import Derived.Deep.RegionLaw
import Derived.Deep.DeepCutAuto
namespace Go.Proofs.YtlffbaelcjfibaaDoor
open Go.RowKit
set_option linter.unusedVariables false
set_option linter.unusedSimpArgs false
set_option maxRecDepth 20000
/-- A sector in a state, with an address. -/
def bfP (t c h n : Int) (e : FoundV) : Bool := (e.f5 == t) && ((e.f0 == c) && ((e.f1 == h) && (e.f2 == n)))
def idxF (p : FoundV → Bool) : Nat → List FoundV → Int
  | _, [] => -1
  | k, e :: r => if p e = true then (k : Int) else idxF p (k + 1) r
theorem idxF_bd (p : FoundV → Bool) : ∀ (es : List FoundV) (k : Nat), -1 ≤ idxF p k es ∧ idxF p k es < k + es.length
  | [], k => by simp only [idxF, List.length_nil]; omega
  | e :: r, k => by
    have := idxF_bd p r (k + 1)
    unfold idxF
    simp only [List.length_cons]
    split <;> omega
theorem dropF {E : Type} {es : List E} {k : Nat} {e : E} (h : es[k]? = some e) : es.drop k = e :: es.drop (k + 1) := by
  obtain ⟨hk, rfl⟩ := List.getElem?_eq_some_iff.1 h
  exact List.drop_eq_getElem_cons hk
def ordsF : List Int := [1, 3, 4]
/-- The first index in the first state that has one. -/
def bfL (es : List FoundV) (c h n : Int) : List Int → Int
  | [] => -1
  | t :: r => if 0 ≤ idxF (bfP t c h n) 0 es then idxF (bfP t c h n) 0 es else bfL es c h n r
def bfB (es : List FoundV) (c h n : Int) : Bool := foundsB es && decide (0 ≤ bfL es c h n ordsF)
def bfV (es : List FoundV) (c h n : Int) : Int := if bfB es c h n = true then bfL es c h n ordsF else 0
set_option maxHeartbeats 1000000 in
theorem addrF_any (e : FoundV) (w : World) :
    Calls Tryd.prog 15 #[.agg #[.int .i64 e.f0, .int .i64 e.f1, .int .i64 e.f2, .int .i64 e.f3, .string e.f4, .int .i64 e.f5, .bool e.f6, .int .i64 e.f7]] w fun x w' => x = .returned (.agg #[.int .i64 e.f0, .int .i64 e.f1, .int .i64 e.f2, .int .i64 e.f3]) ∧ Below w.heap.size w w' := by
  go_enter Tryd.func15, Tryd.ntmps15
  go_wp2
  refine bodyPost_ret (v := .agg #[.int .i64 e.f0, .int .i64 e.f1, .int .i64 e.f2, .int .i64 e.f3]) (by simp [results, Tryd.results15, go_sem]) rfl ⟨rfl, by go_grown⟩
set_option maxHeartbeats 4000000 in
theorem bf1_any (e : FoundV) (t c h n : Int) (p0 p1 p2 p3 : Nat) (w : World) (h0 : w.cell? ⟨p0, 0, none⟩ = some (.int .i64 t)) (h1 : w.cell? ⟨p1, 0, none⟩ = some (.int .i64 c)) (h2 : w.cell? ⟨p2, 0, none⟩ = some (.int .i64 h)) (h3 : w.cell? ⟨p3, 0, none⟩ = some (.int .i64 n)) :
    Calls Tryd.prog 14 #[.agg #[.int .i64 e.f0, .int .i64 e.f1, .int .i64 e.f2, .int .i64 e.f3, .string e.f4, .int .i64 e.f5, .bool e.f6, .int .i64 e.f7], .pointer (some ⟨p0, 0, none⟩), .pointer (some ⟨p1, 0, none⟩), .pointer (some ⟨p2, 0, none⟩), .pointer (some ⟨p3, 0, none⟩)] w fun x w' => x = .returned (.bool (bfP t c h n e)) ∧ Below w.heap.size w w' := by
  have l0 := World.block_lt_of_cell? w _ h0
  have l1 := World.block_lt_of_cell? w _ h1
  have l2 := World.block_lt_of_cell? w _ h2
  have l3 := World.block_lt_of_cell? w _ h3
  have AD := Lib.hid (fun w => addrF_any e w)
  have HW := BoxAt.new w #[.int .i64 e.f0, .int .i64 e.f1, .int .i64 e.f2, .int .i64 e.f3, .string e.f4, .int .i64 e.f5, .bool e.f6, .int .i64 e.f7] 35 _ rfl
  have hbW : Below w.heap.size w (w.alloc (.cells #[.int .i64 e.f0, .int .i64 e.f1, .int .i64 e.f2, .int .i64 e.f3, .string e.f4, .int .i64 e.f5, .bool e.f6, .int .i64 e.f7] 35)) := (Below.refl _ _).alloc (Nat.le_refl _) _
  have PB : ∀ {w' : World} {p : Nat} {x : Int}, w'.cell? ⟨p, 0, none⟩ = some (.int .i64 x) → BoxAt w' p #[.int .i64 x] := fun hh i v hv => by
    match i, hv with
    | 0, hv => cases hv; exact hh
  have L0 := Lib.hid (PB (by rw [hbW.cell (p := ⟨p0, 0, none⟩) l0]; exact h0 : (w.alloc (.cells #[.int .i64 e.f0, .int .i64 e.f1, .int .i64 e.f2, .int .i64 e.f3, .string e.f4, .int .i64 e.f5, .bool e.f6, .int .i64 e.f7] 35)).cell? ⟨p0, 0, none⟩ = some (.int .i64 t)))
  have L1 := Lib.hid (PB (by rw [hbW.cell (p := ⟨p1, 0, none⟩) l1]; exact h1 : (w.alloc (.cells #[.int .i64 e.f0, .int .i64 e.f1, .int .i64 e.f2, .int .i64 e.f3, .string e.f4, .int .i64 e.f5, .bool e.f6, .int .i64 e.f7] 35)).cell? ⟨p1, 0, none⟩ = some (.int .i64 c)))
  have L2 := Lib.hid (PB (by rw [hbW.cell (p := ⟨p2, 0, none⟩) l2]; exact h2 : (w.alloc (.cells #[.int .i64 e.f0, .int .i64 e.f1, .int .i64 e.f2, .int .i64 e.f3, .string e.f4, .int .i64 e.f5, .bool e.f6, .int .i64 e.f7] 35)).cell? ⟨p2, 0, none⟩ = some (.int .i64 h)))
  have L3 := Lib.hid (PB (by rw [hbW.cell (p := ⟨p3, 0, none⟩) l3]; exact h3 : (w.alloc (.cells #[.int .i64 e.f0, .int .i64 e.f1, .int .i64 e.f2, .int .i64 e.f3, .string e.f4, .int .i64 e.f5, .bool e.f6, .int .i64 e.f7] 35)).cell? ⟨p3, 0, none⟩ = some (.int .i64 n)))
  have hlt : w.heap.size < (w.alloc (.cells #[.int .i64 e.f0, .int .i64 e.f1, .int .i64 e.f2, .int .i64 e.f3, .string e.f4, .int .i64 e.f5, .bool e.f6, .int .i64 e.f7] 35)).heap.size := by simp
  clear PB h0 h1 h2 h3
  obtain ⟨r, hr⟩ : ∃ r, ((e.f0 == c) && ((e.f1 == h) && (e.f2 == n))) = r := ⟨_, rfl⟩
  have HR := Lib.hid hr
  obtain ⟨q, hq⟩ : ∃ q, (e.f5 == t) = q := ⟨_, rfl⟩
  have HQ := Lib.hid hq
  have e9 : bfP t c h n e = (q && r) := by unfold bfP; rw [hr, hq]
  rw [e9]
  clear e9 hr hq
  go_enter Tryd.func14, Tryd.ntmps14
  go_upto_region 1 with (fail)
  generalize w.alloc (.cells #[.int .i64 e.f0, .int .i64 e.f1, .int .i64 e.f2, .int .i64 e.f3, .string e.f4, .int .i64 e.f5, .bool e.f6, .int .i64 e.f7] 35) = W at *
  have l0 : p0 < W.heap.size := Nat.lt_of_lt_of_le l0 hbW.size
  have l1 : p1 < W.heap.size := Nat.lt_of_lt_of_le l1 hbW.size
  have l2 : p2 < W.heap.size := Nat.lt_of_lt_of_le l2 hbW.size
  have l3 : p3 < W.heap.size := Nat.lt_of_lt_of_le l3 hbW.size
  have HBW := Lib.hid hbW; clear hbW
  cases q with
  | false =>
    have KS := Lib.hid (fun w' (hb : Below W.heap.size W w') => (show w'.cell? ⟨w.heap.size, 0, none⟩ = some (.int .i64 e.f0) ∧ w'.cell? ⟨w.heap.size, 1, none⟩ = some (.int .i64 e.f1) ∧ w'.cell? ⟨w.heap.size, 2, none⟩ = some (.int .i64 e.f2) ∧ w'.cell? ⟨w.heap.size, 3, none⟩ = some (.int .i64 e.f3) ∧ w'.cell? ⟨w.heap.size, 4, none⟩ = some (.string e.f4) ∧ w'.cell? ⟨w.heap.size, 5, none⟩ = some (.int .i64 e.f5) ∧ w'.cell? ⟨w.heap.size, 6, none⟩ = some (.bool e.f6) ∧ w'.cell? ⟨w.heap.size, 7, none⟩ = some (.int .i64 e.f7) ∧ w'.cell? ⟨p0, 0, none⟩ = some (.int .i64 t) ∧ w'.cell? ⟨p1, 0, none⟩ = some (.int .i64 c) ∧ w'.cell? ⟨p2, 0, none⟩ = some (.int .i64 h) ∧ w'.cell? ⟨p3, 0, none⟩ = some (.int .i64 n) from ⟨(HW.below hb hlt) 0 _ rfl, (HW.below hb hlt) 1 _ rfl, (HW.below hb hlt) 2 _ rfl, (HW.below hb hlt) 3 _ rfl, (HW.below hb hlt) 4 _ rfl, (HW.below hb hlt) 5 _ rfl, (HW.below hb hlt) 6 _ rfl, (HW.below hb hlt) 7 _ rfl, (L0.out.below hb l0) 0 _ rfl, (L1.out.below hb l1) 0 _ rfl, (L2.out.below hb l2) 0 _ rfl, (L3.out.below hb l3) 0 _ rfl⟩))
    have HC := Lib.hid (show Below W.heap.size W W.drew from (Below.refl _ _).drew)
    refine wp_region_held_drew (S := (fun w' => w'.cell? ⟨w.heap.size, 0, none⟩ = some (.int .i64 e.f0) ∧ w'.cell? ⟨w.heap.size, 1, none⟩ = some (.int .i64 e.f1) ∧ w'.cell? ⟨w.heap.size, 2, none⟩ = some (.int .i64 e.f2) ∧ w'.cell? ⟨w.heap.size, 3, none⟩ = some (.int .i64 e.f3) ∧ w'.cell? ⟨w.heap.size, 4, none⟩ = some (.string e.f4) ∧ w'.cell? ⟨w.heap.size, 5, none⟩ = some (.int .i64 e.f5) ∧ w'.cell? ⟨w.heap.size, 6, none⟩ = some (.bool e.f6) ∧ w'.cell? ⟨w.heap.size, 7, none⟩ = some (.int .i64 e.f7) ∧ w'.cell? ⟨p0, 0, none⟩ = some (.int .i64 t) ∧ w'.cell? ⟨p1, 0, none⟩ = some (.int .i64 c) ∧ w'.cell? ⟨p2, 0, none⟩ = some (.int .i64 h) ∧ w'.cell? ⟨p3, 0, none⟩ = some (.int .i64 n))) (by kernel_rfl) (KS.out _ HC.out) (fun hHeld => ?_)
    refine wpAnyH_take (i := 0) (oi := { dst := some 7, op := Op.fieldAddr 35 (Operand.tmp 5) 5, type := 0, pos := "l09_reader.go:288", after := #[], guard := none }) (v := ?_) rfl (by kernel_rfl) (by kernel_rfl) (by kernel_rfl) (fun _ _ _ h => h) (Or.inl ⟨by rfl, ?hy⟩) hHeld ?_
    case hy => (intro w' hSw; (try dsimp only at hSw); go_simp; try with_reducible rfl)
    simp only [Act.put, List.setIfInBounds_toArray, List.set_cons_zero, List.set_cons_succ]
    refine wpAnyH_take (i := 1) (oi := { dst := some 8, op := Op.load 2 (Operand.tmp 7), type := 2, pos := "l09_reader.go:288", after := #[{ on := 0, ground := Ground.data }], guard := none }) (v := ?_) rfl (by kernel_rfl) (by kernel_rfl) (by kernel_rfl) (fun _ _ _ h => h) (Or.inl ⟨by rfl, ?hy⟩) hHeld ?_
    case hy => (intro w' hSw; (try dsimp only at hSw); go_simp; try with_reducible rfl)
    simp only [Act.put, List.setIfInBounds_toArray, List.set_cons_zero, List.set_cons_succ]
    refine wpAnyH_take (i := 2) (oi := { dst := some 9, op := Op.load 2 (Operand.tmp 1), type := 2, pos := "l09_reader.go:288", after := #[], guard := none }) (v := ?_) rfl (by kernel_rfl) (by kernel_rfl) (by kernel_rfl) (fun _ _ _ h => h) (Or.inl ⟨by rfl, ?hy⟩) hHeld ?_
    case hy => (intro w' hSw; (try dsimp only at hSw); go_simp; try with_reducible rfl)
    simp only [Act.put, List.setIfInBounds_toArray, List.set_cons_zero, List.set_cons_succ]
    refine wpAnyH_take (i := 3) (oi := { dst := some 10, op := Op.binOp BinOp.eql 2 (Operand.tmp 8) (Operand.tmp 9) 2, type := 4, pos := "l09_reader.go:288", after := #[{ on := 1, ground := Ground.data }, { on := 2, ground := Ground.data }], guard := none }) (v := .bool false) rfl (by kernel_rfl) (by kernel_rfl) (by kernel_rfl) (fun _ _ _ h => h) (Or.inl ⟨by rfl, ?hy⟩) hHeld ?_
    case hy => (intro w' hSw; (try dsimp only at hSw); go_simp; have hh := HQ.out; simp at hh; simp [hh])
    simp only [Act.put, List.setIfInBounds_toArray, List.set_cons_zero, List.set_cons_succ]
    refine wpAnyH_take (i := 4) (oi := { dst := some 11, op := Op.move (Operand.tmp 10), type := 4, pos := "l09_reader.go:288", after := #[{ on := 3, ground := Ground.data }], guard := none }) (v := .bool false) rfl (by kernel_rfl) (by kernel_rfl) (by kernel_rfl) (fun _ _ _ h => h) (Or.inl ⟨by rfl, ?hy⟩) hHeld ?_
    case hy => (intro w' hSw; (try dsimp only at hSw); go_simp; first | done | omega | (simp; omega))
    simp only [Act.put, List.setIfInBounds_toArray, List.set_cons_zero, List.set_cons_succ]
    refine wpAnyH_take (i := 5) (oi := { dst := some 12, op := Op.load 35 (Operand.tmp 5), type := 35, pos := "l09_reader.go:288", after := #[{ on := 4, ground := Ground.guard }], guard := some (4, true) }) (v := undef) rfl (by kernel_rfl) (by kernel_rfl) (by kernel_rfl) (fun _ _ _ h => h) (Or.inr ⟨by rfl, rfl⟩) hHeld ?_
    simp only [Act.put, List.setIfInBounds_toArray, List.set_cons_zero, List.set_cons_succ]
    refine wpAnyH_take (i := 6) (oi := { dst := some 13, op := Op.call { callee := Callee.value (Operand.func 15), args := #[Operand.tmp 12], argTypes := #[35] }, type := 40, pos := "l09_reader.go:288", after := #[{ on := 5, ground := Ground.data }, { on := 4, ground := Ground.chain }, { on := 4, ground := Ground.guard }], guard := some (4, true) }) (v := undef) rfl (by kernel_rfl) (by kernel_rfl) (by kernel_rfl) (fun _ _ _ h => h) (Or.inr ⟨by rfl, rfl⟩) hHeld ?_
    simp only [Act.put, List.setIfInBounds_toArray, List.set_cons_zero, List.set_cons_succ]
    refine wpAnyH_take (i := 7) (oi := { dst := some 14, op := Op.load 2 (Operand.tmp 2), type := 2, pos := "l09_reader.go:288", after := #[{ on := 4, ground := Ground.guard }], guard := some (4, true) }) (v := undef) rfl (by kernel_rfl) (by kernel_rfl) (by kernel_rfl) (fun _ _ _ h => h) (Or.inr ⟨by rfl, rfl⟩) hHeld ?_
    simp only [Act.put, List.setIfInBounds_toArray, List.set_cons_zero, List.set_cons_succ]
    refine wpAnyH_take (i := 8) (oi := { dst := some 15, op := Op.load 2 (Operand.tmp 3), type := 2, pos := "l09_reader.go:288", after := #[{ on := 4, ground := Ground.guard }], guard := some (4, true) }) (v := undef) rfl (by kernel_rfl) (by kernel_rfl) (by kernel_rfl) (fun _ _ _ h => h) (Or.inr ⟨by rfl, rfl⟩) hHeld ?_
    simp only [Act.put, List.setIfInBounds_toArray, List.set_cons_zero, List.set_cons_succ]
    refine wpAnyH_take (i := 9) (oi := { dst := some 16, op := Op.load 2 (Operand.tmp 4), type := 2, pos := "l09_reader.go:288", after := #[{ on := 4, ground := Ground.guard }], guard := some (4, true) }) (v := undef) rfl (by kernel_rfl) (by kernel_rfl) (by kernel_rfl) (fun _ _ _ h => h) (Or.inr ⟨by rfl, rfl⟩) hHeld ?_
    simp only [Act.put, List.setIfInBounds_toArray, List.set_cons_zero, List.set_cons_succ]
    refine wpAnyH_take (i := 10) (oi := { dst := some 17, op := Op.fieldAddr 35 (Operand.tmp 5) 3, type := 0, pos := "l09_reader.go:288", after := #[{ on := 4, ground := Ground.guard }], guard := some (4, true) }) (v := undef) rfl (by kernel_rfl) (by kernel_rfl) (by kernel_rfl) (fun _ _ _ h => h) (Or.inr ⟨by rfl, rfl⟩) hHeld ?_
    simp only [Act.put, List.setIfInBounds_toArray, List.set_cons_zero, List.set_cons_succ]
    refine wpAnyH_take (i := 11) (oi := { dst := some 18, op := Op.load 2 (Operand.tmp 17), type := 2, pos := "l09_reader.go:288", after := #[{ on := 10, ground := Ground.data }, { on := 4, ground := Ground.guard }], guard := some (4, true) }) (v := undef) rfl (by kernel_rfl) (by kernel_rfl) (by kernel_rfl) (fun _ _ _ h => h) (Or.inr ⟨by rfl, rfl⟩) hHeld ?_
    simp only [Act.put, List.setIfInBounds_toArray, List.set_cons_zero, List.set_cons_succ]
    refine wpAnyH_take (i := 12) (oi := { dst := some 19, op := Op.build 40 #[(0, Operand.tmp 14), (1, Operand.tmp 15), (2, Operand.tmp 16), (3, Operand.tmp 18)], type := 40, pos := "l09_reader.go:288", after := #[{ on := 7, ground := Ground.data }, { on := 8, ground := Ground.data }, { on := 9, ground := Ground.data }, { on := 11, ground := Ground.data }, { on := 4, ground := Ground.guard }], guard := some (4, true) }) (v := undef) rfl (by kernel_rfl) (by kernel_rfl) (by kernel_rfl) (fun _ _ _ h => h) (Or.inr ⟨by rfl, rfl⟩) hHeld ?_
    simp only [Act.put, List.setIfInBounds_toArray, List.set_cons_zero, List.set_cons_succ]
    refine wpAnyH_take (i := 13) (oi := { dst := some 20, op := Op.binOp BinOp.eql 40 (Operand.tmp 13) (Operand.tmp 19) 40, type := 4, pos := "l09_reader.go:288", after := #[{ on := 6, ground := Ground.data }, { on := 12, ground := Ground.data }, { on := 4, ground := Ground.guard }], guard := some (4, true) }) (v := undef) rfl (by kernel_rfl) (by kernel_rfl) (by kernel_rfl) (fun _ _ _ h => h) (Or.inr ⟨by rfl, rfl⟩) hHeld ?_
    simp only [Act.put, List.setIfInBounds_toArray, List.set_cons_zero, List.set_cons_succ]
    refine wpAnyH_take (i := 14) (oi := { dst := some 21, op := Op.pick (Operand.tmp 11) (Operand.tmp 20) (Operand.const (Value.bool false)), type := 4, pos := "l09_reader.go:288", after := #[{ on := 4, ground := Ground.data }, { on := 13, ground := Ground.data }], guard := none }) (v := ?_) rfl (by kernel_rfl) (by kernel_rfl) (by kernel_rfl) (fun _ _ _ h => h) (Or.inl ⟨by rfl, ?hy⟩) hHeld ?_
    case hy => (intro w' hSw; (try dsimp only at hSw); go_simp; try with_reducible rfl)
    simp only [Act.put, List.setIfInBounds_toArray, List.set_cons_zero, List.set_cons_succ]
    refine wpAnyH_take (i := 15) (oi := { dst := some 6, op := Op.assign (Operand.tmp 21), type := 4, pos := "l09_reader.go:288", after := #[{ on := 14, ground := Ground.data }, { on := 6, ground := Ground.chain }, { on := 0, ground := Ground.phase }, { on := 1, ground := Ground.phase }, { on := 2, ground := Ground.phase }, { on := 3, ground := Ground.phase }, { on := 4, ground := Ground.phase }, { on := 5, ground := Ground.phase }, { on := 6, ground := Ground.phase }, { on := 7, ground := Ground.phase }, { on := 8, ground := Ground.phase }, { on := 9, ground := Ground.phase }, { on := 10, ground := Ground.phase }, { on := 11, ground := Ground.phase }, { on := 12, ground := Ground.phase }, { on := 13, ground := Ground.phase }, { on := 14, ground := Ground.phase }], guard := none }) (v := ?_) rfl (by kernel_rfl) (by kernel_rfl) (by kernel_rfl) (fun _ _ _ h => h) (Or.inl ⟨by rfl, ?hy⟩) hHeld ?_
    case hy => (intro w' hSw; (try dsimp only at hSw); go_simp; try with_reducible rfl)
    simp only [Act.put, List.setIfInBounds_toArray, List.set_cons_zero, List.set_cons_succ]
    refine wpAnyH_done (by kernel_rfl) ?_ _
    go_wp2
    go_ret
    exact ⟨rfl, HBW.out.trans (HC.out.mono HBW.out.size)⟩
  | true =>
    have KS := Lib.hid (fun w' (hb : Below W.heap.size W w') => (show w'.cell? ⟨w.heap.size, 0, none⟩ = some (.int .i64 e.f0) ∧ w'.cell? ⟨w.heap.size, 1, none⟩ = some (.int .i64 e.f1) ∧ w'.cell? ⟨w.heap.size, 2, none⟩ = some (.int .i64 e.f2) ∧ w'.cell? ⟨w.heap.size, 3, none⟩ = some (.int .i64 e.f3) ∧ w'.cell? ⟨w.heap.size, 4, none⟩ = some (.string e.f4) ∧ w'.cell? ⟨w.heap.size, 5, none⟩ = some (.int .i64 e.f5) ∧ w'.cell? ⟨w.heap.size, 6, none⟩ = some (.bool e.f6) ∧ w'.cell? ⟨w.heap.size, 7, none⟩ = some (.int .i64 e.f7) ∧ w'.cell? ⟨p0, 0, none⟩ = some (.int .i64 t) ∧ w'.cell? ⟨p1, 0, none⟩ = some (.int .i64 c) ∧ w'.cell? ⟨p2, 0, none⟩ = some (.int .i64 h) ∧ w'.cell? ⟨p3, 0, none⟩ = some (.int .i64 n) from ⟨(HW.below hb hlt) 0 _ rfl, (HW.below hb hlt) 1 _ rfl, (HW.below hb hlt) 2 _ rfl, (HW.below hb hlt) 3 _ rfl, (HW.below hb hlt) 4 _ rfl, (HW.below hb hlt) 5 _ rfl, (HW.below hb hlt) 6 _ rfl, (HW.below hb hlt) 7 _ rfl, (L0.out.below hb l0) 0 _ rfl, (L1.out.below hb l1) 0 _ rfl, (L2.out.below hb l2) 0 _ rfl, (L3.out.below hb l3) 0 _ rfl⟩))
    have HC := Lib.hid (show Below W.heap.size W W.drew from (Below.refl _ _).drew)
    refine wp_region_held_drew (S := (fun w' => w'.cell? ⟨w.heap.size, 0, none⟩ = some (.int .i64 e.f0) ∧ w'.cell? ⟨w.heap.size, 1, none⟩ = some (.int .i64 e.f1) ∧ w'.cell? ⟨w.heap.size, 2, none⟩ = some (.int .i64 e.f2) ∧ w'.cell? ⟨w.heap.size, 3, none⟩ = some (.int .i64 e.f3) ∧ w'.cell? ⟨w.heap.size, 4, none⟩ = some (.string e.f4) ∧ w'.cell? ⟨w.heap.size, 5, none⟩ = some (.int .i64 e.f5) ∧ w'.cell? ⟨w.heap.size, 6, none⟩ = some (.bool e.f6) ∧ w'.cell? ⟨w.heap.size, 7, none⟩ = some (.int .i64 e.f7) ∧ w'.cell? ⟨p0, 0, none⟩ = some (.int .i64 t) ∧ w'.cell? ⟨p1, 0, none⟩ = some (.int .i64 c) ∧ w'.cell? ⟨p2, 0, none⟩ = some (.int .i64 h) ∧ w'.cell? ⟨p3, 0, none⟩ = some (.int .i64 n))) (by kernel_rfl) (KS.out _ HC.out) (fun hHeld => ?_)
    refine wpAnyH_take (i := 0) (oi := { dst := some 7, op := Op.fieldAddr 35 (Operand.tmp 5) 5, type := 0, pos := "l09_reader.go:288", after := #[], guard := none }) (v := ?_) rfl (by kernel_rfl) (by kernel_rfl) (by kernel_rfl) (fun _ _ _ h => h) (Or.inl ⟨by rfl, ?hy⟩) hHeld ?_
    case hy => (intro w' hSw; (try dsimp only at hSw); go_simp; try with_reducible rfl)
    simp only [Act.put, List.setIfInBounds_toArray, List.set_cons_zero, List.set_cons_succ]
    refine wpAnyH_take (i := 1) (oi := { dst := some 8, op := Op.load 2 (Operand.tmp 7), type := 2, pos := "l09_reader.go:288", after := #[{ on := 0, ground := Ground.data }], guard := none }) (v := ?_) rfl (by kernel_rfl) (by kernel_rfl) (by kernel_rfl) (fun _ _ _ h => h) (Or.inl ⟨by rfl, ?hy⟩) hHeld ?_
    case hy => (intro w' hSw; (try dsimp only at hSw); go_simp; try with_reducible rfl)
    simp only [Act.put, List.setIfInBounds_toArray, List.set_cons_zero, List.set_cons_succ]
    refine wpAnyH_take (i := 2) (oi := { dst := some 9, op := Op.load 2 (Operand.tmp 1), type := 2, pos := "l09_reader.go:288", after := #[], guard := none }) (v := ?_) rfl (by kernel_rfl) (by kernel_rfl) (by kernel_rfl) (fun _ _ _ h => h) (Or.inl ⟨by rfl, ?hy⟩) hHeld ?_
    case hy => (intro w' hSw; (try dsimp only at hSw); go_simp; try with_reducible rfl)
    simp only [Act.put, List.setIfInBounds_toArray, List.set_cons_zero, List.set_cons_succ]
    refine wpAnyH_take (i := 3) (oi := { dst := some 10, op := Op.binOp BinOp.eql 2 (Operand.tmp 8) (Operand.tmp 9) 2, type := 4, pos := "l09_reader.go:288", after := #[{ on := 1, ground := Ground.data }, { on := 2, ground := Ground.data }], guard := none }) (v := .bool true) rfl (by kernel_rfl) (by kernel_rfl) (by kernel_rfl) (fun _ _ _ h => h) (Or.inl ⟨by rfl, ?hy⟩) hHeld ?_
    case hy => (intro w' hSw; (try dsimp only at hSw); go_simp; have hh := HQ.out; simp at hh; simp [hh])
    simp only [Act.put, List.setIfInBounds_toArray, List.set_cons_zero, List.set_cons_succ]
    refine wpAnyH_take (i := 4) (oi := { dst := some 11, op := Op.move (Operand.tmp 10), type := 4, pos := "l09_reader.go:288", after := #[{ on := 3, ground := Ground.data }], guard := none }) (v := .bool true) rfl (by kernel_rfl) (by kernel_rfl) (by kernel_rfl) (fun _ _ _ h => h) (Or.inl ⟨by rfl, ?hy⟩) hHeld ?_
    case hy => (intro w' hSw; (try dsimp only at hSw); go_simp; first | done | omega | (simp; omega))
    simp only [Act.put, List.setIfInBounds_toArray, List.set_cons_zero, List.set_cons_succ]
    refine wpAnyH_take (i := 5) (oi := { dst := some 12, op := Op.load 35 (Operand.tmp 5), type := 35, pos := "l09_reader.go:288", after := #[{ on := 4, ground := Ground.guard }], guard := some (4, true) }) (v := ?_) rfl (by kernel_rfl) (by kernel_rfl) (by kernel_rfl) (fun _ _ _ h => h) (Or.inl ⟨by rfl, ?hy⟩) hHeld ?_
    case hy => (intro w' hSw; (try dsimp only at hSw); go_simp; try with_reducible rfl)
    simp only [Act.put, List.setIfInBounds_toArray, List.set_cons_zero, List.set_cons_succ]
    refine wpAnyH_take (i := 7) (oi := { dst := some 14, op := Op.load 2 (Operand.tmp 2), type := 2, pos := "l09_reader.go:288", after := #[{ on := 4, ground := Ground.guard }], guard := some (4, true) }) (v := ?_) rfl (by kernel_rfl) (by kernel_rfl) (by kernel_rfl) (fun _ _ _ h => h) (Or.inl ⟨by rfl, ?hy⟩) hHeld ?_
    case hy => (intro w' hSw; (try dsimp only at hSw); go_simp; try with_reducible rfl)
    simp only [Act.put, List.setIfInBounds_toArray, List.set_cons_zero, List.set_cons_succ]
    refine wpAnyH_take (i := 8) (oi := { dst := some 15, op := Op.load 2 (Operand.tmp 3), type := 2, pos := "l09_reader.go:288", after := #[{ on := 4, ground := Ground.guard }], guard := some (4, true) }) (v := ?_) rfl (by kernel_rfl) (by kernel_rfl) (by kernel_rfl) (fun _ _ _ h => h) (Or.inl ⟨by rfl, ?hy⟩) hHeld ?_
    case hy => (intro w' hSw; (try dsimp only at hSw); go_simp; try with_reducible rfl)
    simp only [Act.put, List.setIfInBounds_toArray, List.set_cons_zero, List.set_cons_succ]
    refine wpAnyH_take (i := 9) (oi := { dst := some 16, op := Op.load 2 (Operand.tmp 4), type := 2, pos := "l09_reader.go:288", after := #[{ on := 4, ground := Ground.guard }], guard := some (4, true) }) (v := ?_) rfl (by kernel_rfl) (by kernel_rfl) (by kernel_rfl) (fun _ _ _ h => h) (Or.inl ⟨by rfl, ?hy⟩) hHeld ?_
    case hy => (intro w' hSw; (try dsimp only at hSw); go_simp; try with_reducible rfl)
    simp only [Act.put, List.setIfInBounds_toArray, List.set_cons_zero, List.set_cons_succ]
    refine wpAnyH_take (i := 10) (oi := { dst := some 17, op := Op.fieldAddr 35 (Operand.tmp 5) 3, type := 0, pos := "l09_reader.go:288", after := #[{ on := 4, ground := Ground.guard }], guard := some (4, true) }) (v := ?_) rfl (by kernel_rfl) (by kernel_rfl) (by kernel_rfl) (fun _ _ _ h => h) (Or.inl ⟨by rfl, ?hy⟩) hHeld ?_
    case hy => (intro w' hSw; (try dsimp only at hSw); go_simp; try with_reducible rfl)
    simp only [Act.put, List.setIfInBounds_toArray, List.set_cons_zero, List.set_cons_succ]
    refine wpAnyH_take (i := 11) (oi := { dst := some 18, op := Op.load 2 (Operand.tmp 17), type := 2, pos := "l09_reader.go:288", after := #[{ on := 10, ground := Ground.data }, { on := 4, ground := Ground.guard }], guard := some (4, true) }) (v := ?_) rfl (by kernel_rfl) (by kernel_rfl) (by kernel_rfl) (fun _ _ _ h => h) (Or.inl ⟨by rfl, ?hy⟩) hHeld ?_
    case hy => (intro w' hSw; (try dsimp only at hSw); go_simp; try with_reducible rfl)
    simp only [Act.put, List.setIfInBounds_toArray, List.set_cons_zero, List.set_cons_succ]
    refine wpAnyH_take (i := 12) (oi := { dst := some 19, op := Op.build 40 #[(0, Operand.tmp 14), (1, Operand.tmp 15), (2, Operand.tmp 16), (3, Operand.tmp 18)], type := 40, pos := "l09_reader.go:288", after := #[{ on := 7, ground := Ground.data }, { on := 8, ground := Ground.data }, { on := 9, ground := Ground.data }, { on := 11, ground := Ground.data }, { on := 4, ground := Ground.guard }], guard := some (4, true) }) (v := ?_) rfl (by kernel_rfl) (by kernel_rfl) (by kernel_rfl) (fun _ _ _ h => h) (Or.inl ⟨by rfl, ?hy⟩) hHeld ?_
    case hy => (intro w' hSw; (try dsimp only at hSw); go_simp; try with_reducible rfl)
    simp only [Act.put, List.setIfInBounds_toArray, List.set_cons_zero, List.set_cons_succ]
    refine wpAnyH_ready (rs := [6]) (by kernel_rfl) (by simp) ?_
    refine AllReadyH.cons (o := { dst := some 13, op := Op.call { callee := Callee.value (Operand.func 15), args := #[Operand.tmp 12], argTypes := #[35] }, type := 40, pos := "l09_reader.go:288", after := #[{ on := 5, ground := Ground.data }, { on := 4, ground := Ground.chain }, { on := 4, ground := Ground.guard }], guard := some (4, true) }) rfl (fun K hK => ?_) AllReadyH.nil
    go_simp
    go_at_call 15; refine (AD.out _).mono ?_; rintro e wk1 ⟨rfl, hb1⟩; replace HC := Lib.hid (HC.out.trans (hb1.mono HC.out.size))
    go_wp2_with fail
    refine hK.out _ _ (KS.out _ HC.out) (fun hHeld => ?_)
    clear hK K
    try simp only [Act.put, List.setIfInBounds_toArray, List.set_cons_zero, List.set_cons_succ]
    refine wpAnyH_take (i := 13) (oi := { dst := some 20, op := Op.binOp BinOp.eql 40 (Operand.tmp 13) (Operand.tmp 19) 40, type := 4, pos := "l09_reader.go:288", after := #[{ on := 6, ground := Ground.data }, { on := 12, ground := Ground.data }, { on := 4, ground := Ground.guard }], guard := some (4, true) }) (v := (.bool r)) rfl (by kernel_rfl) (by kernel_rfl) (by kernel_rfl) (fun _ _ _ h => h) (Or.inl ⟨by rfl, ?hy⟩) hHeld ?_
    case hy => (intro w' hSw; (try dsimp only at hSw); go_simp; have hh := HR.out; rw [← hh]; by_cases k0 : e.f0 = c <;> by_cases k1 : e.f1 = h <;> by_cases k2 : e.f2 = n <;> simp [k0, k1, k2])
    simp only [Act.put, List.setIfInBounds_toArray, List.set_cons_zero, List.set_cons_succ]
    refine wpAnyH_take (i := 14) (oi := { dst := some 21, op := Op.pick (Operand.tmp 11) (Operand.tmp 20) (Operand.const (Value.bool false)), type := 4, pos := "l09_reader.go:288", after := #[{ on := 4, ground := Ground.data }, { on := 13, ground := Ground.data }], guard := none }) (v := (.bool r)) rfl (by kernel_rfl) (by kernel_rfl) (by kernel_rfl) (fun _ _ _ h => h) (Or.inl ⟨by rfl, ?hy⟩) hHeld ?_
    case hy => (intro w' hSw; (try dsimp only at hSw); go_simp; first | done | omega | (simp; omega))
    simp only [Act.put, List.setIfInBounds_toArray, List.set_cons_zero, List.set_cons_succ]
    refine wpAnyH_take (i := 15) (oi := { dst := some 6, op := Op.assign (Operand.tmp 21), type := 4, pos := "l09_reader.go:288", after := #[{ on := 14, ground := Ground.data }, { on := 6, ground := Ground.chain }, { on := 0, ground := Ground.phase }, { on := 1, ground := Ground.phase }, { on := 2, ground := Ground.phase }, { on := 3, ground := Ground.phase }, { on := 4, ground := Ground.phase }, { on := 5, ground := Ground.phase }, { on := 6, ground := Ground.phase }, { on := 7, ground := Ground.phase }, { on := 8, ground := Ground.phase }, { on := 9, ground := Ground.phase }, { on := 10, ground := Ground.phase }, { on := 11, ground := Ground.phase }, { on := 12, ground := Ground.phase }, { on := 13, ground := Ground.phase }, { on := 14, ground := Ground.phase }], guard := none }) (v := ?_) rfl (by kernel_rfl) (by kernel_rfl) (by kernel_rfl) (fun _ _ _ h => h) (Or.inl ⟨by rfl, ?hy⟩) hHeld ?_
    case hy => (intro w' hSw; (try dsimp only at hSw); go_simp; try with_reducible rfl)
    simp only [Act.put, List.setIfInBounds_toArray, List.set_cons_zero, List.set_cons_succ]
    refine wpAnyH_done (by kernel_rfl) ?_ _
    go_wp2
    go_ret
    exact ⟨rfl, HBW.out.trans (HC.out.mono HBW.out.size)⟩
set_option maxHeartbeats 2000000 in
theorem indexFound_any (a : Option Addr) (es : List FoundV) (c0 : Nat) (t c h n : Int) (p0 p1 p2 p3 : Nat) (w : World) (hm : es.length ≤ 1048576) (hS : SlS rowFound w a es) (h0 : w.cell? ⟨p0, 0, none⟩ = some (.int .i64 t)) (h1 : w.cell? ⟨p1, 0, none⟩ = some (.int .i64 c)) (h2 : w.cell? ⟨p2, 0, none⟩ = some (.int .i64 h)) (h3 : w.cell? ⟨p3, 0, none⟩ = some (.int .i64 n)) :
    Calls Tryd.prog 13 #[.slice a es.length c0, .func (.func 14) #[] #[.pointer (some ⟨p0, 0, none⟩), .pointer (some ⟨p1, 0, none⟩), .pointer (some ⟨p2, 0, none⟩), .pointer (some ⟨p3, 0, none⟩)]] w fun x w' => x = .returned (.int .i64 (idxF (bfP t c h n) 0 es)) ∧ Below w.heap.size w w' := by
  have l0 := World.block_lt_of_cell? w _ h0
  have l1 := World.block_lt_of_cell? w _ h1
  have l2 := World.block_lt_of_cell? w _ h2
  have l3 := World.block_lt_of_cell? w _ h3
  have CL := Lib.hid (fun e w' (hb : Below w.heap.size w w') => bf1_any e t c h n p0 p1 p2 p3 w' (by rw [hb.cell (p := ⟨p0, 0, none⟩) l0]; exact h0) (by rw [hb.cell (p := ⟨p1, 0, none⟩) l1]; exact h1) (by rw [hb.cell (p := ⟨p2, 0, none⟩) l2]; exact h2) (by rw [hb.cell (p := ⟨p3, 0, none⟩) l3]; exact h3))
  clear h0 h1 h2 h3 l0 l1 l2 l3
  generalize bfP t c h n = p at *
  go_enter Tryd.func13, Tryd.ntmps13
  go_wp2
  go_loopw [5, 8] (fun _ i wr => ∃ (k : Nat), k ≤ es.length ∧ i = .int .i64 k ∧ Hid (idxF p 0 es = idxF p k (es.drop k)) ∧ Below w.heap.size w wr) (fun _ i _ => es.length - (intOf i).toNat)
  case atStart => exact ⟨0, Nat.zero_le _, rfl, by unfold Hid; simp, Below.refl _ _⟩
  case round =>
    obtain ⟨k, hk, rfl, hR, hb⟩ := hrel
    by_cases hlt2 : k < es.length
    · obtain ⟨e, hx⟩ : ∃ e, es[k]? = some e := ⟨es[k], by simp [hlt2]⟩
      obtain ⟨b, off, rfl, hbl, hc⟩ := (hS.below hb (Nat.le_refl _)).at rowFound_len hx
      have c0 : wr.cell? ⟨b, off + k * 8, none⟩ = some (.int .i64 e.f0) := hc 0 _ rfl
      have c1 : wr.cell? ⟨b, off + k * 8 + 1, none⟩ = some (.int .i64 e.f1) := hc 1 _ rfl
      have c2 : wr.cell? ⟨b, off + k * 8 + 2, none⟩ = some (.int .i64 e.f2) := hc 2 _ rfl
      have c3 : wr.cell? ⟨b, off + k * 8 + 3, none⟩ = some (.int .i64 e.f3) := hc 3 _ rfl
      have c4 : wr.cell? ⟨b, off + k * 8 + 4, none⟩ = some (.string e.f4) := hc 4 _ rfl
      have c5 : wr.cell? ⟨b, off + k * 8 + 5, none⟩ = some (.int .i64 e.f5) := hc 5 _ rfl
      have c6 : wr.cell? ⟨b, off + k * 8 + 6, none⟩ = some (.bool e.f6) := hc 6 _ rfl
      have c7 : wr.cell? ⟨b, off + k * 8 + 7, none⟩ = some (.int .i64 e.f7) := hc 7 _ rfl
      have hR' := hR.out
      rw [dropF hx, idxF] at hR'
      have H := Lib.hid (And.intro hS (And.intro hc hx)); clear hS hc hx hR
      have HB := Lib.hid hb; clear hb
      have CE := Lib.hid (CL.out e wr HB.out)
      obtain ⟨q, hq⟩ : ∃ q, p e = q := ⟨_, rfl⟩
      rw [hq] at hR' CE
      clear hq
      cases q with
      | true =>
        rw [if_pos rfl] at hR'
        have HR := Lib.hid hR'; clear hR'
        go_wp2_with fail
        refine CE.out.mono ?_
        rintro e_ w1 ⟨rfl, hb1⟩
        go_wp2
        go_ret
        exact ⟨ret_int HR.out.symm, HB.out.trans (hb1.mono HB.out.size)⟩
      | false =>
        rw [if_neg (by decide)] at hR'
        have HR := Lib.hid hR'; clear hR'
        go_wp2_with fail
        refine CE.out.mono ?_
        rintro e_ w1 ⟨rfl, hb1⟩
        clear c0 c1 c2 c3 c4 c5 c6 c7
        go_wp2
        go_roundw
        case rel => exact ⟨k + 1, by omega, by go_num, by unfold Hid; exact HR.out, HB.out.trans (hb1.mono HB.out.size)⟩
        case measure => simp [intOf]; omega
    · obtain rfl : k = es.length := by omega
      have HR := Lib.hid (show idxF p 0 es = -1 by rw [hR.out]; simp [idxF])
      go_wp2
      go_ret
      exact ⟨ret_int HR.out.symm, hb⟩
/-- The package variable impl.statesByWorth holds its three states. -/
def WorthTab (w : World) : Prop := ∃ T fr, w.heap[0]? = some (.cells (ordsF.map (Value.int .i64)).toArray T fr)
theorem WorthTab.below {w w' : World} {B : Nat} (h : WorthTab w) (hb : Below B w w') (hB : 0 < B) : WorthTab w' := by
  obtain ⟨T, fr, hh⟩ := h
  exact ⟨T, fr, by rw [hb.block _ hB]; exact hh⟩
theorem WorthTab.cell {w : World} (h : WorthTab w) (k : Nat) (hk : k < 3) : w.cell? ⟨0, k, none⟩ = some (.int .i64 (ordsF[k]'hk)) := by
  obtain ⟨T, fr, hh⟩ := h
  match k, hk with
  | 0, _ => simp [World.cell?, hh, ordsF]
  | 1, _ => simp [World.cell?, hh, ordsF]
  | 2, _ => simp [World.cell?, hh, ordsF]
def worthL : List Nat := [1, 3, 4]
theorem idxWorth (k : Nat) (t : Int) (h : ordsF[k]? = some t) (w : World) : (Instr.index 37 (.agg #[.int .i64 1, .int .i64 3, .int .i64 4]) (.int .i64 (k : Int))).run Tryd.prog w = .ok (.int .i64 t) w := by
  have hk : k < 3 := (List.getElem?_eq_some_iff.1 h).1
  match k, hk, h with
  | 0, _, h => cases h; rfl
  | 1, _, h => cases h; rfl
  | 2, _, h => cases h; rfl
set_option maxHeartbeats 4000000 in
theorem bestFound_any (a : Option Addr) (es : List FoundV) (cap : Nat) (c h n : Int) (w : World) (hm : es.length ≤ 1048576) (hs : ∀ e ∈ es, e.f4.size ≤ maxLen) (hS : SlS rowFound w a es) (hw : 0 < w.heap.size) (tab : WorthTab w) :
    Calls Tryd.prog 7 #[.slice a es.length cap, .int .i64 c, .int .i64 h, .int .i64 n] w fun x w' => x = .returned (.tuple #[.int .i64 (bfV es c h n), .bool (bfB es c h n)]) ∧ Below w.heap.size w w' := by
  have VL := Lib.hid (fun w' (hb : Below w.heap.size w w') => validFoundList_any a es cap w' hm hs (hS.below hb (Nat.le_refl _)))
  unfold bfV bfB
  obtain ⟨q, hq⟩ : ∃ q, foundsB es = q := ⟨_, rfl⟩
  rw [hq] at VL ⊢
  clear hq
  obtain ⟨L, hL⟩ : ∃ L, bfL es c h n ordsF = L := ⟨_, rfl⟩
  rw [hL]
  have HL0 := Lib.hid hL
  clear hL
  obtain ⟨V, hV⟩ : ∃ V, (if (q && decide (0 ≤ L)) = true then L else 0) = V := ⟨_, rfl⟩
  rw [hV]
  obtain ⟨B, hB⟩ : ∃ B, (q && decide (0 ≤ L)) = B := ⟨_, rfl⟩
  rw [hB]
  have HV := Lib.hid hV
  have HQ := Lib.hid hB
  clear hV hB
  go_enter Tryd.func7, Tryd.ntmps7
  go_upto_region 1 with (fail)
  have x0 : (((w.alloc (.cells #[.int .i64 c] 2)).alloc (.cells #[.int .i64 h] 2)).alloc (.cells #[.int .i64 n] 2)).cell? ⟨w.heap.size, 0, none⟩ = some (.int .i64 c) := by simp [go_sem]
  have x1 : (((w.alloc (.cells #[.int .i64 c] 2)).alloc (.cells #[.int .i64 h] 2)).alloc (.cells #[.int .i64 n] 2)).cell? ⟨w.heap.size + 1, 0, none⟩ = some (.int .i64 h) := by simp [go_sem]
  have x2 : (((w.alloc (.cells #[.int .i64 c] 2)).alloc (.cells #[.int .i64 h] 2)).alloc (.cells #[.int .i64 n] 2)).cell? ⟨w.heap.size + 1 + 1, 0, none⟩ = some (.int .i64 n) := by simp [go_sem]
  have hbW : Below w.heap.size w (((w.alloc (.cells #[.int .i64 c] 2)).alloc (.cells #[.int .i64 h] 2)).alloc (.cells #[.int .i64 n] 2)) := (((Below.refl _ _).alloc (Nat.le_refl _) _).alloc (by simp) _).alloc (by simp <;> omega) _
  have hz : w.heap.size + 1 + 1 < (((w.alloc (.cells #[.int .i64 c] 2)).alloc (.cells #[.int .i64 h] 2)).alloc (.cells #[.int .i64 n] 2)).heap.size := by simp
  generalize (((w.alloc (.cells #[.int .i64 c] 2)).alloc (.cells #[.int .i64 h] 2)).alloc (.cells #[.int .i64 n] 2)) = W at *
  have HBW := Lib.hid hbW
  have HTB := Lib.hid (tab.below hbW hw)
  have KS := Lib.hid (fun w' (hb : Below W.heap.size W w') => (show w'.cell? ⟨w.heap.size, 0, none⟩ = some (.int .i64 c) ∧ w'.cell? ⟨w.heap.size + 1, 0, none⟩ = some (.int .i64 h) ∧ w'.cell? ⟨w.heap.size + 1 + 1, 0, none⟩ = some (.int .i64 n) ∧ SlS rowFound w' a es ∧ w.heap.size + 1 + 1 < w'.heap.size from
    ⟨by rw [hb.cell (p := ⟨w.heap.size, 0, none⟩) (by show w.heap.size < _; omega)]; exact x0, by rw [hb.cell (p := ⟨w.heap.size + 1, 0, none⟩) (by show w.heap.size + 1 < _; omega)]; exact x1, by rw [hb.cell (p := ⟨w.heap.size + 1 + 1, 0, none⟩) hz]; exact x2, (hS.below hbW (Nat.le_refl _)).below (hb.mono (by omega)) (Nat.le_refl _), by have := hb.size; omega⟩))
  clear x0 x1 x2 hbW hS tab
  go_wp2_with fail
  refine (VL.out _ HBW.out).mono ?_
  rintro e_ w1 ⟨rfl, hb1⟩
  have hz1 := hb1.size
  have HB1 := Lib.hid hb1
  obtain ⟨T, fr, htab⟩ := HTB.out
  have ht1 : w1.heap[0]? = some (.cells (ordsF.map (Value.int .i64)).toArray T fr) := by rw [hb1.block _ (by omega)]; exact htab
  have g0 : w1.cell? ⟨0, 0, none⟩ = some (.int .i64 1) := by simp [World.cell?, ht1, ordsF]
  have g1 : w1.cell? ⟨0, 1, none⟩ = some (.int .i64 3) := by simp [World.cell?, ht1, ordsF]
  have g2 : w1.cell? ⟨0, 2, none⟩ = some (.int .i64 4) := by simp [World.cell?, ht1, ordsF]
  clear hb1 htab ht1
  cases q with
  | false =>
    go_wp2
    go_ret2
    have e1 : V = 0 := by rw [← HV.out]; rfl
    have e2 : B = false := by rw [← HQ.out]; rfl
    rw [e1, e2]
    exact ⟨rfl, HBW.out.trans (HB1.out.mono (by omega))⟩
  | true =>
    go_wp2
    go_loopw [11, 12, 17] (fun _ _ i wr => ∃ k : Nat, k ≤ 3 ∧ i = .int .i64 (k : Int) ∧ Hid (L = bfL es c h n (ordsF.drop k)) ∧ Below w1.heap.size w1 wr) (fun _ _ i _ => 3 - (intOf i).toNat)
    case atStart => exact ⟨0, by omega, rfl, by unfold Hid; exact HL0.out.symm, Below.refl _ _⟩
    case round =>
      obtain ⟨k, hk, rfl, hR, hb⟩ := hrel
      have hzb := hb.size
      by_cases hlt : k < 3
      · obtain ⟨t, ht⟩ : ∃ t, ordsF[k]? = some t := ⟨ordsF[k]'hlt, by simp [ordsF, hlt]⟩
        have hix := idxWorth k t ht
        have hR' := hR.out
        rw [dropF ht, bfL] at hR'
        have HB := Lib.hid hb; clear hb
        have HF := Lib.hid (show Below W.heap.size W wr from HB1.out.trans (HB.out.mono hz1))
        clear hR ht
        have HF2 := Lib.hid (show Below W.heap.size W (wr.alloc (.cells #[.int .i64 t] 2)) from HF.out.alloc HF.out.size _)
        obtain ⟨y0, y1, y2, y3, y4⟩ := KS.out _ HF2.out
        have y5 : (wr.alloc (.cells #[.int .i64 t] 2)).cell? ⟨wr.heap.size, 0, none⟩ = some (.int .i64 t) := by simp [go_sem]
        have IX := Lib.hid (indexFound_any a es cap t c h n _ _ _ _ _ hm y3 y5 y0 y1 y2)
        have hib := idxF_bd (bfP t c h n) es 0
        clear y0 y1 y2 y3 y4 y5
        generalize idxF (bfP t c h n) 0 es = ix at *
        go_wp2_with fail
        refine IX.out.mono ?_
        rintro e_ w2 ⟨rfl, hb2⟩
        have HB2 := Lib.hid (show Below w1.heap.size w1 w2 from (HB.out.alloc hzb _).trans (hb2.mono (by simp; omega)))
        clear hb2
        by_cases hix0 : 0 ≤ ix
        · rw [if_pos hix0] at hR'
          have HR := Lib.hid hR'; clear hR'
          go_wp2
          go_ret2
          refine ⟨?_, HBW.out.trans ((HB1.out.trans (HB2.out.mono hz1)).mono (by omega))⟩
          have e1 : V = ix := by rw [← HV.out, HR.out]; simp [hix0]
          have e2 : B = true := by rw [← HQ.out, HR.out]; simp [hix0]
          rw [e1, e2]
          rfl
        · rw [if_neg hix0] at hR'
          have HR := Lib.hid hR'; clear hR'
          go_wp2
          go_roundw
          case rel => exact ⟨k + 1, by omega, by go_num, by unfold Hid; exact HR.out, HB2.out⟩
          case measure => simp [intOf]; omega
      · obtain rfl : k = 3 := by omega
        have HR := Lib.hid (show L = -1 by rw [hR.out]; rfl)
        have HB := Lib.hid hb; clear hb hR
        go_wp2
        go_ret2
        refine ⟨?_, HBW.out.trans ((HB1.out.trans (HB.out.mono hz1)).mono (by omega))⟩
        have e1 : V = 0 := by rw [← HV.out, HR.out]; simp
        have e2 : B = false := by rw [← HQ.out, HR.out]; simp
        rw [e1, e2]
        rfl
end Go.Proofs.YtlffbaelcjfibaaDoor
