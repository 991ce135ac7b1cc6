/- Lists of files: (impl.File).valid, impl.ValidFiles, spec.ValidFiles -/
import Derived.Test.YtlgpkmgfcnhigaaRecFile
import Derived.Test.YtlgpkmgfcnhigaaIsName
import Derived.Test.YtlgpkmgfcnhigaaSpecIsName
import Derived.Laws.Cover1
import Derived.Deep.DeepCutAuto
namespace Go.Proofs.Ytlgpkmgfcnhigaa
open Go.RowKit Go.ChangeShapes Go.WideShapes Go.ChangeAt Go.Joins Go.Deep
set_option linter.unusedVariables false
set_option linter.unusedSimpArgs false
set_option maxRecDepth 20000
def fileE (e : FileV) : Bool := nameB e.f0 && decide (e.f1.size ≤ 512)
/-- The name of file k is greater than that of the file ahead of it. -/
def upAt (es : List FileV) (k : Nat) : Bool := match k with
  | 0 => true
  | j + 1 => match es[j]?, es[j + 1]? with
    | some y, some x => Op.bytesLess y.f0.toList x.f0.toList
    | _, _ => true
def upTo (es : List FileV) (k : Nat) : Bool := (List.range k).all (upAt es)
def filesB (es : List FileV) : Bool := decide (es.length ≤ 16) && (es.all fileE && upTo es es.length)
theorem upTo_succ (es : List FileV) (k : Nat) : upTo es (k + 1) = (upTo es k && upAt es k) := by unfold upTo; rw [List.range_succ]; simp
theorem upTo_no {es : List FileV} {n k : Nat} (h : k < n) (hp : upAt es k = false) : upTo es n = false := by
  unfold upTo
  rw [List.all_eq_false]
  exact ⟨k, List.mem_range.2 h, by simp [hp]⟩
set_option maxHeartbeats 1000000 in
theorem fileValid_any (e : FileV) (w : World) (hs : e.f0.size ≤ maxLen ∧ e.f1.size ≤ maxLen) :
    Calls Try.prog 54 #[.agg #[.string e.f0, .string e.f1]] w fun x w' => x = .returned (.bool (fileE e)) ∧ Below w.heap.size w w' := by
  have hn := fun w => isName_any e.f0 w hs.1
  have h2 := hs.2
  unfold maxLen at h2
  unfold fileE
  clear hs
  generalize nameB e.f0 = q at *
  have HN := Lib.hid hn; clear hn
  cases q with
  | false =>
    go_enter Try.func54, Try.ntmps54
    go_wp2_with fail
    refine (HN.out _).mono ?_
    rintro x w1 ⟨rfl, hb1⟩
    have FB := Lib.hid (show Below w.heap.size w w1 from Below.trans (by go_grown) (hb1.mono (by simp))); clear hb1
    go_wp2
    go_ret
    exact ⟨rfl, FB.out⟩
  | true =>
    go_enter Try.func54, Try.ntmps54
    go_wp2_with fail
    refine (HN.out _).mono ?_
    rintro x w1 ⟨rfl, hb1⟩
    have q1 : w1.cell? ⟨w.heap.size, 1, none⟩ = some (.string e.f1) := by rw [hb1.cell (p := ⟨w.heap.size, 1, none⟩) (by simp)]; simp [go_sem]
    have FB := Lib.hid (show Below w.heap.size w w1 from Below.trans (by go_grown) (hb1.mono (by simp))); clear hb1
    go_wp2
    go_ret
    refine ⟨ret_bool ?_, FB.out⟩
    rw [Bool.true_and]
    apply decide_eq_decide.2
    omega
set_option maxHeartbeats 2000000 in
theorem everyFile_any (a : Option Addr) (es : List FileV) (c : Nat) (w : World) (hm : es.length ≤ 1048576) (hs : ∀ e ∈ es, e.f0.size ≤ maxLen ∧ e.f1.size ≤ maxLen) (h : SlS rowFile w a es) :
    Calls Try.prog 53 #[.slice a es.length c, .func (.func 54) #[] #[]] w fun x w' => x = .returned (.bool (es.all fileE)) ∧ Below w.heap.size w w' := by
  go_enter Try.func53, Try.ntmps53
  go_wp2
  go_loopw [9] (fun i wr => ∃ (k : Nat), k ≤ es.length ∧ i = .int .i64 k ∧ Hid ((es.take k).all fileE = true) ∧ Below w.heap.size w wr) (fun i _ => es.length - (intOf i).toNat)
  case atStart => exact ⟨0, Nat.zero_le _, rfl, by unfold Hid; rfl, Below.refl _ _⟩
  case round =>
    obtain ⟨k, hk, rfl, hR, hb⟩ := hrel
    by_cases hlt2 : k < es.length
    · obtain ⟨e, hx⟩ : ∃ e, es[k]? = some e := ⟨es[k], by simp [hlt2]⟩
      obtain ⟨b, off, rfl, hbl, hc⟩ := (h.below hb (Nat.le_refl _)).at rowFile_len hx
      have c0 : wr.cell? ⟨b, off + k * 2, none⟩ = some (.string e.f0) := hc 0 _ rfl
      have c1 : wr.cell? ⟨b, off + k * 2 + 1, none⟩ = some (.string e.f1) := hc 1 _ rfl
      have CL := Lib.hid (fun w => fileValid_any e w (hs e (List.mem_of_getElem? hx)))
      have H := Lib.hid (And.intro h (And.intro hc (And.intro hx trivial))); clear h hc hx
      obtain ⟨q, hq⟩ : ∃ q, fileE e = q := ⟨_, rfl⟩
      rw [hq] at CL
      have HQ := Lib.hid hq; clear hq
      cases q with
      | false =>
        have HR := Lib.hid (show es.all fileE = false from List.all_eq_false.2 ⟨e, List.mem_of_getElem? H.out.2.2.1, by rw [HQ.out]; simp⟩)
        go_wp2_with fail
        refine (CL.out _).mono ?_
        rintro e_ w1 ⟨rfl, hb1⟩
        go_wp2
        go_ret
        exact ⟨ret_bool HR.out.symm, hb.trans (Below.trans (show Below w.heap.size wr _ from (Below.refl _ _).alloc hb.size _) (hb1.mono (by have := hb.size; simp <;> omega)))⟩
      | true =>
        go_wp2_with fail
        refine (CL.out _).mono ?_
        rintro e_ w1 ⟨rfl, hb1⟩
        clear c0 c1
        go_wp2
        go_roundw
        case rel => exact ⟨k + 1, by omega, by go_num, by unfold Hid; rw [List.take_add_one, H.out.2.2.1, List.all_append, hR.out]; simp [HQ.out], hb.trans (Below.trans (show Below w.heap.size wr _ from (Below.refl _ _).alloc hb.size _) (hb1.mono (by have := hb.size; simp <;> omega)))⟩
        case measure => simp [intOf]; omega
    · obtain rfl : k = es.length := by omega
      have HR := Lib.hid (show es.all fileE = true by have := hR.out; rwa [List.take_length] at this)
      go_wp2
      go_ret
      exact ⟨ret_bool HR.out.symm, hb⟩
theorem upAt_succ {es : List FileV} {j : Nat} {x y : FileV} (hy : es[j]? = some y) (hx : es[j + 1]? = some x) : upAt es (j + 1) = Op.bytesLess y.f0.toList x.f0.toList := by
  unfold upAt
  simp [hy, hx]
set_option maxHeartbeats 4000000 in
theorem validFiles_any (a : Option Addr) (c : Nat) (es : List FileV) (hm : es.length ≤ 1048576) (hs : ∀ e ∈ es, e.f0.size ≤ 1048576 ∧ e.f1.size ≤ 1048576) (w : World) (h : SlS rowFile w a es) :
    Calls Try.prog 35 #[.slice a es.length c] w fun e w' => e = .returned (.bool (filesB es)) ∧ Below w.heap.size w w' := by
  have hev := fun w' (hb : Below w.heap.size w w') => everyFile_any a es c w' hm (fun e he => by have := hs e he; unfold maxLen; omega) (h.below hb (Nat.le_refl _))
  unfold filesB
  by_cases h16 : es.length ≤ 16
  case neg =>
    have h17 : (16 : Int) < (es.length : Int) := by omega
    rw [decide_eq_false h16]
    clear hev
    go_enter Try.func35, Try.ntmps35
    go_wp2
    go_ret
    exact ⟨rfl, Below.refl _ _⟩
  have h17 : ¬ (16 : Int) < (es.length : Int) := by omega
  rw [decide_eq_true h16, Bool.true_and]
  obtain ⟨q, hq⟩ : ∃ q, es.all fileE = q := ⟨_, rfl⟩
  rw [hq] at hev ⊢
  have HE := Lib.hid hev; have HS := Lib.hid hs; clear hev hs hq
  cases q with
  | false =>
    go_enter Try.func35, Try.ntmps35
    go_wp2_with fail
    refine (HE.out _ (Below.refl _ _)).mono ?_
    rintro x w1 ⟨rfl, hb1⟩
    go_wp2
    go_ret
    exact ⟨rfl, hb1⟩
  | true =>
    rw [Bool.true_and]
    go_enter Try.func35, Try.ntmps35
    go_wp2_with fail
    refine (HE.out _ (Below.refl _ _)).mono ?_
    rintro x w1 ⟨rfl, hb1⟩
    go_wp2
    go_loopw [15] (fun i wr => ∃ k : Nat, k ≤ es.length ∧ i = .int .i64 (k : Int) ∧ Hid (upTo es k = true) ∧ Below w.heap.size w wr) (fun i _ => es.length - (intOf i).toNat)
    case atStart => exact ⟨0, Nat.zero_le _, rfl, Lib.hid rfl, hb1⟩
    case round =>
      obtain ⟨k, hk, rfl, ha, hb⟩ := hrel
      by_cases hlt : k < es.length
      · obtain ⟨x, hx⟩ : ∃ e, es[k]? = some e := ⟨es[k], by simp [hlt]⟩
        obtain ⟨b, off, rfl, hbl, hc⟩ := (h.below hb (Nat.le_refl _)).at rowFile_len hx
        have c0 : wr.cell? ⟨b, off + k * 2, none⟩ = some (.string x.f0) := hc 0 _ rfl
        have c1 : wr.cell? ⟨b, off + k * 2 + 1, none⟩ = some (.string x.f1) := hc 1 _ rfl
        have HX := Lib.hid hx
        have HB := Lib.hid hb
        cases k with
        | zero =>
          have d1 : decide ((0 : Int) < ((0 : Nat) : Int)) = false := by simp
          have d2 : decide ((0 : Int) < 0) = false := by simp
          have H := Lib.hid (And.intro h hc); clear h hc hx hb
          have c0' : wr.cell? ⟨b, off, none⟩ = some (.string x.f0) := by simpa using c0
          have c1' : wr.cell? ⟨b, off + 1, none⟩ = some (.string x.f1) := by simpa using c1
          clear c0 c1
          go_upto_region 6 with (fail)
          refine wp_region_held_drew (S := (fun _ => True)) (by kernel_rfl) trivial (fun hHeld => ?_)
          refine wpAnyH_take (i := 0) (oi := { dst := some 20, op := Op.move (Operand.tmp 3), type := 3, pos := "l15_blocks.go:271", after := #[], guard := none }) (v := ?_) rfl (by kernel_rfl) (by kernel_rfl) (by kernel_rfl) (fun _ _ _ h => h) (Or.inl ⟨by rfl, ?hy⟩) hHeld ?_
          case hy => (intro w' hSw; (try dsimp only at hSw); go_simp; try with_reducible rfl)
          simp only [Act.put, List.setIfInBounds_toArray, List.set_cons_zero, List.set_cons_succ]
          refine wpAnyH_take (i := 1) (oi := { dst := some 21, op := Op.binOp BinOp.gtr 3 (Operand.tmp 20) (Operand.const (Value.int IntKind.i64 0)) 3, type := 4, pos := "l15_blocks.go:271", after := #[{ on := 0, ground := Ground.data }], guard := none }) (v := .bool false) rfl (by kernel_rfl) (by kernel_rfl) (by kernel_rfl) (fun _ _ _ h => h) (Or.inl ⟨by rfl, ?hy⟩) hHeld ?_
          case hy => (intro w' hSw; (try dsimp only at hSw); go_simp; first | done | omega | (simp; omega))
          simp only [Act.put, List.setIfInBounds_toArray, List.set_cons_zero, List.set_cons_succ]
          refine wpAnyH_take (i := 2) (oi := { dst := some 22, op := Op.move (Operand.tmp 21), type := 4, pos := "l15_blocks.go:271", after := #[{ on := 1, ground := Ground.data }], guard := none }) (v := .bool false) rfl (by kernel_rfl) (by kernel_rfl) (by kernel_rfl) (fun _ _ _ h => h) (Or.inl ⟨by rfl, ?hy⟩) hHeld ?_
          case hy => (intro w' hSw; (try dsimp only at hSw); go_simp; first | done | omega | (simp; omega))
          simp only [Act.put, List.setIfInBounds_toArray, List.set_cons_zero, List.set_cons_succ]
          refine wpAnyH_take (i := 3) (oi := { dst := some 23, op := Op.move (Operand.tmp 0), type := 25, pos := "l15_blocks.go:271", after := #[{ on := 2, ground := Ground.guard }], guard := some (2, true) }) (v := undef) rfl (by kernel_rfl) (by kernel_rfl) (by kernel_rfl) (fun _ _ _ h => h) (Or.inr ⟨by rfl, rfl⟩) hHeld ?_
          simp only [Act.put, List.setIfInBounds_toArray, List.set_cons_zero, List.set_cons_succ]
          refine wpAnyH_take (i := 4) (oi := { dst := some 24, op := Op.move (Operand.tmp 3), type := 3, pos := "l15_blocks.go:271", after := #[{ on := 2, ground := Ground.guard }], guard := some (2, true) }) (v := undef) rfl (by kernel_rfl) (by kernel_rfl) (by kernel_rfl) (fun _ _ _ h => h) (Or.inr ⟨by rfl, rfl⟩) hHeld ?_
          simp only [Act.put, List.setIfInBounds_toArray, List.set_cons_zero, List.set_cons_succ]
          refine wpAnyH_take (i := 5) (oi := { dst := some 25, op := Op.binOp BinOp.sub 3 (Operand.tmp 24) (Operand.const (Value.int IntKind.i64 1)) 3, type := 3, pos := "l15_blocks.go:271", after := #[{ on := 4, ground := Ground.data }, { on := 2, ground := Ground.guard }], guard := some (2, true) }) (v := undef) rfl (by kernel_rfl) (by kernel_rfl) (by kernel_rfl) (fun _ _ _ h => h) (Or.inr ⟨by rfl, rfl⟩) hHeld ?_
          simp only [Act.put, List.setIfInBounds_toArray, List.set_cons_zero, List.set_cons_succ]
          refine wpAnyH_take (i := 6) (oi := { dst := some 26, op := Op.indexAddr 25 (Operand.tmp 23) (Operand.tmp 25), type := 0, pos := "l15_blocks.go:271", after := #[{ on := 3, ground := Ground.data }, { on := 5, ground := Ground.data }, { on := 2, ground := Ground.guard }], guard := some (2, true) }) (v := undef) rfl (by kernel_rfl) (by kernel_rfl) (by kernel_rfl) (fun _ _ _ h => h) (Or.inr ⟨by rfl, rfl⟩) hHeld ?_
          simp only [Act.put, List.setIfInBounds_toArray, List.set_cons_zero, List.set_cons_succ]
          refine wpAnyH_take (i := 7) (oi := { dst := some 27, op := Op.fieldAddr 46 (Operand.tmp 26) 0, type := 0, pos := "l15_blocks.go:271", after := #[{ on := 6, ground := Ground.data }, { on := 2, ground := Ground.guard }], guard := some (2, true) }) (v := undef) rfl (by kernel_rfl) (by kernel_rfl) (by kernel_rfl) (fun _ _ _ h => h) (Or.inr ⟨by rfl, rfl⟩) hHeld ?_
          simp only [Act.put, List.setIfInBounds_toArray, List.set_cons_zero, List.set_cons_succ]
          refine wpAnyH_take (i := 8) (oi := { dst := some 28, op := Op.load 9 (Operand.tmp 27), type := 9, pos := "l15_blocks.go:271", after := #[{ on := 7, ground := Ground.data }, { on := 2, ground := Ground.guard }], guard := some (2, true) }) (v := undef) rfl (by kernel_rfl) (by kernel_rfl) (by kernel_rfl) (fun _ _ _ h => h) (Or.inr ⟨by rfl, rfl⟩) hHeld ?_
          simp only [Act.put, List.setIfInBounds_toArray, List.set_cons_zero, List.set_cons_succ]
          refine wpAnyH_take (i := 9) (oi := { dst := some 29, op := Op.fieldAddr 46 (Operand.tmp 4) 0, type := 0, pos := "l15_blocks.go:271", after := #[{ on := 2, ground := Ground.guard }], guard := some (2, true) }) (v := undef) rfl (by kernel_rfl) (by kernel_rfl) (by kernel_rfl) (fun _ _ _ h => h) (Or.inr ⟨by rfl, rfl⟩) hHeld ?_
          simp only [Act.put, List.setIfInBounds_toArray, List.set_cons_zero, List.set_cons_succ]
          refine wpAnyH_take (i := 10) (oi := { dst := some 30, op := Op.load 9 (Operand.tmp 29), type := 9, pos := "l15_blocks.go:271", after := #[{ on := 9, ground := Ground.data }, { on := 2, ground := Ground.guard }], guard := some (2, true) }) (v := undef) rfl (by kernel_rfl) (by kernel_rfl) (by kernel_rfl) (fun _ _ _ h => h) (Or.inr ⟨by rfl, rfl⟩) hHeld ?_
          simp only [Act.put, List.setIfInBounds_toArray, List.set_cons_zero, List.set_cons_succ]
          refine wpAnyH_take (i := 11) (oi := { dst := some 31, op := Op.binOp BinOp.geq 9 (Operand.tmp 28) (Operand.tmp 30) 9, type := 4, pos := "l15_blocks.go:271", after := #[{ on := 8, ground := Ground.data }, { on := 10, ground := Ground.data }, { on := 2, ground := Ground.guard }], guard := some (2, true) }) (v := undef) rfl (by kernel_rfl) (by kernel_rfl) (by kernel_rfl) (fun _ _ _ h => h) (Or.inr ⟨by rfl, rfl⟩) hHeld ?_
          simp only [Act.put, List.setIfInBounds_toArray, List.set_cons_zero, List.set_cons_succ]
          refine wpAnyH_take (i := 12) (oi := { dst := some 32, op := Op.pick (Operand.tmp 22) (Operand.tmp 31) (Operand.const (Value.bool false)), type := 4, pos := "l15_blocks.go:271", after := #[{ on := 2, ground := Ground.data }, { on := 11, ground := Ground.data }], guard := none }) (v := ?_) rfl (by kernel_rfl) (by kernel_rfl) (by kernel_rfl) (fun _ _ _ h => h) (Or.inl ⟨by rfl, ?hy⟩) hHeld ?_
          case hy => (intro w' hSw; (try dsimp only at hSw); go_simp; try with_reducible rfl)
          simp only [Act.put, List.setIfInBounds_toArray, List.set_cons_zero, List.set_cons_succ]
          refine wpAnyH_done (by kernel_rfl) ?_ _
          go_wp2
          go_roundw
          case rel => exact ⟨1, by omega, by go_num, Lib.hid (by rw [upTo_succ, ha.out]; rfl), (HB.out.alloc HB.out.size _).drew⟩
          case measure => simp [intOf]; omega
        | succ j =>
          obtain ⟨y, hy⟩ : ∃ e, es[j]? = some e := ⟨es[j], by simp [show j < es.length by omega]⟩
          obtain ⟨b', off', hbo, _, hcy⟩ := (h.below hb (Nat.le_refl _)).at rowFile_len hy
          simp only [Option.some.injEq, Addr.mk.injEq, and_true] at hbo
          obtain ⟨rfl, rfl⟩ := hbo
          have y0 : wr.cell? ⟨b, off + j * 2, none⟩ = some (.string y.f0) := hcy 0 _ rfl
          have UP := Lib.hid (upAt_succ hy hx)
          have H := Lib.hid (And.intro h (And.intro hc (And.intro hx (And.intro hy hcy)))); clear h hc hx hb hy hcy
          have hbo2 : ∀ o : Obj, (wr.alloc o).cell? ⟨b, off + j * 2, none⟩ = some (.string y.f0) := fun o => by rw [((Below.refl wr.heap.size wr).alloc (Nat.le_refl _) o).cell (p := ⟨b, off + j * 2, none⟩) hbl]; exact y0
          have hj : j < es.length := by omega
          have hj1 : (j : Int) < (es.length : Int) := by omega
          obtain ⟨k, hk1⟩ : ∃ k, j + 1 = k := ⟨_, rfl⟩
          rw [hk1] at hk ha hlt c0 c1 UP ⊢
          have e1 : (0 : Int) < (k : Int) := by omega
          have e3 : IntKind.i64.wrap ((k : Int) - 1) = (j : Int) := by rw [IntWalk.i64_in _ (by omega)]; omega
          have e4 : (k : Int) < (es.length : Int) := by omega
          have HK := Lib.hid hk1; clear hk1
          obtain ⟨g, hg⟩ : ∃ g, Op.bytesLess y.f0.toList x.f0.toList = g := ⟨_, rfl⟩
          rw [hg] at UP
          cases g with
          | false =>
            have HN := Lib.hid (upTo_no hlt UP.out)
            go_upto_region 6 with (fail)
            refine wp_region_held_drew (S := (fun w' => w'.cell? ⟨b, off + j * 2, none⟩ = some (.string y.f0) ∧ w'.cell? ⟨wr.heap.size, 0, none⟩ = some (.string x.f0))) (by kernel_rfl) ⟨hbo2 _, by simp [go_sem]⟩ (fun hHeld => ?_)
            refine wpAnyH_take (i := 0) (oi := { dst := some 20, op := Op.move (Operand.tmp 3), type := 3, pos := "l15_blocks.go:271", after := #[], guard := none }) (v := ?_) rfl (by kernel_rfl) (by kernel_rfl) (by kernel_rfl) (fun _ _ _ h => h) (Or.inl ⟨by rfl, ?hy⟩) hHeld ?_
            case hy => (intro w' hSw; (try dsimp only at hSw); go_simp; try with_reducible rfl)
            simp only [Act.put, List.setIfInBounds_toArray, List.set_cons_zero, List.set_cons_succ]
            refine wpAnyH_take (i := 1) (oi := { dst := some 21, op := Op.binOp BinOp.gtr 3 (Operand.tmp 20) (Operand.const (Value.int IntKind.i64 0)) 3, type := 4, pos := "l15_blocks.go:271", after := #[{ on := 0, ground := Ground.data }], guard := none }) (v := .bool true) rfl (by kernel_rfl) (by kernel_rfl) (by kernel_rfl) (fun _ _ _ h => h) (Or.inl ⟨by rfl, ?hy⟩) hHeld ?_
            case hy => (intro w' hSw; (try dsimp only at hSw); go_simp; first | done | omega | (simp; omega))
            simp only [Act.put, List.setIfInBounds_toArray, List.set_cons_zero, List.set_cons_succ]
            refine wpAnyH_take (i := 2) (oi := { dst := some 22, op := Op.move (Operand.tmp 21), type := 4, pos := "l15_blocks.go:271", after := #[{ on := 1, ground := Ground.data }], guard := none }) (v := .bool true) rfl (by kernel_rfl) (by kernel_rfl) (by kernel_rfl) (fun _ _ _ h => h) (Or.inl ⟨by rfl, ?hy⟩) hHeld ?_
            case hy => (intro w' hSw; (try dsimp only at hSw); go_simp; first | done | omega | (simp; omega))
            simp only [Act.put, List.setIfInBounds_toArray, List.set_cons_zero, List.set_cons_succ]
            refine wpAnyH_take (i := 3) (oi := { dst := some 23, op := Op.move (Operand.tmp 0), type := 25, pos := "l15_blocks.go:271", after := #[{ on := 2, ground := Ground.guard }], guard := some (2, true) }) (v := ?_) rfl (by kernel_rfl) (by kernel_rfl) (by kernel_rfl) (fun _ _ _ h => h) (Or.inl ⟨by rfl, ?hy⟩) hHeld ?_
            case hy => (intro w' hSw; (try dsimp only at hSw); go_simp; try with_reducible rfl)
            simp only [Act.put, List.setIfInBounds_toArray, List.set_cons_zero, List.set_cons_succ]
            refine wpAnyH_take (i := 4) (oi := { dst := some 24, op := Op.move (Operand.tmp 3), type := 3, pos := "l15_blocks.go:271", after := #[{ on := 2, ground := Ground.guard }], guard := some (2, true) }) (v := ?_) rfl (by kernel_rfl) (by kernel_rfl) (by kernel_rfl) (fun _ _ _ h => h) (Or.inl ⟨by rfl, ?hy⟩) hHeld ?_
            case hy => (intro w' hSw; (try dsimp only at hSw); go_simp; try with_reducible rfl)
            simp only [Act.put, List.setIfInBounds_toArray, List.set_cons_zero, List.set_cons_succ]
            refine wpAnyH_take (i := 5) (oi := { dst := some 25, op := Op.binOp BinOp.sub 3 (Operand.tmp 24) (Operand.const (Value.int IntKind.i64 1)) 3, type := 3, pos := "l15_blocks.go:271", after := #[{ on := 4, ground := Ground.data }, { on := 2, ground := Ground.guard }], guard := some (2, true) }) (v := ?_) rfl (by kernel_rfl) (by kernel_rfl) (by kernel_rfl) (fun _ _ _ h => h) (Or.inl ⟨by rfl, ?hy⟩) hHeld ?_
            case hy => (intro w' hSw; (try dsimp only at hSw); go_simp; try with_reducible rfl)
            simp only [Act.put, List.setIfInBounds_toArray, List.set_cons_zero, List.set_cons_succ]
            refine wpAnyH_take (i := 6) (oi := { dst := some 26, op := Op.indexAddr 25 (Operand.tmp 23) (Operand.tmp 25), type := 0, pos := "l15_blocks.go:271", after := #[{ on := 3, ground := Ground.data }, { on := 5, ground := Ground.data }, { on := 2, ground := Ground.guard }], guard := some (2, true) }) (v := ?_) rfl (by kernel_rfl) (by kernel_rfl) (by kernel_rfl) (fun _ _ _ h => h) (Or.inl ⟨by rfl, ?hy⟩) hHeld ?_
            case hy => (intro w' hSw; (try dsimp only at hSw); go_simp; try with_reducible rfl)
            simp only [Act.put, List.setIfInBounds_toArray, List.set_cons_zero, List.set_cons_succ]
            refine wpAnyH_take (i := 7) (oi := { dst := some 27, op := Op.fieldAddr 46 (Operand.tmp 26) 0, type := 0, pos := "l15_blocks.go:271", after := #[{ on := 6, ground := Ground.data }, { on := 2, ground := Ground.guard }], guard := some (2, true) }) (v := ?_) rfl (by kernel_rfl) (by kernel_rfl) (by kernel_rfl) (fun _ _ _ h => h) (Or.inl ⟨by rfl, ?hy⟩) hHeld ?_
            case hy => (intro w' hSw; (try dsimp only at hSw); go_simp; try with_reducible rfl)
            simp only [Act.put, List.setIfInBounds_toArray, List.set_cons_zero, List.set_cons_succ]
            refine wpAnyH_take (i := 8) (oi := { dst := some 28, op := Op.load 9 (Operand.tmp 27), type := 9, pos := "l15_blocks.go:271", after := #[{ on := 7, ground := Ground.data }, { on := 2, ground := Ground.guard }], guard := some (2, true) }) (v := ?_) rfl (by kernel_rfl) (by kernel_rfl) (by kernel_rfl) (fun _ _ _ h => h) (Or.inl ⟨by rfl, ?hy⟩) hHeld ?_
            case hy => (intro w' hSw; (try dsimp only at hSw); go_simp; try with_reducible rfl)
            simp only [Act.put, List.setIfInBounds_toArray, List.set_cons_zero, List.set_cons_succ]
            refine wpAnyH_take (i := 9) (oi := { dst := some 29, op := Op.fieldAddr 46 (Operand.tmp 4) 0, type := 0, pos := "l15_blocks.go:271", after := #[{ on := 2, ground := Ground.guard }], guard := some (2, true) }) (v := ?_) rfl (by kernel_rfl) (by kernel_rfl) (by kernel_rfl) (fun _ _ _ h => h) (Or.inl ⟨by rfl, ?hy⟩) hHeld ?_
            case hy => (intro w' hSw; (try dsimp only at hSw); go_simp; try with_reducible rfl)
            simp only [Act.put, List.setIfInBounds_toArray, List.set_cons_zero, List.set_cons_succ]
            refine wpAnyH_take (i := 10) (oi := { dst := some 30, op := Op.load 9 (Operand.tmp 29), type := 9, pos := "l15_blocks.go:271", after := #[{ on := 9, ground := Ground.data }, { on := 2, ground := Ground.guard }], guard := some (2, true) }) (v := ?_) rfl (by kernel_rfl) (by kernel_rfl) (by kernel_rfl) (fun _ _ _ h => h) (Or.inl ⟨by rfl, ?hy⟩) hHeld ?_
            case hy => (intro w' hSw; (try dsimp only at hSw); go_simp; try with_reducible rfl)
            simp only [Act.put, List.setIfInBounds_toArray, List.set_cons_zero, List.set_cons_succ]
            refine wpAnyH_take (i := 11) (oi := { dst := some 31, op := Op.binOp BinOp.geq 9 (Operand.tmp 28) (Operand.tmp 30) 9, type := 4, pos := "l15_blocks.go:271", after := #[{ on := 8, ground := Ground.data }, { on := 10, ground := Ground.data }, { on := 2, ground := Ground.guard }], guard := some (2, true) }) (v := .bool true) rfl (by kernel_rfl) (by kernel_rfl) (by kernel_rfl) (fun _ _ _ h => h) (Or.inl ⟨by rfl, ?hy⟩) hHeld ?_
            case hy => (intro w' hSw; (try dsimp only at hSw); go_simp; first | done | omega | (simp; omega))
            simp only [Act.put, List.setIfInBounds_toArray, List.set_cons_zero, List.set_cons_succ]
            refine wpAnyH_take (i := 12) (oi := { dst := some 32, op := Op.pick (Operand.tmp 22) (Operand.tmp 31) (Operand.const (Value.bool false)), type := 4, pos := "l15_blocks.go:271", after := #[{ on := 2, ground := Ground.data }, { on := 11, ground := Ground.data }], guard := none }) (v := ?_) rfl (by kernel_rfl) (by kernel_rfl) (by kernel_rfl) (fun _ _ _ h => h) (Or.inl ⟨by rfl, ?hy⟩) hHeld ?_
            case hy => (intro w' hSw; (try dsimp only at hSw); go_simp; try with_reducible rfl)
            simp only [Act.put, List.setIfInBounds_toArray, List.set_cons_zero, List.set_cons_succ]
            refine wpAnyH_done (by kernel_rfl) ?_ _
            go_wp2
            go_ret
            exact ⟨ret_bool HN.out.symm, (HB.out.alloc HB.out.size _).drew⟩
          | true =>
            go_upto_region 6 with (fail)
            refine wp_region_held_drew (S := (fun w' => w'.cell? ⟨b, off + j * 2, none⟩ = some (.string y.f0) ∧ w'.cell? ⟨wr.heap.size, 0, none⟩ = some (.string x.f0))) (by kernel_rfl) ⟨hbo2 _, by simp [go_sem]⟩ (fun hHeld => ?_)
            refine wpAnyH_take (i := 0) (oi := { dst := some 20, op := Op.move (Operand.tmp 3), type := 3, pos := "l15_blocks.go:271", after := #[], guard := none }) (v := ?_) rfl (by kernel_rfl) (by kernel_rfl) (by kernel_rfl) (fun _ _ _ h => h) (Or.inl ⟨by rfl, ?hy⟩) hHeld ?_
            case hy => (intro w' hSw; (try dsimp only at hSw); go_simp; try with_reducible rfl)
            simp only [Act.put, List.setIfInBounds_toArray, List.set_cons_zero, List.set_cons_succ]
            refine wpAnyH_take (i := 1) (oi := { dst := some 21, op := Op.binOp BinOp.gtr 3 (Operand.tmp 20) (Operand.const (Value.int IntKind.i64 0)) 3, type := 4, pos := "l15_blocks.go:271", after := #[{ on := 0, ground := Ground.data }], guard := none }) (v := .bool true) rfl (by kernel_rfl) (by kernel_rfl) (by kernel_rfl) (fun _ _ _ h => h) (Or.inl ⟨by rfl, ?hy⟩) hHeld ?_
            case hy => (intro w' hSw; (try dsimp only at hSw); go_simp; first | done | omega | (simp; omega))
            simp only [Act.put, List.setIfInBounds_toArray, List.set_cons_zero, List.set_cons_succ]
            refine wpAnyH_take (i := 2) (oi := { dst := some 22, op := Op.move (Operand.tmp 21), type := 4, pos := "l15_blocks.go:271", after := #[{ on := 1, ground := Ground.data }], guard := none }) (v := .bool true) rfl (by kernel_rfl) (by kernel_rfl) (by kernel_rfl) (fun _ _ _ h => h) (Or.inl ⟨by rfl, ?hy⟩) hHeld ?_
            case hy => (intro w' hSw; (try dsimp only at hSw); go_simp; first | done | omega | (simp; omega))
            simp only [Act.put, List.setIfInBounds_toArray, List.set_cons_zero, List.set_cons_succ]
            refine wpAnyH_take (i := 3) (oi := { dst := some 23, op := Op.move (Operand.tmp 0), type := 25, pos := "l15_blocks.go:271", after := #[{ on := 2, ground := Ground.guard }], guard := some (2, true) }) (v := ?_) rfl (by kernel_rfl) (by kernel_rfl) (by kernel_rfl) (fun _ _ _ h => h) (Or.inl ⟨by rfl, ?hy⟩) hHeld ?_
            case hy => (intro w' hSw; (try dsimp only at hSw); go_simp; try with_reducible rfl)
            simp only [Act.put, List.setIfInBounds_toArray, List.set_cons_zero, List.set_cons_succ]
            refine wpAnyH_take (i := 4) (oi := { dst := some 24, op := Op.move (Operand.tmp 3), type := 3, pos := "l15_blocks.go:271", after := #[{ on := 2, ground := Ground.guard }], guard := some (2, true) }) (v := ?_) rfl (by kernel_rfl) (by kernel_rfl) (by kernel_rfl) (fun _ _ _ h => h) (Or.inl ⟨by rfl, ?hy⟩) hHeld ?_
            case hy => (intro w' hSw; (try dsimp only at hSw); go_simp; try with_reducible rfl)
            simp only [Act.put, List.setIfInBounds_toArray, List.set_cons_zero, List.set_cons_succ]
            refine wpAnyH_take (i := 5) (oi := { dst := some 25, op := Op.binOp BinOp.sub 3 (Operand.tmp 24) (Operand.const (Value.int IntKind.i64 1)) 3, type := 3, pos := "l15_blocks.go:271", after := #[{ on := 4, ground := Ground.data }, { on := 2, ground := Ground.guard }], guard := some (2, true) }) (v := ?_) rfl (by kernel_rfl) (by kernel_rfl) (by kernel_rfl) (fun _ _ _ h => h) (Or.inl ⟨by rfl, ?hy⟩) hHeld ?_
            case hy => (intro w' hSw; (try dsimp only at hSw); go_simp; try with_reducible rfl)
            simp only [Act.put, List.setIfInBounds_toArray, List.set_cons_zero, List.set_cons_succ]
            refine wpAnyH_take (i := 6) (oi := { dst := some 26, op := Op.indexAddr 25 (Operand.tmp 23) (Operand.tmp 25), type := 0, pos := "l15_blocks.go:271", after := #[{ on := 3, ground := Ground.data }, { on := 5, ground := Ground.data }, { on := 2, ground := Ground.guard }], guard := some (2, true) }) (v := ?_) rfl (by kernel_rfl) (by kernel_rfl) (by kernel_rfl) (fun _ _ _ h => h) (Or.inl ⟨by rfl, ?hy⟩) hHeld ?_
            case hy => (intro w' hSw; (try dsimp only at hSw); go_simp; try with_reducible rfl)
            simp only [Act.put, List.setIfInBounds_toArray, List.set_cons_zero, List.set_cons_succ]
            refine wpAnyH_take (i := 7) (oi := { dst := some 27, op := Op.fieldAddr 46 (Operand.tmp 26) 0, type := 0, pos := "l15_blocks.go:271", after := #[{ on := 6, ground := Ground.data }, { on := 2, ground := Ground.guard }], guard := some (2, true) }) (v := ?_) rfl (by kernel_rfl) (by kernel_rfl) (by kernel_rfl) (fun _ _ _ h => h) (Or.inl ⟨by rfl, ?hy⟩) hHeld ?_
            case hy => (intro w' hSw; (try dsimp only at hSw); go_simp; try with_reducible rfl)
            simp only [Act.put, List.setIfInBounds_toArray, List.set_cons_zero, List.set_cons_succ]
            refine wpAnyH_take (i := 8) (oi := { dst := some 28, op := Op.load 9 (Operand.tmp 27), type := 9, pos := "l15_blocks.go:271", after := #[{ on := 7, ground := Ground.data }, { on := 2, ground := Ground.guard }], guard := some (2, true) }) (v := ?_) rfl (by kernel_rfl) (by kernel_rfl) (by kernel_rfl) (fun _ _ _ h => h) (Or.inl ⟨by rfl, ?hy⟩) hHeld ?_
            case hy => (intro w' hSw; (try dsimp only at hSw); go_simp; try with_reducible rfl)
            simp only [Act.put, List.setIfInBounds_toArray, List.set_cons_zero, List.set_cons_succ]
            refine wpAnyH_take (i := 9) (oi := { dst := some 29, op := Op.fieldAddr 46 (Operand.tmp 4) 0, type := 0, pos := "l15_blocks.go:271", after := #[{ on := 2, ground := Ground.guard }], guard := some (2, true) }) (v := ?_) rfl (by kernel_rfl) (by kernel_rfl) (by kernel_rfl) (fun _ _ _ h => h) (Or.inl ⟨by rfl, ?hy⟩) hHeld ?_
            case hy => (intro w' hSw; (try dsimp only at hSw); go_simp; try with_reducible rfl)
            simp only [Act.put, List.setIfInBounds_toArray, List.set_cons_zero, List.set_cons_succ]
            refine wpAnyH_take (i := 10) (oi := { dst := some 30, op := Op.load 9 (Operand.tmp 29), type := 9, pos := "l15_blocks.go:271", after := #[{ on := 9, ground := Ground.data }, { on := 2, ground := Ground.guard }], guard := some (2, true) }) (v := ?_) rfl (by kernel_rfl) (by kernel_rfl) (by kernel_rfl) (fun _ _ _ h => h) (Or.inl ⟨by rfl, ?hy⟩) hHeld ?_
            case hy => (intro w' hSw; (try dsimp only at hSw); go_simp; try with_reducible rfl)
            simp only [Act.put, List.setIfInBounds_toArray, List.set_cons_zero, List.set_cons_succ]
            refine wpAnyH_take (i := 11) (oi := { dst := some 31, op := Op.binOp BinOp.geq 9 (Operand.tmp 28) (Operand.tmp 30) 9, type := 4, pos := "l15_blocks.go:271", after := #[{ on := 8, ground := Ground.data }, { on := 10, ground := Ground.data }, { on := 2, ground := Ground.guard }], guard := some (2, true) }) (v := .bool false) rfl (by kernel_rfl) (by kernel_rfl) (by kernel_rfl) (fun _ _ _ h => h) (Or.inl ⟨by rfl, ?hy⟩) hHeld ?_
            case hy => (intro w' hSw; (try dsimp only at hSw); go_simp; first | done | omega | (simp; omega))
            simp only [Act.put, List.setIfInBounds_toArray, List.set_cons_zero, List.set_cons_succ]
            refine wpAnyH_take (i := 12) (oi := { dst := some 32, op := Op.pick (Operand.tmp 22) (Operand.tmp 31) (Operand.const (Value.bool false)), type := 4, pos := "l15_blocks.go:271", after := #[{ on := 2, ground := Ground.data }, { on := 11, ground := Ground.data }], guard := none }) (v := ?_) rfl (by kernel_rfl) (by kernel_rfl) (by kernel_rfl) (fun _ _ _ h => h) (Or.inl ⟨by rfl, ?hy⟩) hHeld ?_
            case hy => (intro w' hSw; (try dsimp only at hSw); go_simp; try with_reducible rfl)
            simp only [Act.put, List.setIfInBounds_toArray, List.set_cons_zero, List.set_cons_succ]
            refine wpAnyH_done (by kernel_rfl) ?_ _
            go_wp2
            go_roundw
            case rel => exact ⟨k + 1, by omega, by go_num, Lib.hid (by rw [upTo_succ, ha.out, UP.out]; rfl), (HB.out.alloc HB.out.size _).drew⟩
            case measure => simp [intOf]; omega
      · obtain rfl : k = es.length := by omega
        go_wp2
        go_ret
        exact ⟨ret_bool ha.out.symm, hb⟩
set_option maxHeartbeats 4000000 in
theorem l15Files_any (a : Option Addr) (es : List FileV) (c : Nat) (hm : es.length ≤ 1048576) (hs : ∀ e ∈ es, e.f0.size ≤ 1048576 ∧ e.f1.size ≤ 1048576) (w : World) (h : SlS rowFile w a es) :
    Calls Try.prog 33 #[.slice a es.length c] w fun e w' => e = .returned (.bool (filesB es)) ∧ Below w.heap.size w w' := by
  go_enter Try.func33, Try.ntmps33
  go_wp2
  go_loopw [3] (fun i wr => ∃ k : Nat, k ≤ es.length ∧ i = .int .i64 (k : Int) ∧ Hid (upTo es k = true) ∧ Hid ((es.take k).all fileE = true) ∧ Hid (∃ n, wr = w.drewN n)) (fun i _ => es.length - (intOf i).toNat)
  case atStart => exact ⟨0, Nat.zero_le _, rfl, Lib.hid rfl, Lib.hid rfl, Lib.hid ⟨0, rfl⟩⟩
  case round =>
    obtain ⟨k, hk, rfl, ha, hp, hD⟩ := hrel
    have DB := Lib.hid (show Below w.heap.size w wr by obtain ⟨n, rfl⟩ := hD.out; exact below_drewN' (Below.refl _ _) n)
    have DS := Lib.hid (show ∀ m, ∃ n, wr.drewN m = w.drewN n by obtain ⟨n, rfl⟩ := hD.out; exact fun m => ⟨_, World.drewN_drewN _ _ _⟩)
    by_cases hlt : k < es.length
    · obtain ⟨x, hx⟩ : ∃ e, es[k]? = some e := ⟨es[k], by simp [hlt]⟩
      obtain ⟨b, off, rfl, hbl, hc⟩ := (h.below DB.out (Nat.le_refl _)).at rowFile_len hx
      have c0 : wr.cell? ⟨b, off + k * 2, none⟩ = some (.string x.f0) := hc 0 _ rfl
      have c1 : wr.cell? ⟨b, off + k * 2 + 1, none⟩ = some (.string x.f1) := hc 1 _ rfl
      have hsx := hs x (List.mem_of_getElem? hx)
      have SN := fun w => specIsName_any x.f0 w (by have := hsx.1; unfold maxLen; omega)
      have HA := Lib.hid (show fileE x = false → filesB es = false from fun h0 => by
        unfold filesB
        rw [List.all_eq_false.2 ⟨x, List.mem_of_getElem? hx, by simp [h0]⟩]
        simp)
      have HU := Lib.hid (show upAt es k = false → filesB es = false from fun h0 => by
        unfold filesB
        rw [upTo_no hlt h0]
        simp)
      have hfx : fileE x = (nameB x.f0 && decide (x.f1.size ≤ 512)) := rfl
      obtain ⟨q, hq⟩ : ∃ q, nameB x.f0 = q := ⟨_, rfl⟩
      rw [hq] at SN hfx
      have SNH := Lib.hid SN
      have HX := Lib.hid (And.intro hx hfx)
      clear hq SN hfx
      cases q with
      | false =>
        have HN := Lib.hid (HA.out (by rw [HX.out.2]; rfl))
        clear hx hc h hsx hs
        go_wp2_with fail
        go_quiet ((go_at_call 51; exact Calls.quiet_of_same ((SNH.out _).mono fun _ _ ⟨he, hw⟩ => ⟨he, hw.symm⟩)))
        go_wp2
        go_ret
        obtain ⟨n, hn⟩ := DS.out _
        exact ⟨ret_bool HN.out.symm, by rw [hn]; exact below_drewN' (Below.refl _ _) n⟩
      | true =>
        by_cases h512 : x.f1.size ≤ 512
        case neg =>
          have HN := Lib.hid (HA.out (by rw [HX.out.2, decide_eq_false h512]; rfl))
          have d1 : decide ((512 : Int) < (x.f1.size : Int)) = true := decide_eq_true (by omega)
          clear hx hc h hsx hs
          go_wp2_with fail
          go_quiet ((go_at_call 51; exact Calls.quiet_of_same ((SNH.out _).mono fun _ _ ⟨he, hw⟩ => ⟨he, hw.symm⟩)))
          go_wp2
          go_ret
          obtain ⟨n, hn⟩ := DS.out _
          exact ⟨ret_bool HN.out.symm, by rw [hn]; exact below_drewN' (Below.refl _ _) n⟩
        case pos =>
          have HF := Lib.hid (show fileE x = true by rw [HX.out.2, decide_eq_true h512]; rfl)
          have d1 : decide ((512 : Int) < (x.f1.size : Int)) = false := decide_eq_false (by omega)
          cases k with
          | zero =>
            have d2 : decide ((0 : Int) < ((0 : Nat) : Int)) = false := by simp
            have d3 : decide ((0 : Int) < 0) = false := by simp
            have c0' : wr.cell? ⟨b, off, none⟩ = some (.string x.f0) := by simpa using c0
            have c1' : wr.cell? ⟨b, off + 1, none⟩ = some (.string x.f1) := by simpa using c1
            clear c0 c1 hx hc hsx
            go_wp2_with fail
            go_quiet ((go_at_call 51; exact Calls.quiet_of_same ((SNH.out _).mono fun _ _ ⟨he, hw⟩ => ⟨he, hw.symm⟩)))
            go_wp2
            go_roundw
            case rel => exact ⟨1, by omega, by go_num, Lib.hid (by rw [upTo_succ, ha.out]; rfl), Lib.hid (by rw [List.take_add_one, HX.out.1, List.all_append, hp.out]; simp [HF.out]), Lib.hid (DS.out _)⟩
            case measure => simp [intOf]; omega
          | succ j =>
            obtain ⟨y, hy⟩ : ∃ e, es[j]? = some e := ⟨es[j], by simp [show j < es.length by omega]⟩
            obtain ⟨b', off', hbo, _, hcy⟩ := (h.below DB.out (Nat.le_refl _)).at rowFile_len hy
            simp only [Option.some.injEq, Addr.mk.injEq, and_true] at hbo
            obtain ⟨rfl, rfl⟩ := hbo
            have y0 : wr.cell? ⟨b, off + j * 2, none⟩ = some (.string y.f0) := hcy 0 _ rfl
            have UP := Lib.hid (upAt_succ hy hx)
            clear hx hc hsx hy hcy
            have hj : j < es.length := by omega
            obtain ⟨k, hk1⟩ : ∃ k, j + 1 = k := ⟨_, rfl⟩
            rw [hk1] at hk ha hp hlt c0 c1 UP HU HX ⊢
            have e1 : (0 : Int) < (k : Int) := by omega
            have d2 : decide ((0 : Int) < (k : Int)) = true := by simpa using e1
            have d3 : decide (0 < k) = true := decide_eq_true (by omega)
            have e3 : IntKind.i64.wrap ((k : Int) - 1) = (j : Int) := by rw [IntWalk.i64_in _ (by omega)]; omega
            have e4 : (k : Int) < (es.length : Int) := by omega
            have e5 : (j : Int) < (es.length : Int) := by omega
            have HK := Lib.hid hk1; clear hk1
            obtain ⟨g, hg⟩ : ∃ g, Op.bytesLess y.f0.toList x.f0.toList = g := ⟨_, rfl⟩
            rw [hg] at UP
            cases g with
            | false =>
              have HN := Lib.hid (HU.out UP.out)
              go_wp2_with fail
              go_quiet ((go_at_call 51; exact Calls.quiet_of_same ((SNH.out _).mono fun _ _ ⟨he, hw⟩ => ⟨he, hw.symm⟩)))
              go_wp2
              go_ret
              obtain ⟨n, hn⟩ := DS.out _
              exact ⟨ret_bool HN.out.symm, by rw [hn]; exact below_drewN' (Below.refl _ _) n⟩
            | true =>
              go_wp2_with fail
              go_quiet ((go_at_call 51; exact Calls.quiet_of_same ((SNH.out _).mono fun _ _ ⟨he, hw⟩ => ⟨he, hw.symm⟩)))
              go_wp2
              go_roundw
              case rel => exact ⟨k + 1, by omega, by go_num, Lib.hid (by rw [upTo_succ, ha.out, UP.out]; rfl), Lib.hid (by rw [List.take_add_one, HX.out.1, List.all_append, hp.out]; simp [HF.out]), Lib.hid (DS.out _)⟩
              case measure => simp [intOf]; omega
    · obtain rfl : k = es.length := by omega
      have HF := Lib.hid (show filesB es = decide (es.length ≤ 16) by
        have := hp.out
        rw [List.take_length] at this
        unfold filesB
        rw [this, ha.out]
        simp)
      go_wp2
      go_ret
      obtain ⟨n, hn⟩ := DS.out 0
      refine ⟨ret_bool ?_, by rw [show wr = wr.drewN 0 from rfl, hn]; exact below_drewN' (Below.refl _ _) n⟩
      rw [HF.out]
      apply decide_eq_decide.2
      omega
end Go.Proofs.Ytlgpkmgfcnhigaa
