/- impl.ProblemText, spec.ProblemText -/
import Derived.Test.YtbckicdjbgfofaaDoorProbText
namespace Go.Proofs.YtbckicdjbgfofaaDoor
open Go.RowKit
set_option linter.unusedVariables false
set_option linter.unusedSimpArgs false
set_option maxRecDepth 20000
def problemStrings : List ByteArray := [⟨#[]⟩, ⟨#[114, 101, 115, 101, 114, 118, 101, 100]⟩, ⟨#[101, 110, 116, 114, 121]⟩, ⟨#[116, 119, 105, 99, 101]⟩, ⟨#[114, 97, 110, 103, 101]⟩, ⟨#[108, 111, 111, 112]⟩, ⟨#[99, 114, 111, 115, 115]⟩, ⟨#[111, 112, 101, 110]⟩, ⟨#[115, 104, 111, 114, 116]⟩, ⟨#[108, 111, 110, 103]⟩, ⟨#[108, 111, 115, 116]⟩]
theorem problemStrings_size : ∀ s ∈ problemStrings, s.size ≤ 8 := by decide
def ProbWords (w : World) : Prop := ∃ T fr, w.heap[0]? = some (.cells (problemStrings.map Value.string).toArray T fr)
theorem ProbWords.lt {w : World} (h : ProbWords w) : 0 < w.heap.size := by
  obtain ⟨T, fr, h⟩ := h
  exact (Array.getElem?_eq_some_iff.1 h).1
theorem ProbWords.below {w w' : World} {B : Nat} (h : ProbWords w) (hb : Below B w w') (hg : 0 < B) : ProbWords w' := by
  obtain ⟨T, fr, h⟩ := h
  exact ⟨T, fr, by rw [hb.block _ hg]; exact h⟩
theorem ProbWords.cell {w : World} (h : ProbWords w) {k : Nat} {s : ByteArray} (hs : problemStrings[k]? = some s) : w.cell? ⟨0, k, none⟩ = some (.string s) := by
  obtain ⟨T, fr, h⟩ := h
  simp only [World.cell?, h]
  simp [hs]
/-- What the walk is told of the package variables. -/
def ProbTabs (w : World) : Prop := ProbWords w ∧ PowTab w
theorem ProbTabs.below {w w' : World} (h : ProbTabs w) (hb : Below w.heap.size w w') (_ : 0 < w.heap.size) : ProbTabs w' :=
  ⟨h.1.below hb h.1.lt, h.2.below hb⟩
def probB (x : ChainProblemV) : Bool := inB 1 10 x.f0 && inB 0 15 x.f1 && inB 0 127 x.f2
def probV (x : ChainProblemV) : ByteArray := if probB x = true then (problemStrings[x.f0.toNat]?).getD ⟨#[]⟩ ++ ⟨#[32]⟩ ++ decT x.f1 ++ ⟨#[32]⟩ ++ decT x.f2 else ⟨#[]⟩
theorem probV_size (x : ChainProblemV) : (probV x).size ≤ 1000 := by
  unfold probV
  split
  · rename_i h
    unfold probB at h
    simp only [Bool.and_eq_true] at h
    obtain ⟨⟨h0, h1⟩, h2⟩ := h
    obtain ⟨a0, a1⟩ := inB_iff.1 h1
    obtain ⟨b0, b1⟩ := inB_iff.1 h2
    have s1 := decT_size (n := x.f1) (by omega) (by omega)
    have s2 := decT_size (n := x.f2) (by omega) (by omega)
    have s0 : ((problemStrings[x.f0.toNat]?).getD ⟨#[]⟩).size ≤ 8 := by
      cases hh : problemStrings[x.f0.toNat]? with
      | none => show 0 ≤ 8; omega
      | some s => exact problemStrings_size s (List.mem_of_getElem? hh)
    have e32 : (⟨#[32]⟩ : ByteArray).size = 1 := rfl
    rw [ByteArray.size_append, ByteArray.size_append, ByteArray.size_append, ByteArray.size_append, e32]
    omega
  · show 0 ≤ 1000; omega
set_option maxHeartbeats 4000000 in
theorem probValid_any (x : ChainProblemV) (w : World) :
    Calls Tryd.prog 17 #[.agg #[.int .i64 x.f0, .int .i64 x.f1, .int .i64 x.f2]] w fun e w' => e = .returned (.bool (probB x)) ∧ Below w.heap.size w w' := by
  have IP := Lib.hid (fun n t w h0 h1 => isPlace_any n t w h0 h1)
  unfold probB
  cases h0 : inB 1 10 x.f0
  · go_enter Tryd.func17, Tryd.ntmps17
    go_wp2_with (go_at_call 20; refine (within_b 1 10 x.f0 _ _ _ (by simp)).mono ?_; rintro e w1 ⟨rfl, hb1⟩; rw [h0])
    go_ret
    exact ⟨rfl, Below.trans (by go_grown) (hb1.mono (by simp))⟩
  · have KB := Lib.hid (BoxAt.new w #[.int .i64 x.f0, .int .i64 x.f1, .int .i64 x.f2] 23 w.heap.size rfl)
    cases h1 : inB 0 15 x.f1
    · go_enter Tryd.func17, Tryd.ntmps17
      go_wp2_with fail
      refine (within_b 1 10 x.f0 _ _ _ (by simp)).mono ?_
      rintro e w1 ⟨rfl, hb1⟩
      rw [h0]
      have c1 := (KB.out.below hb1 (by simp)) 1 _ rfl
      have HB1 := Lib.hid (show Below w.heap.size w w1 from Below.trans (by go_grown) (hb1.mono (by simp)))
      clear hb1
      go_wp2_with fail
      refine (IP.out x.f1 16 _ (by omega) (by omega)).mono ?_
      rintro e w2 ⟨rfl, hb2⟩
      rw [show ((16 : Int) - 1) = 15 from rfl, h1]
      go_wp2
      go_ret
      exact ⟨rfl, HB1.out.trans (hb2.mono HB1.out.size)⟩
    · cases h2 : inB 0 127 x.f2
      all_goals
        go_enter Tryd.func17, Tryd.ntmps17
        go_wp2_with fail
        refine (within_b 1 10 x.f0 _ _ _ (by simp)).mono ?_
        rintro e w1 ⟨rfl, hb1⟩
        rw [h0]
        have c1 := (KB.out.below hb1 (by simp)) 1 _ rfl
        have KB2 := Lib.hid (KB.out.below hb1 (by simp))
        have HB1 := Lib.hid (show Below w.heap.size w w1 from Below.trans (by go_grown) (hb1.mono (by simp)))
        have hlt1 : w.heap.size < w1.heap.size := by have := hb1.size; simp at this; omega
        clear hb1
        go_wp2_with fail
        refine (IP.out x.f1 16 _ (by omega) (by omega)).mono ?_
        rintro e w2 ⟨rfl, hb2⟩
        rw [show ((16 : Int) - 1) = 15 from rfl, h1]
        clear c1
        have c2 := (KB2.out.below hb2 hlt1) 2 _ rfl
        have HB2 := Lib.hid (HB1.out.trans (hb2.mono HB1.out.size))
        clear hb2
        go_wp2_with fail
        refine (IP.out x.f2 128 _ (by omega) (by omega)).mono ?_
        rintro e w3 ⟨rfl, hb3⟩
        rw [show ((128 : Int) - 1) = 127 from rfl, h2]
        go_wp2
        go_ret
        exact ⟨rfl, HB2.out.trans (hb3.mono HB2.out.size)⟩
theorem probB_parts {x : ChainProblemV} (h : probB x = true) : (1 ≤ x.f0 ∧ x.f0 ≤ 10) ∧ (0 ≤ x.f1 ∧ x.f1 ≤ 15) ∧ 0 ≤ x.f2 ∧ x.f2 ≤ 127 := by
  unfold probB at h
  simp only [Bool.and_eq_true] at h
  exact ⟨inB_iff.1 h.1.1, inB_iff.1 h.1.2, inB_iff.1 h.2⟩
set_option maxHeartbeats 4000000 in
theorem problemText_any (x : ChainProblemV) (w : World) (hw : 0 < w.heap.size) (ht : ProbTabs w) :
    Calls Tryd.prog 13 #[.agg #[.int .i64 x.f0, .int .i64 x.f1, .int .i64 x.f2]] w fun e w' => e = .returned (.string (probV x)) ∧ Below w.heap.size w w' := by
  have VA := Lib.hid (fun w => probValid_any x w)
  unfold probV
  by_cases hp : probB x = true
  case neg =>
    have hf : probB x = false := by simpa using hp
    rw [if_neg hp]
    rw [hf] at VA
    clear hp hf
    go_enter Tryd.func13, Tryd.ntmps13
    go_wp2_with fail
    refine (VA.out _).mono ?_
    rintro e w1 ⟨rfl, hb1⟩
    go_wp2
    go_ret
    exact ⟨rfl, Below.trans (by go_grown) (hb1.mono (by simp))⟩
  case pos =>
    obtain ⟨⟨a0, a1⟩, ⟨b0, b1⟩, d0, d1⟩ := probB_parts hp
    rw [if_pos hp]
    rw [hp] at VA
    obtain ⟨k, hk⟩ : ∃ k : Nat, x.f0 = k := ⟨x.f0.toNat, by omega⟩
    obtain ⟨s, hs⟩ : ∃ s, problemStrings[k]? = some s := ⟨_, List.getElem?_eq_getElem (show k < problemStrings.length by simp [problemStrings]; omega)⟩
    have hss := problemStrings_size s (List.mem_of_getElem? hs)
    have hV : (problemStrings[x.f0.toNat]?).getD ⟨#[]⟩ = s := by rw [hk]; simp [hs]
    rw [hV]
    have hk11 : (k : Int) < 11 := by omega
    have HS := Lib.hid hs
    have HT := Lib.hid ht
    have LI := Lib.hid (fun (W : World) (b : Nat) (hW : SlA W (some ⟨b, 0, none⟩) [x.f1, x.f2]) (hP : PowTab W) => line_any s [x.f1, x.f2] (some ⟨b, 0, none⟩) 2 (by omega) (by simp) (by intro y hy; simp at hy; rcases hy with rfl | rfl <;> omega) W hW hP)
    have hJ : (⟨(joinK [x.f1, x.f2] [x.f1, x.f2].length).toArray⟩ : ByteArray) = decT x.f1 ++ ⟨#[32]⟩ ++ decT x.f2 := by
      apply ba_ext
      show (joinK [x.f1, x.f2] 2) = _
      rw [joinK_succ (k := 1) (x := x.f2) rfl (by omega), joinK_one (x := x.f1) rfl]
      simp [ByteArray.data_append]
    have HF := Lib.hid (show s ++ ⟨#[32]⟩ ++ ⟨(joinK [x.f1, x.f2] [x.f1, x.f2].length).toArray⟩ = s ++ ⟨#[32]⟩ ++ decT x.f1 ++ ⟨#[32]⟩ ++ decT x.f2 by
      rw [hJ]
      apply ba_ext
      simp [ByteArray.data_append])
    have KB := Lib.hid (BoxAt.new w #[.int .i64 x.f0, .int .i64 x.f1, .int .i64 x.f2] 23 w.heap.size rfl)
    clear hp hs hV hJ ht
    generalize s ++ ⟨#[32]⟩ ++ decT x.f1 ++ ⟨#[32]⟩ ++ decT x.f2 = R at *
    rw [hk] at KB VA ⊢
    clear hk
    go_enter Tryd.func13, Tryd.ntmps13
    go_wp2_with fail
    refine (VA.out _).mono ?_
    rintro e w1 ⟨rfl, hb1⟩
    have BX := KB.out.below hb1 (by simp)
    have HB1 := Lib.hid (show Below w.heap.size w w1 from Below.trans (by go_grown) (hb1.mono (by simp)))
    have hlt1 : w.heap.size < w1.heap.size := by have := hb1.size; simp at this; omega
    have HT1 := Lib.hid (HT.out.below HB1.out hw)
    have HC1 := Lib.hid (HT1.out.1.cell HS.out)
    clear hb1
    go_wp2
    have KS := Lib.hid (fun w' (hb : Below w1.heap.size w1 w') => (show w'.cell? ⟨w.heap.size, 0, none⟩ = some (.int .i64 (k : Int)) ∧ w'.cell? ⟨w.heap.size, 1, none⟩ = some (.int .i64 x.f1) ∧ w'.cell? ⟨w.heap.size, 2, none⟩ = some (.int .i64 x.f2) ∧ w'.cell? ⟨0, k, none⟩ = some (.string s) from
      ⟨(BX.below hb hlt1) 0 _ rfl, (BX.below hb hlt1) 1 _ rfl, (BX.below hb hlt1) 2 _ rfl, by rw [hb.cell (p := ⟨0, k, none⟩) (by have := HT1.out.1.lt; exact this)]; exact HC1.out⟩))
    have HC := Lib.hid (show Below w1.heap.size w1 w1.drew from (Below.refl _ _).drew)
    refine wp_region_held_drew (S := (fun w' => w'.cell? ⟨w.heap.size, 0, none⟩ = some (.int .i64 (k : Int)) ∧ w'.cell? ⟨w.heap.size, 1, none⟩ = some (.int .i64 x.f1) ∧ w'.cell? ⟨w.heap.size, 2, none⟩ = some (.int .i64 x.f2) ∧ w'.cell? ⟨0, k, none⟩ = some (.string s))) (by kernel_rfl) (KS.out _ HC.out) (fun hHeld => ?_)
    refine wpAnyH_take (i := 0) (oi := { dst := some 6, op := Op.fieldAddr 23 (Operand.tmp 1) 0, type := 0, pos := "l19_check.go:330", after := #[], guard := none }) (v := ?_) rfl (by kernel_rfl) (by kernel_rfl) (by kernel_rfl) (fun _ _ _ h => h) (Or.inl ⟨by rfl, ?hy⟩) hHeld ?_
    case hy => (intro w' hSw; (try dsimp only at hSw); go_simp; try with_reducible rfl)
    simp only [Act.put, List.setIfInBounds_toArray, List.set_cons_zero, List.set_cons_succ]
    refine wpAnyH_take (i := 1) (oi := { dst := some 7, op := Op.load 2 (Operand.tmp 6), type := 2, pos := "l19_check.go:330", after := #[{ on := 0, ground := Ground.data }], guard := none }) (v := ?_) rfl (by kernel_rfl) (by kernel_rfl) (by kernel_rfl) (fun _ _ _ h => h) (Or.inl ⟨by rfl, ?hy⟩) hHeld ?_
    case hy => (intro w' hSw; (try dsimp only at hSw); go_simp; try with_reducible rfl)
    simp only [Act.put, List.setIfInBounds_toArray, List.set_cons_zero, List.set_cons_succ]
    refine wpAnyH_take (i := 2) (oi := { dst := some 8, op := Op.indexAddr 43 (Operand.global 0) (Operand.tmp 7), type := 0, pos := "l19_check.go:330", after := #[{ on := 1, ground := Ground.data }], guard := none }) (v := ?_) rfl (by kernel_rfl) (by kernel_rfl) (by kernel_rfl) (fun _ _ _ h => h) (Or.inl ⟨by rfl, ?hy⟩) hHeld ?_
    case hy => (intro w' hSw; (try dsimp only at hSw); go_simp; try with_reducible rfl)
    simp only [Act.put, List.setIfInBounds_toArray, List.set_cons_zero, List.set_cons_succ]
    refine wpAnyH_take (i := 3) (oi := { dst := some 9, op := Op.load 9 (Operand.tmp 8), type := 9, pos := "l19_check.go:330", after := #[{ on := 2, ground := Ground.data }], guard := none }) (v := ?_) rfl (by kernel_rfl) (by kernel_rfl) (by kernel_rfl) (fun _ _ _ h => h) (Or.inl ⟨by rfl, ?hy⟩) hHeld ?_
    case hy => (intro w' hSw; (try dsimp only at hSw); go_simp; try with_reducible rfl)
    simp only [Act.put, List.setIfInBounds_toArray, List.set_cons_zero, List.set_cons_succ]
    refine wpAnyH_take (i := 4) (oi := { dst := some 10, op := Op.fieldAddr 23 (Operand.tmp 1) 1, type := 0, pos := "l19_check.go:330", after := #[], guard := none }) (v := ?_) rfl (by kernel_rfl) (by kernel_rfl) (by kernel_rfl) (fun _ _ _ h => h) (Or.inl ⟨by rfl, ?hy⟩) hHeld ?_
    case hy => (intro w' hSw; (try dsimp only at hSw); go_simp; try with_reducible rfl)
    simp only [Act.put, List.setIfInBounds_toArray, List.set_cons_zero, List.set_cons_succ]
    refine wpAnyH_take (i := 5) (oi := { dst := some 11, op := Op.load 2 (Operand.tmp 10), type := 2, pos := "l19_check.go:330", after := #[{ on := 4, ground := Ground.data }], guard := none }) (v := ?_) rfl (by kernel_rfl) (by kernel_rfl) (by kernel_rfl) (fun _ _ _ h => h) (Or.inl ⟨by rfl, ?hy⟩) hHeld ?_
    case hy => (intro w' hSw; (try dsimp only at hSw); go_simp; try with_reducible rfl)
    simp only [Act.put, List.setIfInBounds_toArray, List.set_cons_zero, List.set_cons_succ]
    refine wpAnyH_take (i := 6) (oi := { dst := some 12, op := Op.fieldAddr 23 (Operand.tmp 1) 2, type := 0, pos := "l19_check.go:330", after := #[], guard := none }) (v := ?_) rfl (by kernel_rfl) (by kernel_rfl) (by kernel_rfl) (fun _ _ _ h => h) (Or.inl ⟨by rfl, ?hy⟩) hHeld ?_
    case hy => (intro w' hSw; (try dsimp only at hSw); go_simp; try with_reducible rfl)
    simp only [Act.put, List.setIfInBounds_toArray, List.set_cons_zero, List.set_cons_succ]
    refine wpAnyH_take (i := 7) (oi := { dst := some 13, op := Op.load 2 (Operand.tmp 12), type := 2, pos := "l19_check.go:330", after := #[{ on := 6, ground := Ground.data }], guard := none }) (v := ?_) rfl (by kernel_rfl) (by kernel_rfl) (by kernel_rfl) (fun _ _ _ h => h) (Or.inl ⟨by rfl, ?hy⟩) hHeld ?_
    case hy => (intro w' hSw; (try dsimp only at hSw); go_simp; try with_reducible rfl)
    simp only [Act.put, List.setIfInBounds_toArray, List.set_cons_zero, List.set_cons_succ]
    refine wpAnyH_ready (rs := [8]) (by kernel_rfl) (by simp) ?_
    refine AllReadyH.cons (o := { dst := some 14, op := Op.buildSlice 35 2 #[(0, Operand.tmp 11), (1, Operand.tmp 13)], type := 35, pos := "l19_check.go:330", after := #[{ on := 5, ground := Ground.data }, { on := 7, ground := Ground.data }], guard := none }) rfl (fun K hK => ?_) AllReadyH.nil
    go_simp
    refine hK.out _ _ (KS.out _ (by first | exact HC.out | go_grown)) (fun hHeld => ?_)
    clear hK K
    try simp only [Act.put, List.setIfInBounds_toArray, List.set_cons_zero, List.set_cons_succ]
    refine wpAnyH_ready (rs := [9]) (by kernel_rfl) (by simp) ?_
    refine AllReadyH.cons (o := { dst := some 15, op := Op.call { callee := Callee.value (Operand.func 18), args := #[Operand.tmp 9, Operand.tmp 14], argTypes := #[9, 35] }, type := 9, pos := "l19_check.go:330", after := #[{ on := 3, ground := Ground.data }, { on := 8, ground := Ground.data }], guard := none }) rfl (fun K hK => ?_) AllReadyH.nil
    go_simp
    go_at_call 18; refine (LI.out _ w1.heap.size (RowAt.new w1 [x.f1, x.f2] w1.heap.size rfl).drew.sl (PowTab.below HT1.out.2 (show Below w1.heap.size w1 _ from by go_grown))).mono ?_; rintro e wk ⟨rfl, hbk⟩; have HC9 := Lib.hid (Below.trans (show Below w1.heap.size w1 _ from by go_grown) (hbk.mono (by simp))); clear HC; have HC := HC9
    go_wp2_with fail
    refine hK.out _ _ (KS.out _ (by first | exact HC.out | go_grown)) (fun hHeld => ?_)
    clear hK K
    try simp only [Act.put, List.setIfInBounds_toArray, List.set_cons_zero, List.set_cons_succ]
    refine wpAnyH_take (i := 10) (oi := { dst := some 2, op := Op.assign (Operand.tmp 15), type := 9, pos := "l19_check.go:330", after := #[{ on := 9, ground := Ground.data }, { on := 9, ground := Ground.chain }, { on := 0, ground := Ground.phase }, { on := 1, ground := Ground.phase }, { on := 2, ground := Ground.phase }, { on := 3, ground := Ground.phase }, { on := 4, ground := Ground.phase }, { on := 5, ground := Ground.phase }, { on := 6, ground := Ground.phase }, { on := 7, ground := Ground.phase }, { on := 8, ground := Ground.phase }, { on := 9, ground := Ground.phase }], guard := none }) (v := ?_) rfl (by kernel_rfl) (by kernel_rfl) (by kernel_rfl) (fun _ _ _ h => h) (Or.inl ⟨by rfl, ?hy⟩) hHeld ?_
    case hy => (intro w' hSw; (try dsimp only at hSw); go_simp; try with_reducible rfl)
    simp only [Act.put, List.setIfInBounds_toArray, List.set_cons_zero, List.set_cons_succ]
    refine wpAnyH_done (by kernel_rfl) ?_ _
    go_wp2
    go_ret
    exact ⟨by rw [← HF.out]; rfl, HB1.out.trans (HC.out.mono HB1.out.size)⟩
end Go.Proofs.YtbckicdjbgfofaaDoor
