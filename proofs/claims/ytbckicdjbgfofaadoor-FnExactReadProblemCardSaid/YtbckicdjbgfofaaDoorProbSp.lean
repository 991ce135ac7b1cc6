/- spec.ProblemText -/
import Derived.Test.YtbckicdjbgfofaaDoorProbIm
namespace Go.Proofs.YtbckicdjbgfofaaDoor
open Go.RowKit
set_option linter.unusedVariables false
set_option linter.unusedSimpArgs false
set_option maxRecDepth 20000
theorem l19Words_any (k : Nat) (s : ByteArray) (hs : problemStrings[k]? = some s) (w : World) :
    Calls Tryd.prog 9 #[] w fun e w' => ∃ g, e = .returned (.slice (some ⟨g, 0, none⟩) 11 11) ∧ g < w'.heap.size ∧ w'.cell? ⟨g, k, none⟩ = some (.string s) ∧ Below w.heap.size w w' := by
  have hc : (w.alloc (.cells (problemStrings.map Value.string).toArray 9)).cell? ⟨w.heap.size, k, none⟩ = some (.string s) := by
    simp only [World.cell?, heap_alloc_new]
    simp [hs]
  have HC := Lib.hid hc; clear hc hs
  go_enter Tryd.func9, Tryd.ntmps9
  go_wp2
  go_ret
  exact ⟨w.heap.size, rfl, by simp, HC.out, (Below.refl _ _).alloc (Nat.le_refl _) _⟩
set_option maxHeartbeats 4000000 in
theorem specProblemText_any (x : ChainProblemV) (w : World) :
    Calls Tryd.prog 10 #[.agg #[.int .i64 x.f0, .int .i64 x.f1, .int .i64 x.f2]] w fun e w' => e = .returned (.string (probV x)) ∧ Below w.heap.size w w' := by
  unfold probV
  by_cases hp : probB x = true
  case neg =>
    have hf : probB x = false := by simpa using hp
    rw [if_neg hp]
    unfold probB at hf
    have IN := Lib.hid (fun a b c w => l00In_any a b c w)
    clear hp
    cases h0 : inB 1 10 x.f0
    · clear hf
      go_enter Tryd.func10, Tryd.ntmps10
      go_wp2_with fail
      refine (IN.out x.f0 1 10 _).mono ?_
      rintro e w1 ⟨rfl, rfl⟩
      rw [h0]
      go_wp2
      go_ret
      exact ⟨rfl, by go_grown⟩
    · cases h1 : inB 0 15 x.f1
      · clear hf
        go_enter Tryd.func10, Tryd.ntmps10
        go_wp2_with fail
        refine (IN.out x.f0 1 10 _).mono ?_
        rintro e w1 ⟨rfl, rfl⟩
        rw [h0]
        go_wp2_with fail
        refine (IN.out x.f1 0 15 _).mono ?_
        rintro e w1 ⟨rfl, rfl⟩
        rw [h1]
        go_wp2
        go_ret
        exact ⟨rfl, by go_grown⟩
      · have h2 : inB 0 127 x.f2 = false := by
          rw [h0, h1] at hf
          exact hf
        clear hf
        go_enter Tryd.func10, Tryd.ntmps10
        go_wp2_with fail
        refine (IN.out x.f0 1 10 _).mono ?_
        rintro e w1 ⟨rfl, rfl⟩
        rw [h0]
        go_wp2_with fail
        refine (IN.out x.f1 0 15 _).mono ?_
        rintro e w1 ⟨rfl, rfl⟩
        rw [h1]
        go_wp2_with fail
        refine (IN.out x.f2 0 127 _).mono ?_
        rintro e w1 ⟨rfl, rfl⟩
        rw [h2]
        go_wp2
        go_ret
        exact ⟨rfl, by go_grown⟩
  case pos =>
    have hpp := hp
    obtain ⟨⟨a0, a1⟩, ⟨b0, b1⟩, d0, d1⟩ := probB_parts hp
    rw [if_pos hp]
    unfold probB at hpp
    simp only [Bool.and_eq_true] at hpp
    obtain ⟨⟨h0, h1⟩, h2⟩ := hpp
    obtain ⟨k, hk⟩ : ∃ k : Nat, x.f0 = k := ⟨x.f0.toNat, by omega⟩
    obtain ⟨p, hpn⟩ : ∃ p : Nat, x.f1 = p := ⟨x.f1.toNat, by omega⟩
    obtain ⟨q, hqn⟩ : ∃ q : Nat, x.f2 = q := ⟨x.f2.toNat, by omega⟩
    obtain ⟨s, hs⟩ : ∃ s, problemStrings[k]? = some s := ⟨_, List.getElem?_eq_getElem (show k < problemStrings.length by simp [problemStrings]; omega)⟩
    have hss := problemStrings_size s (List.mem_of_getElem? hs)
    have hV : (problemStrings[x.f0.toNat]?).getD ⟨#[]⟩ = s := by rw [hk]; simp [hs]
    rw [hV]
    have hk11 : (k : Int) < 11 := by omega
    have WO := Lib.hid (fun w => l19Words_any k s hs w)
    rw [hpn, hqn]
    have D1 := Lib.hid (fun w => l09Dec_any p (by omega) w)
    have D2 := Lib.hid (fun w => l09Dec_any q (by omega) w)
    have z1 := decT_size (n := (p : Int)) (by omega) (by omega)
    have z2 := decT_size (n := (q : Int)) (by omega) (by omega)
    rw [hk] at h0; rw [hpn] at h1; rw [hqn] at h2
    rw [hk]
    clear hp hs hV hk hpn hqn a0 a1 b0 b1 d0 d1
    generalize decT (p : Int) = t1 at *
    generalize decT (q : Int) = t2 at *
    have KB := Lib.hid (BoxAt.new w #[.int .i64 (k : Int), .int .i64 (p : Int), .int .i64 (q : Int)] 23 w.heap.size rfl)
    have IN := Lib.hid (fun a b c w => l00In_any a b c w)
    have g1 : (9223372036854775807 < s.size + 1) = False := by simp; omega
    have g2 : (9223372036854775807 < s.size + 1 + t1.size) = False := by simp; omega
    have g3 : (9223372036854775807 < s.size + 1 + t1.size + 1) = False := by simp; omega
    have g4 : (9223372036854775807 < s.size + 1 + t1.size + 1 + t2.size) = False := by simp; omega
    have G := Lib.hid (And.intro g1 (And.intro g2 (And.intro g3 g4)))
    clear g1 g2 g3 g4
    go_enter Tryd.func10, Tryd.ntmps10
    go_wp2_with fail
    refine (IN.out (k : Int) 1 10 _).mono ?_
    rintro e w1 ⟨rfl, rfl⟩
    rw [h0]
    go_wp2_with fail
    refine (IN.out (p : Int) 0 15 _).mono ?_
    rintro e w1 ⟨rfl, rfl⟩
    rw [h1]
    go_wp2_with fail
    refine (IN.out (q : Int) 0 127 _).mono ?_
    rintro e w1 ⟨rfl, rfl⟩
    rw [h2]
    go_wp2
    have F1 := Lib.hid (show Below w.heap.size w _ from (Below.refl _ w).alloc (Nat.le_refl _) (.cells #[.int .i64 (k : Int), .int .i64 (p : Int), .int .i64 (q : Int)] 23))
    have hlt : w.heap.size < (w.alloc (.cells #[.int .i64 (k : Int), .int .i64 (p : Int), .int .i64 (q : Int)] 23)).heap.size := by simp
    generalize (w.alloc (.cells #[.int .i64 (k : Int), .int .i64 (p : Int), .int .i64 (q : Int)] 23)) = W at KB F1 hlt ⊢
    obtain ⟨g1, g2, g3, g4⟩ := G.out
    clear h0 h1 h2
    have KS := Lib.hid (fun w' (hb : Below W.heap.size W w') => (show w'.cell? ⟨w.heap.size, 0, none⟩ = some (.int .i64 (k : Int)) ∧ w'.cell? ⟨w.heap.size, 1, none⟩ = some (.int .i64 (p : Int)) ∧ w'.cell? ⟨w.heap.size, 2, none⟩ = some (.int .i64 (q : Int)) from ⟨(KB.out.below hb hlt) 0 _ rfl, (KB.out.below hb hlt) 1 _ rfl, (KB.out.below hb hlt) 2 _ rfl⟩))
    have HC := Lib.hid (show Below W.heap.size W W.drew from (Below.refl _ _).drew)
    refine wp_region_held_drew (S := (fun w' => w'.cell? ⟨w.heap.size, 0, none⟩ = some (.int .i64 (k : Int)) ∧ w'.cell? ⟨w.heap.size, 1, none⟩ = some (.int .i64 (p : Int)) ∧ w'.cell? ⟨w.heap.size, 2, none⟩ = some (.int .i64 (q : Int)))) (by kernel_rfl) (KS.out _ HC.out) (fun hHeld => ?_)
    refine wpAnyH_take (i := 1) (oi := { dst := some 20, op := Op.fieldAddr 23 (Operand.tmp 1) 0, type := 0, pos := "l19_check.go:13", after := #[], guard := none }) (v := ?_) rfl (by kernel_rfl) (by kernel_rfl) (by kernel_rfl) (fun _ _ _ h => h) (Or.inl ⟨by rfl, ?hy⟩) hHeld ?_
    case hy => (intro w' hSw; (try dsimp only at hSw); go_simp; try with_reducible rfl)
    simp only [Act.put, List.setIfInBounds_toArray, List.set_cons_zero, List.set_cons_succ]
    refine wpAnyH_take (i := 2) (oi := { dst := some 21, op := Op.load 2 (Operand.tmp 20), type := 2, pos := "l19_check.go:13", after := #[{ on := 1, ground := Ground.data }], guard := none }) (v := ?_) rfl (by kernel_rfl) (by kernel_rfl) (by kernel_rfl) (fun _ _ _ h => h) (Or.inl ⟨by rfl, ?hy⟩) hHeld ?_
    case hy => (intro w' hSw; (try dsimp only at hSw); go_simp; try with_reducible rfl)
    simp only [Act.put, List.setIfInBounds_toArray, List.set_cons_zero, List.set_cons_succ]
    refine wpAnyH_take (i := 6) (oi := { dst := some 25, op := Op.fieldAddr 23 (Operand.tmp 1) 1, type := 0, pos := "l19_check.go:13", after := #[], guard := none }) (v := ?_) rfl (by kernel_rfl) (by kernel_rfl) (by kernel_rfl) (fun _ _ _ h => h) (Or.inl ⟨by rfl, ?hy⟩) hHeld ?_
    case hy => (intro w' hSw; (try dsimp only at hSw); go_simp; try with_reducible rfl)
    simp only [Act.put, List.setIfInBounds_toArray, List.set_cons_zero, List.set_cons_succ]
    refine wpAnyH_take (i := 7) (oi := { dst := some 26, op := Op.load 2 (Operand.tmp 25), type := 2, pos := "l19_check.go:13", after := #[{ on := 6, ground := Ground.data }], guard := none }) (v := ?_) rfl (by kernel_rfl) (by kernel_rfl) (by kernel_rfl) (fun _ _ _ h => h) (Or.inl ⟨by rfl, ?hy⟩) hHeld ?_
    case hy => (intro w' hSw; (try dsimp only at hSw); go_simp; try with_reducible rfl)
    simp only [Act.put, List.setIfInBounds_toArray, List.set_cons_zero, List.set_cons_succ]
    refine wpAnyH_take (i := 11) (oi := { dst := some 30, op := Op.fieldAddr 23 (Operand.tmp 1) 2, type := 0, pos := "l19_check.go:13", after := #[], guard := none }) (v := ?_) rfl (by kernel_rfl) (by kernel_rfl) (by kernel_rfl) (fun _ _ _ h => h) (Or.inl ⟨by rfl, ?hy⟩) hHeld ?_
    case hy => (intro w' hSw; (try dsimp only at hSw); go_simp; try with_reducible rfl)
    simp only [Act.put, List.setIfInBounds_toArray, List.set_cons_zero, List.set_cons_succ]
    refine wpAnyH_take (i := 12) (oi := { dst := some 31, op := Op.load 2 (Operand.tmp 30), type := 2, pos := "l19_check.go:13", after := #[{ on := 11, ground := Ground.data }], guard := none }) (v := ?_) rfl (by kernel_rfl) (by kernel_rfl) (by kernel_rfl) (fun _ _ _ h => h) (Or.inl ⟨by rfl, ?hy⟩) hHeld ?_
    case hy => (intro w' hSw; (try dsimp only at hSw); go_simp; try with_reducible rfl)
    simp only [Act.put, List.setIfInBounds_toArray, List.set_cons_zero, List.set_cons_succ]
    refine wpAnyH_ready (rs := [0]) (by kernel_rfl) (by simp) ?_
    refine AllReadyH.cons (o := { dst := some 19, op := Op.call { callee := Callee.value (Operand.func 9), args := #[], argTypes := #[] }, type := 28, pos := "l19_check.go:13", after := #[], guard := none }) rfl (fun K hK => ?_) AllReadyH.nil
    go_simp
    go_at_call 9; refine (WO.out _).mono ?_; rintro e wk ⟨g, rfl, hgl, hcw, hbk⟩; replace HC := Lib.hid (HC.out.trans (hbk.mono HC.out.size))
    go_wp2_with fail
    refine hK.out _ _ (KS.out _ HC.out) (fun hHeld => ?_)
    clear hK K
    try simp only [Act.put, List.setIfInBounds_toArray, List.set_cons_zero, List.set_cons_succ]
    refine wpAnyH_take (i := 3) (oi := { dst := some 22, op := Op.indexAddr 28 (Operand.tmp 19) (Operand.tmp 21), type := 0, pos := "l19_check.go:13", after := #[{ on := 0, ground := Ground.data }, { on := 2, ground := Ground.data }], guard := none }) (v := ?_) rfl (by kernel_rfl) (by kernel_rfl) (by kernel_rfl) (fun _ _ _ h => h) (Or.inl ⟨by rfl, ?hy⟩) hHeld ?_
    case hy => (intro w' hSw; (try dsimp only at hSw); go_simp; try with_reducible rfl)
    simp only [Act.put, List.setIfInBounds_toArray, List.set_cons_zero, List.set_cons_succ]
    refine wpAnyH_ready (rs := [4, 8]) (by kernel_rfl) (by simp) ?_
    refine AllReadyH.cons (o := { dst := some 23, op := Op.load 9 (Operand.tmp 22), type := 9, pos := "l19_check.go:13", after := #[{ on := 3, ground := Ground.data }], guard := none }) rfl (fun K hK => ?_) (AllReadyH.cons (o := { dst := some 27, op := Op.call { callee := Callee.value (Operand.func 15), args := #[Operand.tmp 26], argTypes := #[2] }, type := 9, pos := "l19_check.go:13", after := #[{ on := 7, ground := Ground.data }, { on := 0, ground := Ground.chain }], guard := none }) rfl (fun K hK => ?_) AllReadyH.nil)
    · go_simp
      skip
      go_wp2_with fail
      refine hK.out _ _ (KS.out _ HC.out) (fun hHeld => ?_)
      clear hK K
      try simp only [Act.put, List.setIfInBounds_toArray, List.set_cons_zero, List.set_cons_succ]
      refine wpAnyH_take (i := 5) (oi := { dst := some 24, op := Op.binOp BinOp.add 9 (Operand.tmp 23) (Operand.const (Value.string { data := #[32] })) 9, type := 9, pos := "l19_check.go:13", after := #[{ on := 4, ground := Ground.data }], guard := none }) (v := ?_) rfl (by kernel_rfl) (by kernel_rfl) (by kernel_rfl) (fun _ _ _ h => h) (Or.inl ⟨by rfl, ?hy⟩) hHeld ?_
      case hy => (intro w' hSw; (try dsimp only at hSw); go_simp; try with_reducible rfl)
      simp only [Act.put, List.setIfInBounds_toArray, List.set_cons_zero, List.set_cons_succ]
      refine wpAnyH_ready (rs := [8]) (by kernel_rfl) (by simp) ?_
      refine AllReadyH.cons (o := { dst := some 27, op := Op.call { callee := Callee.value (Operand.func 15), args := #[Operand.tmp 26], argTypes := #[2] }, type := 9, pos := "l19_check.go:13", after := #[{ on := 7, ground := Ground.data }, { on := 0, ground := Ground.chain }], guard := none }) rfl (fun K hK => ?_) AllReadyH.nil
      go_simp
      go_at_call 15; refine (D1.out _).mono ?_; rintro e wk1 ⟨rfl, hbk⟩; replace HC := Lib.hid (HC.out.trans (hbk.mono HC.out.size)); (replace hcw := (hbk.cell (p := ⟨g, k, none⟩) hgl).trans hcw; replace hgl := Nat.lt_of_lt_of_le hgl hbk.size)
      go_wp2_with fail
      refine hK.out _ _ (KS.out _ HC.out) (fun hHeld => ?_)
      clear hK K
      try simp only [Act.put, List.setIfInBounds_toArray, List.set_cons_zero, List.set_cons_succ]
      refine wpAnyH_take (i := 9) (oi := { dst := some 28, op := Op.binOp BinOp.add 9 (Operand.tmp 24) (Operand.tmp 27) 9, type := 9, pos := "l19_check.go:13", after := #[{ on := 5, ground := Ground.data }, { on := 8, ground := Ground.data }], guard := none }) (v := ?_) rfl (by kernel_rfl) (by kernel_rfl) (by kernel_rfl) (fun _ _ _ h => h) (Or.inl ⟨by rfl, ?hy⟩) hHeld ?_
      case hy => (intro w' hSw; (try dsimp only at hSw); go_simp; try with_reducible rfl)
      simp only [Act.put, List.setIfInBounds_toArray, List.set_cons_zero, List.set_cons_succ]
      refine wpAnyH_take (i := 10) (oi := { dst := some 29, op := Op.binOp BinOp.add 9 (Operand.tmp 28) (Operand.const (Value.string { data := #[32] })) 9, type := 9, pos := "l19_check.go:13", after := #[{ on := 9, ground := Ground.data }], guard := none }) (v := ?_) rfl (by kernel_rfl) (by kernel_rfl) (by kernel_rfl) (fun _ _ _ h => h) (Or.inl ⟨by rfl, ?hy⟩) hHeld ?_
      case hy => (intro w' hSw; (try dsimp only at hSw); go_simp; try with_reducible rfl)
      simp only [Act.put, List.setIfInBounds_toArray, List.set_cons_zero, List.set_cons_succ]
      refine wpAnyH_ready (rs := [13]) (by kernel_rfl) (by simp) ?_
      refine AllReadyH.cons (o := { dst := some 32, op := Op.call { callee := Callee.value (Operand.func 15), args := #[Operand.tmp 31], argTypes := #[2] }, type := 9, pos := "l19_check.go:13", after := #[{ on := 12, ground := Ground.data }, { on := 8, ground := Ground.chain }], guard := none }) rfl (fun K hK => ?_) AllReadyH.nil
      go_simp
      go_at_call 15; refine (D2.out _).mono ?_; rintro e wk2 ⟨rfl, hbk⟩; replace HC := Lib.hid (HC.out.trans (hbk.mono HC.out.size)); (replace hcw := (hbk.cell (p := ⟨g, k, none⟩) hgl).trans hcw; replace hgl := Nat.lt_of_lt_of_le hgl hbk.size)
      go_wp2_with fail
      refine hK.out _ _ (KS.out _ HC.out) (fun hHeld => ?_)
      clear hK K
      try simp only [Act.put, List.setIfInBounds_toArray, List.set_cons_zero, List.set_cons_succ]
      refine wpAnyH_take (i := 14) (oi := { dst := some 33, op := Op.binOp BinOp.add 9 (Operand.tmp 29) (Operand.tmp 32) 9, type := 9, pos := "l19_check.go:13", after := #[{ on := 10, ground := Ground.data }, { on := 13, ground := Ground.data }], guard := none }) (v := ?_) rfl (by kernel_rfl) (by kernel_rfl) (by kernel_rfl) (fun _ _ _ h => h) (Or.inl ⟨by rfl, ?hy⟩) hHeld ?_
      case hy => (intro w' hSw; (try dsimp only at hSw); go_simp; try with_reducible rfl)
      simp only [Act.put, List.setIfInBounds_toArray, List.set_cons_zero, List.set_cons_succ]
      refine wpAnyH_take (i := 15) (oi := { dst := some 2, op := Op.assign (Operand.tmp 33), type := 9, pos := "l19_check.go:13", after := #[{ on := 14, ground := Ground.data }, { on := 13, ground := Ground.chain }, { on := 0, ground := Ground.phase }, { on := 1, ground := Ground.phase }, { on := 2, ground := Ground.phase }, { on := 3, ground := Ground.phase }, { on := 4, ground := Ground.phase }, { on := 5, ground := Ground.phase }, { on := 6, ground := Ground.phase }, { on := 7, ground := Ground.phase }, { on := 8, ground := Ground.phase }, { on := 9, ground := Ground.phase }, { on := 10, ground := Ground.phase }, { on := 11, ground := Ground.phase }, { on := 12, ground := Ground.phase }, { on := 13, ground := Ground.phase }, { on := 14, ground := Ground.phase }], guard := none }) (v := ?_) rfl (by kernel_rfl) (by kernel_rfl) (by kernel_rfl) (fun _ _ _ h => h) (Or.inl ⟨by rfl, ?hy⟩) hHeld ?_
      case hy => (intro w' hSw; (try dsimp only at hSw); go_simp; try with_reducible rfl)
      simp only [Act.put, List.setIfInBounds_toArray, List.set_cons_zero, List.set_cons_succ]
      refine wpAnyH_done (by kernel_rfl) ?_ _
      go_wp2
      go_ret
      exact ⟨rfl, F1.out.trans (HC.out.mono F1.out.size)⟩
    · go_simp
      go_at_call 15; refine (D1.out _).mono ?_; rintro e wk1 ⟨rfl, hbk⟩; replace HC := Lib.hid (HC.out.trans (hbk.mono HC.out.size)); (replace hcw := (hbk.cell (p := ⟨g, k, none⟩) hgl).trans hcw; replace hgl := Nat.lt_of_lt_of_le hgl hbk.size)
      go_wp2_with fail
      refine hK.out _ _ (KS.out _ HC.out) (fun hHeld => ?_)
      clear hK K
      try simp only [Act.put, List.setIfInBounds_toArray, List.set_cons_zero, List.set_cons_succ]
      refine wpAnyH_ready (rs := [4, 13]) (by kernel_rfl) (by simp) ?_
      refine AllReadyH.cons (o := { dst := some 23, op := Op.load 9 (Operand.tmp 22), type := 9, pos := "l19_check.go:13", after := #[{ on := 3, ground := Ground.data }], guard := none }) rfl (fun K hK => ?_) (AllReadyH.cons (o := { dst := some 32, op := Op.call { callee := Callee.value (Operand.func 15), args := #[Operand.tmp 31], argTypes := #[2] }, type := 9, pos := "l19_check.go:13", after := #[{ on := 12, ground := Ground.data }, { on := 8, ground := Ground.chain }], guard := none }) rfl (fun K hK => ?_) AllReadyH.nil)
      · go_simp
        skip
        go_wp2_with fail
        refine hK.out _ _ (KS.out _ HC.out) (fun hHeld => ?_)
        clear hK K
        try simp only [Act.put, List.setIfInBounds_toArray, List.set_cons_zero, List.set_cons_succ]
        refine wpAnyH_take (i := 5) (oi := { dst := some 24, op := Op.binOp BinOp.add 9 (Operand.tmp 23) (Operand.const (Value.string { data := #[32] })) 9, type := 9, pos := "l19_check.go:13", after := #[{ on := 4, ground := Ground.data }], guard := none }) (v := ?_) rfl (by kernel_rfl) (by kernel_rfl) (by kernel_rfl) (fun _ _ _ h => h) (Or.inl ⟨by rfl, ?hy⟩) hHeld ?_
        case hy => (intro w' hSw; (try dsimp only at hSw); go_simp; try with_reducible rfl)
        simp only [Act.put, List.setIfInBounds_toArray, List.set_cons_zero, List.set_cons_succ]
        refine wpAnyH_take (i := 9) (oi := { dst := some 28, op := Op.binOp BinOp.add 9 (Operand.tmp 24) (Operand.tmp 27) 9, type := 9, pos := "l19_check.go:13", after := #[{ on := 5, ground := Ground.data }, { on := 8, ground := Ground.data }], guard := none }) (v := ?_) rfl (by kernel_rfl) (by kernel_rfl) (by kernel_rfl) (fun _ _ _ h => h) (Or.inl ⟨by rfl, ?hy⟩) hHeld ?_
        case hy => (intro w' hSw; (try dsimp only at hSw); go_simp; try with_reducible rfl)
        simp only [Act.put, List.setIfInBounds_toArray, List.set_cons_zero, List.set_cons_succ]
        refine wpAnyH_take (i := 10) (oi := { dst := some 29, op := Op.binOp BinOp.add 9 (Operand.tmp 28) (Operand.const (Value.string { data := #[32] })) 9, type := 9, pos := "l19_check.go:13", after := #[{ on := 9, ground := Ground.data }], guard := none }) (v := ?_) rfl (by kernel_rfl) (by kernel_rfl) (by kernel_rfl) (fun _ _ _ h => h) (Or.inl ⟨by rfl, ?hy⟩) hHeld ?_
        case hy => (intro w' hSw; (try dsimp only at hSw); go_simp; try with_reducible rfl)
        simp only [Act.put, List.setIfInBounds_toArray, List.set_cons_zero, List.set_cons_succ]
        refine wpAnyH_ready (rs := [13]) (by kernel_rfl) (by simp) ?_
        refine AllReadyH.cons (o := { dst := some 32, op := Op.call { callee := Callee.value (Operand.func 15), args := #[Operand.tmp 31], argTypes := #[2] }, type := 9, pos := "l19_check.go:13", after := #[{ on := 12, ground := Ground.data }, { on := 8, ground := Ground.chain }], guard := none }) rfl (fun K hK => ?_) AllReadyH.nil
        go_simp
        go_at_call 15; refine (D2.out _).mono ?_; rintro e wk2 ⟨rfl, hbk⟩; replace HC := Lib.hid (HC.out.trans (hbk.mono HC.out.size)); (replace hcw := (hbk.cell (p := ⟨g, k, none⟩) hgl).trans hcw; replace hgl := Nat.lt_of_lt_of_le hgl hbk.size)
        go_wp2_with fail
        refine hK.out _ _ (KS.out _ HC.out) (fun hHeld => ?_)
        clear hK K
        try simp only [Act.put, List.setIfInBounds_toArray, List.set_cons_zero, List.set_cons_succ]
        refine wpAnyH_take (i := 14) (oi := { dst := some 33, op := Op.binOp BinOp.add 9 (Operand.tmp 29) (Operand.tmp 32) 9, type := 9, pos := "l19_check.go:13", after := #[{ on := 10, ground := Ground.data }, { on := 13, ground := Ground.data }], guard := none }) (v := ?_) rfl (by kernel_rfl) (by kernel_rfl) (by kernel_rfl) (fun _ _ _ h => h) (Or.inl ⟨by rfl, ?hy⟩) hHeld ?_
        case hy => (intro w' hSw; (try dsimp only at hSw); go_simp; try with_reducible rfl)
        simp only [Act.put, List.setIfInBounds_toArray, List.set_cons_zero, List.set_cons_succ]
        refine wpAnyH_take (i := 15) (oi := { dst := some 2, op := Op.assign (Operand.tmp 33), type := 9, pos := "l19_check.go:13", after := #[{ on := 14, ground := Ground.data }, { on := 13, ground := Ground.chain }, { on := 0, ground := Ground.phase }, { on := 1, ground := Ground.phase }, { on := 2, ground := Ground.phase }, { on := 3, ground := Ground.phase }, { on := 4, ground := Ground.phase }, { on := 5, ground := Ground.phase }, { on := 6, ground := Ground.phase }, { on := 7, ground := Ground.phase }, { on := 8, ground := Ground.phase }, { on := 9, ground := Ground.phase }, { on := 10, ground := Ground.phase }, { on := 11, ground := Ground.phase }, { on := 12, ground := Ground.phase }, { on := 13, ground := Ground.phase }, { on := 14, ground := Ground.phase }], guard := none }) (v := ?_) rfl (by kernel_rfl) (by kernel_rfl) (by kernel_rfl) (fun _ _ _ h => h) (Or.inl ⟨by rfl, ?hy⟩) hHeld ?_
        case hy => (intro w' hSw; (try dsimp only at hSw); go_simp; try with_reducible rfl)
        simp only [Act.put, List.setIfInBounds_toArray, List.set_cons_zero, List.set_cons_succ]
        refine wpAnyH_done (by kernel_rfl) ?_ _
        go_wp2
        go_ret
        exact ⟨rfl, F1.out.trans (HC.out.mono F1.out.size)⟩
      · go_simp
        go_at_call 15; refine (D2.out _).mono ?_; rintro e wk2 ⟨rfl, hbk⟩; replace HC := Lib.hid (HC.out.trans (hbk.mono HC.out.size)); (replace hcw := (hbk.cell (p := ⟨g, k, none⟩) hgl).trans hcw; replace hgl := Nat.lt_of_lt_of_le hgl hbk.size)
        go_wp2_with fail
        refine hK.out _ _ (KS.out _ HC.out) (fun hHeld => ?_)
        clear hK K
        try simp only [Act.put, List.setIfInBounds_toArray, List.set_cons_zero, List.set_cons_succ]
        refine wpAnyH_ready (rs := [4]) (by kernel_rfl) (by simp) ?_
        refine AllReadyH.cons (o := { dst := some 23, op := Op.load 9 (Operand.tmp 22), type := 9, pos := "l19_check.go:13", after := #[{ on := 3, ground := Ground.data }], guard := none }) rfl (fun K hK => ?_) AllReadyH.nil
        go_simp
        skip
        go_wp2_with fail
        refine hK.out _ _ (KS.out _ HC.out) (fun hHeld => ?_)
        clear hK K
        try simp only [Act.put, List.setIfInBounds_toArray, List.set_cons_zero, List.set_cons_succ]
        refine wpAnyH_take (i := 5) (oi := { dst := some 24, op := Op.binOp BinOp.add 9 (Operand.tmp 23) (Operand.const (Value.string { data := #[32] })) 9, type := 9, pos := "l19_check.go:13", after := #[{ on := 4, ground := Ground.data }], guard := none }) (v := ?_) rfl (by kernel_rfl) (by kernel_rfl) (by kernel_rfl) (fun _ _ _ h => h) (Or.inl ⟨by rfl, ?hy⟩) hHeld ?_
        case hy => (intro w' hSw; (try dsimp only at hSw); go_simp; try with_reducible rfl)
        simp only [Act.put, List.setIfInBounds_toArray, List.set_cons_zero, List.set_cons_succ]
        refine wpAnyH_take (i := 9) (oi := { dst := some 28, op := Op.binOp BinOp.add 9 (Operand.tmp 24) (Operand.tmp 27) 9, type := 9, pos := "l19_check.go:13", after := #[{ on := 5, ground := Ground.data }, { on := 8, ground := Ground.data }], guard := none }) (v := ?_) rfl (by kernel_rfl) (by kernel_rfl) (by kernel_rfl) (fun _ _ _ h => h) (Or.inl ⟨by rfl, ?hy⟩) hHeld ?_
        case hy => (intro w' hSw; (try dsimp only at hSw); go_simp; try with_reducible rfl)
        simp only [Act.put, List.setIfInBounds_toArray, List.set_cons_zero, List.set_cons_succ]
        refine wpAnyH_take (i := 10) (oi := { dst := some 29, op := Op.binOp BinOp.add 9 (Operand.tmp 28) (Operand.const (Value.string { data := #[32] })) 9, type := 9, pos := "l19_check.go:13", after := #[{ on := 9, ground := Ground.data }], guard := none }) (v := ?_) rfl (by kernel_rfl) (by kernel_rfl) (by kernel_rfl) (fun _ _ _ h => h) (Or.inl ⟨by rfl, ?hy⟩) hHeld ?_
        case hy => (intro w' hSw; (try dsimp only at hSw); go_simp; try with_reducible rfl)
        simp only [Act.put, List.setIfInBounds_toArray, List.set_cons_zero, List.set_cons_succ]
        refine wpAnyH_take (i := 14) (oi := { dst := some 33, op := Op.binOp BinOp.add 9 (Operand.tmp 29) (Operand.tmp 32) 9, type := 9, pos := "l19_check.go:13", after := #[{ on := 10, ground := Ground.data }, { on := 13, ground := Ground.data }], guard := none }) (v := ?_) rfl (by kernel_rfl) (by kernel_rfl) (by kernel_rfl) (fun _ _ _ h => h) (Or.inl ⟨by rfl, ?hy⟩) hHeld ?_
        case hy => (intro w' hSw; (try dsimp only at hSw); go_simp; try with_reducible rfl)
        simp only [Act.put, List.setIfInBounds_toArray, List.set_cons_zero, List.set_cons_succ]
        refine wpAnyH_take (i := 15) (oi := { dst := some 2, op := Op.assign (Operand.tmp 33), type := 9, pos := "l19_check.go:13", after := #[{ on := 14, ground := Ground.data }, { on := 13, ground := Ground.chain }, { on := 0, ground := Ground.phase }, { on := 1, ground := Ground.phase }, { on := 2, ground := Ground.phase }, { on := 3, ground := Ground.phase }, { on := 4, ground := Ground.phase }, { on := 5, ground := Ground.phase }, { on := 6, ground := Ground.phase }, { on := 7, ground := Ground.phase }, { on := 8, ground := Ground.phase }, { on := 9, ground := Ground.phase }, { on := 10, ground := Ground.phase }, { on := 11, ground := Ground.phase }, { on := 12, ground := Ground.phase }, { on := 13, ground := Ground.phase }, { on := 14, ground := Ground.phase }], guard := none }) (v := ?_) rfl (by kernel_rfl) (by kernel_rfl) (by kernel_rfl) (fun _ _ _ h => h) (Or.inl ⟨by rfl, ?hy⟩) hHeld ?_
        case hy => (intro w' hSw; (try dsimp only at hSw); go_simp; try with_reducible rfl)
        simp only [Act.put, List.setIfInBounds_toArray, List.set_cons_zero, List.set_cons_succ]
        refine wpAnyH_done (by kernel_rfl) ?_ _
        go_wp2
        go_ret
        exact ⟨rfl, F1.out.trans (HC.out.mono F1.out.size)⟩
end Go.Proofs.YtbckicdjbgfofaaDoor
