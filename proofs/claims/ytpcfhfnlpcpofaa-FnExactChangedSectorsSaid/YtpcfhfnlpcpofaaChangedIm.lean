/- impl.ChangedSectors -/
import Derived.Test.YtpcfhfnlpcpofaaSameDisc
import Derived.Test.YtpcfhfnlpcpofaaTwoBox
import Derived.Test.YtpcfhfnlpcpofaaChg
import Derived.Deep.RegionHeld3
import Derived.BigRegion
namespace Go.Proofs.Ytpcfhfnlpcpofaa
open Go.RowKit
set_option linter.unusedVariables false
set_option linter.unusedSimpArgs false
set_option maxRecDepth 20000
set_option maxHeartbeats 1000000 in
theorem changedSectors_g (x : DiscV) (a : Option Addr) (c : Nat) (y : DiscV) (b : Option Addr) (d : Nat) (hx : x.f4.length ≤ 1048576) (hv : ∀ e ∈ x.f4, e.f0.size ≤ 1048576) (hy : y.f4.length ≤ 1048576) (hv2 : ∀ e ∈ y.f4, e.f0.size ≤ 1048576) (w : World) (h1 : SlS rowSector w a x.f4) (h2 : SlS rowSector w b y.f4) :
    Calls Try.prog 41 #[.agg #[.int .i64 x.f0, .int .i64 x.f1, .int .i64 x.f2, .int .i64 x.f3, .slice a x.f4.length c], .agg #[.int .i64 y.f0, .int .i64 y.f1, .int .i64 y.f2, .int .i64 y.f3, .slice b y.f4.length d]] w (SlRes2 (chgV x y) (chgC x y) w) := by
  have hs1 : ∀ e ∈ x.f4, e.f0.size ≤ maxLen := fun e he => by have := hv e he; unfold maxLen; omega
  have hs2 : ∀ e ∈ y.f4, e.f0.size ≤ maxLen := fun e he => by have := hv2 e he; unfold maxLen; omega
  have SX := Lib.hid (fun w => shaped_any x a c w)
  have SY := Lib.hid (fun w => shaped_any y b d w)
  have VX := Lib.hid (fun w' (hb : Below w.heap.size w w') => shValid_any x a c w' hx hs1 (h1.below hb (Nat.le_refl _)))
  have VY := Lib.hid (fun w' (hb : Below w.heap.size w w') => shValid_any y b d w' hy hs2 (h2.below hb (Nat.le_refl _)))
  have EL1 := Lib.hid (fun w' (hb : Below w.heap.size w w') => h1.below hb (Nat.le_refl _))
  have EL2 := Lib.hid (fun w' (hb : Below w.heap.size w w') => h2.below hb (Nat.le_refl _))
  have HX := Lib.hid (fun h => discB_len (x := x) h)
  have HY := Lib.hid (fun h => discB_len (x := y) h)
  have CHC := Lib.hid (rfl : chgC x y = chgC x y)
  have CHV := Lib.hid (rfl : chgV x y = chgV x y)
  clear h1 h2 hv hv2 hs1 hs2
  obtain ⟨f0, f1, f2, f3, fs⟩ := x
  obtain ⟨g0, g1, g2, g3, gs⟩ := y
  dsimp only at *
  go_enter Try.func41, Try.ntmps41
  go_upto_region 1 with (fail)
  have bX : BoxF ((w.alloc (.cells #[.int .i64 f0, .int .i64 f1, .int .i64 f2, .int .i64 f3, .slice a fs.length c] 29)).alloc (.cells #[.int .i64 g0, .int .i64 g1, .int .i64 g2, .int .i64 g3, .slice b gs.length d] 29)) w.heap.size #[.int .i64 f0, .int .i64 f1, .int .i64 f2, .int .i64 f3, .slice a fs.length c] := boxF5 (by simp [go_sem]) (by simp [go_sem]) (by simp [go_sem]) (by simp [go_sem]) (by simp [go_sem])
  have bY : BoxF ((w.alloc (.cells #[.int .i64 f0, .int .i64 f1, .int .i64 f2, .int .i64 f3, .slice a fs.length c] 29)).alloc (.cells #[.int .i64 g0, .int .i64 g1, .int .i64 g2, .int .i64 g3, .slice b gs.length d] 29)) (w.heap.size + 1) #[.int .i64 g0, .int .i64 g1, .int .i64 g2, .int .i64 g3, .slice b gs.length d] := boxF5 (by simp [go_sem]) (by simp [go_sem]) (by simp [go_sem]) (by simp [go_sem]) (by simp [go_sem])
  generalize hW : ((w.alloc (.cells #[.int .i64 f0, .int .i64 f1, .int .i64 f2, .int .i64 f3, .slice a fs.length c] 29)).alloc (.cells #[.int .i64 g0, .int .i64 g1, .int .i64 g2, .int .i64 g3, .slice b gs.length d] 29)) = W at *
  have FB := Lib.hid (show Below w.heap.size w W by rw [← hW]; go_grown)
  have hlt1 : w.heap.size + 1 < W.heap.size := by rw [← hW]; simp
  have hlt0 : w.heap.size < W.heap.size := by omega
  clear hW
  go_cut [6, 7] (fun v6 v7 wx => Hid (TwoIn #[.int .i64 f0, .int .i64 f1, .int .i64 f2, .int .i64 f3, .slice a fs.length c] #[.int .i64 g0, .int .i64 g1, .int .i64 g2, .int .i64 g3, .slice b gs.length d] W wx v6 v7 ∧ Below W.heap.size W wx))
  case first =>
    have BX := Lib.hid (fun w' (hb : Below W.heap.size W w') => (bX.below hb hlt0).box)
    have BY := Lib.hid (fun w' (hb : Below W.heap.size W w') => (bY.below hb hlt1).box)
    have KS := Lib.hid (fun w' (hb : Below W.heap.size W w') => (show w'.cell? ⟨w.heap.size, 0, none⟩ = some (.int .i64 f0) ∧ w'.cell? ⟨w.heap.size, 1, none⟩ = some (.int .i64 f1) ∧ w'.cell? ⟨w.heap.size, 2, none⟩ = some (.int .i64 f2) ∧ w'.cell? ⟨w.heap.size, 3, none⟩ = some (.int .i64 f3) ∧ w'.cell? ⟨w.heap.size, 4, none⟩ = some (.slice a fs.length c) ∧ w'.cell? ⟨w.heap.size + 1, 0, none⟩ = some (.int .i64 g0) ∧ w'.cell? ⟨w.heap.size + 1, 1, none⟩ = some (.int .i64 g1) ∧ w'.cell? ⟨w.heap.size + 1, 2, none⟩ = some (.int .i64 g2) ∧ w'.cell? ⟨w.heap.size + 1, 3, none⟩ = some (.int .i64 g3) ∧ w'.cell? ⟨w.heap.size + 1, 4, none⟩ = some (.slice b gs.length d) from ⟨BX.out w' hb 0 _ rfl, BX.out w' hb 1 _ rfl, BX.out w' hb 2 _ rfl, BX.out w' hb 3 _ rfl, BX.out w' hb 4 _ rfl, BY.out w' hb 0 _ rfl, BY.out w' hb 1 _ rfl, BY.out w' hb 2 _ rfl, BY.out w' hb 3 _ rfl, BY.out w' hb 4 _ rfl⟩))
    have HC := Lib.hid (show Below W.heap.size W W.drew from (Below.refl _ _).drew)
    clear bX bY
    refine wp_region_held_drew (S := (fun w' => w'.cell? ⟨w.heap.size, 0, none⟩ = some (.int .i64 f0) ∧ w'.cell? ⟨w.heap.size, 1, none⟩ = some (.int .i64 f1) ∧ w'.cell? ⟨w.heap.size, 2, none⟩ = some (.int .i64 f2) ∧ w'.cell? ⟨w.heap.size, 3, none⟩ = some (.int .i64 f3) ∧ w'.cell? ⟨w.heap.size, 4, none⟩ = some (.slice a fs.length c) ∧ w'.cell? ⟨w.heap.size + 1, 0, none⟩ = some (.int .i64 g0) ∧ w'.cell? ⟨w.heap.size + 1, 1, none⟩ = some (.int .i64 g1) ∧ w'.cell? ⟨w.heap.size + 1, 2, none⟩ = some (.int .i64 g2) ∧ w'.cell? ⟨w.heap.size + 1, 3, none⟩ = some (.int .i64 g3) ∧ w'.cell? ⟨w.heap.size + 1, 4, none⟩ = some (.slice b gs.length d))) (by kernel_rfl) (KS.out _ HC.out) (fun hHeld => ?_)
    refine wpAnyH_take (i := 0) (oi := { dst := some 11, op := Op.load 29 (Operand.tmp 2), type := 29, pos := "l12_discs.go:246", after := #[], guard := none }) (v := ?_) rfl (by kernel_rfl) (by kernel_rfl) (by kernel_rfl) (fun _ _ _ h => h) (Or.inl ⟨by rfl, ?hy⟩) hHeld ?_
    case hy => (intro w' hSw; (try dsimp only at hSw); go_simp; try with_reducible rfl)
    simp only [Act.put, List.setIfInBounds_toArray, List.set_cons_zero, List.set_cons_succ]
    refine wpAnyH_take (i := 2) (oi := { dst := some 13, op := Op.load 29 (Operand.tmp 3), type := 29, pos := "l12_discs.go:246", after := #[], guard := none }) (v := ?_) rfl (by kernel_rfl) (by kernel_rfl) (by kernel_rfl) (fun _ _ _ h => h) (Or.inl ⟨by rfl, ?hy⟩) hHeld ?_
    case hy => (intro w' hSw; (try dsimp only at hSw); go_simp; try with_reducible rfl)
    simp only [Act.put, List.setIfInBounds_toArray, List.set_cons_zero, List.set_cons_succ]
    refine wpAnyH_ready (rs := [1, 4, 5]) (by kernel_rfl) (by simp) ?_
    refine AllReadyH.cons (o := { dst := some 12, op := Op.call { callee := Callee.value (Operand.func 60), args := #[Operand.tmp 11], argTypes := #[29] }, type := 83, pos := "l12_discs.go:246", after := #[{ on := 0, ground := Ground.data }], guard := none }) rfl (fun K hK => ?_) (AllReadyH.cons (o := { dst := some 6, op := Op.alloc 83, type := 0, pos := "l12_discs.go:246", after := #[], guard := none }) rfl (fun K hK => ?_) (AllReadyH.cons (o := { dst := some 7, op := Op.alloc 83, type := 0, pos := "l12_discs.go:246", after := #[], guard := none }) rfl (fun K hK => ?_) AllReadyH.nil))
    · go_simp
      go_at_call 60; refine (SX.out _).mono ?_; rintro e w2 ⟨rfl, hb2⟩; replace HC := Lib.hid (HC.out.trans (hb2.mono HC.out.size)); (try (replace E4 := Lib.hid (E4.out.below hb2))); (try (replace E5 := Lib.hid (E5.out.below hb2)))
      go_wp2_with fail
      refine hK.out _ _ (KS.out _ HC.out) (fun hHeld => ?_)
      clear hK K
      try simp only [Act.put, List.setIfInBounds_toArray, List.set_cons_zero, List.set_cons_succ]
      refine wpAnyH_ready (rs := [3, 4, 5]) (by kernel_rfl) (by simp) ?_
      refine AllReadyH.cons (o := { dst := some 14, op := Op.call { callee := Callee.value (Operand.func 60), args := #[Operand.tmp 13], argTypes := #[29] }, type := 83, pos := "l12_discs.go:246", after := #[{ on := 2, ground := Ground.data }, { on := 1, ground := Ground.chain }], guard := none }) rfl (fun K hK => ?_) (AllReadyH.cons (o := { dst := some 6, op := Op.alloc 83, type := 0, pos := "l12_discs.go:246", after := #[], guard := none }) rfl (fun K hK => ?_) (AllReadyH.cons (o := { dst := some 7, op := Op.alloc 83, type := 0, pos := "l12_discs.go:246", after := #[], guard := none }) rfl (fun K hK => ?_) AllReadyH.nil))
      · go_simp
        go_at_call 60; refine (SY.out _).mono ?_; rintro e w3 ⟨rfl, hb3⟩; replace HC := Lib.hid (HC.out.trans (hb3.mono HC.out.size)); (try (replace E4 := Lib.hid (E4.out.below hb3))); (try (replace E5 := Lib.hid (E5.out.below hb3)))
        go_wp2_with fail
        refine hK.out _ _ (KS.out _ HC.out) (fun hHeld => ?_)
        clear hK K
        try simp only [Act.put, List.setIfInBounds_toArray, List.set_cons_zero, List.set_cons_succ]
        refine wpAnyH_ready (rs := [4, 5]) (by kernel_rfl) (by simp) ?_
        refine AllReadyH.cons (o := { dst := some 6, op := Op.alloc 83, type := 0, pos := "l12_discs.go:246", after := #[], guard := none }) rfl (fun K hK => ?_) (AllReadyH.cons (o := { dst := some 7, op := Op.alloc 83, type := 0, pos := "l12_discs.go:246", after := #[], guard := none }) rfl (fun K hK => ?_) AllReadyH.nil)
        · have E4 := Lib.hid ((fun (V : World) (h : Below W.heap.size W V) => MadeAt.new V (.cells #[.int .i64 0, .int .i64 0, .int .i64 0, .int .i64 0, .slice none 0 0] 83)) _ HC.out)
          have P4 := Lib.hid HC.out.size
          replace HC := Lib.hid (HC.out.alloc HC.out.size (.cells #[.int .i64 0, .int .i64 0, .int .i64 0, .int .i64 0, .slice none 0 0] 83))
          go_simp
          refine hK.out _ _ (KS.out _ HC.out) (fun hHeld => ?_)
          clear hK K
          try simp only [Act.put, List.setIfInBounds_toArray, List.set_cons_zero, List.set_cons_succ]
          generalize hV4 : w3.alloc (.cells #[.int .i64 0, .int .i64 0, .int .i64 0, .int .i64 0, .slice none 0 0] 83) = V4 at *
          clear hV4
          refine wpAnyH_ready (rs := [5]) (by kernel_rfl) (by simp) ?_
          refine AllReadyH.cons (o := { dst := some 7, op := Op.alloc 83, type := 0, pos := "l12_discs.go:246", after := #[], guard := none }) rfl (fun K hK => ?_) AllReadyH.nil
          have E5 := Lib.hid ((fun (V : World) (h : Below W.heap.size W V) => MadeAt.new V (.cells #[.int .i64 0, .int .i64 0, .int .i64 0, .int .i64 0, .slice none 0 0] 83)) _ HC.out)
          have P5 := Lib.hid HC.out.size
          have N45 := Lib.hid (Nat.ne_of_lt E4.out.lt)
          replace E4 := Lib.hid (E4.out.below ((Below.refl _ _).alloc (Nat.le_refl _) (.cells #[.int .i64 0, .int .i64 0, .int .i64 0, .int .i64 0, .slice none 0 0] 83)))
          replace HC := Lib.hid (HC.out.alloc HC.out.size (.cells #[.int .i64 0, .int .i64 0, .int .i64 0, .int .i64 0, .slice none 0 0] 83))
          go_simp
          refine hK.out _ _ (KS.out _ HC.out) (fun hHeld => ?_)
          clear hK K
          try simp only [Act.put, List.setIfInBounds_toArray, List.set_cons_zero, List.set_cons_succ]
          generalize hV5 : V4.alloc (.cells #[.int .i64 0, .int .i64 0, .int .i64 0, .int .i64 0, .slice none 0 0] 83) = V5 at *
          clear hV5
          refine wpAnyH_ready (rs := [6]) (by kernel_rfl) (by simp) ?_
          refine AllReadyH.cons (o := { dst := none, op := Op.store 83 (Operand.tmp 6) (Operand.tmp 12), type := 0, pos := "l12_discs.go:246", after := #[{ on := 4, ground := Ground.data }, { on := 1, ground := Ground.data }, { on := 3, ground := Ground.chain }, { on := 0, ground := Ground.phase }, { on := 1, ground := Ground.phase }, { on := 2, ground := Ground.textOnly Departure.lateStores }, { on := 3, ground := Ground.textOnly Departure.lateStoresUnsure }, { on := 4, ground := Ground.phase }, { on := 5, ground := Ground.phase }], guard := none }) rfl (fun K hK => ?_) AllReadyH.nil
          have n45 := N45.out
          have n54 := fun h => N45.out (Eq.symm h)
          obtain ⟨qa0, qb0⟩ := E4.out.at 0 rfl
          obtain ⟨qa1, qb1⟩ := E4.out.at 1 rfl
          obtain ⟨qa2, qb2⟩ := E4.out.at 2 rfl
          obtain ⟨qa3, qb3⟩ := E4.out.at 3 rfl
          obtain ⟨qa4, qb4⟩ := E4.out.at 4 rfl
          obtain ⟨ra0, rb0⟩ := E5.out.at 0 rfl
          obtain ⟨ra1, rb1⟩ := E5.out.at 1 rfl
          obtain ⟨ra2, rb2⟩ := E5.out.at 2 rfl
          obtain ⟨ra3, rb3⟩ := E5.out.at 3 rfl
          obtain ⟨ra4, rb4⟩ := E5.out.at 4 rfl
          go_simp
          refine hK.out _ _ (KS.out _ (((((HC.out.setCell P4.out _).setCell P4.out _).setCell P4.out _).setCell P4.out _).setCell P4.out _)) (fun hHeld => ?_)
          clear hK K
          try simp only [Act.put, List.setIfInBounds_toArray, List.set_cons_zero, List.set_cons_succ]
          refine wpAnyH_ready (rs := [7]) (by kernel_rfl) (by simp) ?_
          refine AllReadyH.cons (o := { dst := none, op := Op.store 83 (Operand.tmp 7) (Operand.tmp 14), type := 0, pos := "l12_discs.go:246", after := #[{ on := 5, ground := Ground.data }, { on := 3, ground := Ground.data }, { on := 6, ground := Ground.chain }, { on := 0, ground := Ground.phase }, { on := 1, ground := Ground.phase }, { on := 2, ground := Ground.phase }, { on := 3, ground := Ground.phase }, { on := 4, ground := Ground.phase }, { on := 5, ground := Ground.phase }, { on := 6, ground := Ground.phase }], guard := none }) rfl (fun K hK => ?_) AllReadyH.nil
          go_simp
          refine hK.out _ _ (KS.out _ ((((((((((HC.out.setCell P4.out _).setCell P4.out _).setCell P4.out _).setCell P4.out _).setCell P4.out _).setCell P5.out _).setCell P5.out _).setCell P5.out _).setCell P5.out _).setCell P5.out _)) (fun hHeld => ?_)
          clear hK K
          try simp only [Act.put, List.setIfInBounds_toArray, List.set_cons_zero, List.set_cons_succ]
          refine wpAnyH_done (by kernel_rfl) ?_ _
          go_wp2_with fail
          go_meet
          case rel => exact Lib.hid ⟨TwoIn.mk5 N45.out P4.out P5.out E4.out E5.out, ((((((((((HC.out.setCell P4.out _).setCell P4.out _).setCell P4.out _).setCell P4.out _).setCell P4.out _).setCell P5.out _).setCell P5.out _).setCell P5.out _).setCell P5.out _).setCell P5.out _)⟩
        · have E5 := Lib.hid ((fun (V : World) (h : Below W.heap.size W V) => MadeAt.new V (.cells #[.int .i64 0, .int .i64 0, .int .i64 0, .int .i64 0, .slice none 0 0] 83)) _ HC.out)
          have P5 := Lib.hid HC.out.size
          replace HC := Lib.hid (HC.out.alloc HC.out.size (.cells #[.int .i64 0, .int .i64 0, .int .i64 0, .int .i64 0, .slice none 0 0] 83))
          go_simp
          refine hK.out _ _ (KS.out _ HC.out) (fun hHeld => ?_)
          clear hK K
          try simp only [Act.put, List.setIfInBounds_toArray, List.set_cons_zero, List.set_cons_succ]
          generalize hV5 : w3.alloc (.cells #[.int .i64 0, .int .i64 0, .int .i64 0, .int .i64 0, .slice none 0 0] 83) = V5 at *
          clear hV5
          refine wpAnyH_ready (rs := [4]) (by kernel_rfl) (by simp) ?_
          refine AllReadyH.cons (o := { dst := some 6, op := Op.alloc 83, type := 0, pos := "l12_discs.go:246", after := #[], guard := none }) rfl (fun K hK => ?_) AllReadyH.nil
          have E4 := Lib.hid ((fun (V : World) (h : Below W.heap.size W V) => MadeAt.new V (.cells #[.int .i64 0, .int .i64 0, .int .i64 0, .int .i64 0, .slice none 0 0] 83)) _ HC.out)
          have P4 := Lib.hid HC.out.size
          have N45 := Lib.hid (Nat.ne_of_gt E5.out.lt)
          replace E5 := Lib.hid (E5.out.below ((Below.refl _ _).alloc (Nat.le_refl _) (.cells #[.int .i64 0, .int .i64 0, .int .i64 0, .int .i64 0, .slice none 0 0] 83)))
          replace HC := Lib.hid (HC.out.alloc HC.out.size (.cells #[.int .i64 0, .int .i64 0, .int .i64 0, .int .i64 0, .slice none 0 0] 83))
          go_simp
          refine hK.out _ _ (KS.out _ HC.out) (fun hHeld => ?_)
          clear hK K
          try simp only [Act.put, List.setIfInBounds_toArray, List.set_cons_zero, List.set_cons_succ]
          generalize hV4 : V5.alloc (.cells #[.int .i64 0, .int .i64 0, .int .i64 0, .int .i64 0, .slice none 0 0] 83) = V4 at *
          clear hV4
          refine wpAnyH_ready (rs := [6]) (by kernel_rfl) (by simp) ?_
          refine AllReadyH.cons (o := { dst := none, op := Op.store 83 (Operand.tmp 6) (Operand.tmp 12), type := 0, pos := "l12_discs.go:246", after := #[{ on := 4, ground := Ground.data }, { on := 1, ground := Ground.data }, { on := 3, ground := Ground.chain }, { on := 0, ground := Ground.phase }, { on := 1, ground := Ground.phase }, { on := 2, ground := Ground.textOnly Departure.lateStores }, { on := 3, ground := Ground.textOnly Departure.lateStoresUnsure }, { on := 4, ground := Ground.phase }, { on := 5, ground := Ground.phase }], guard := none }) rfl (fun K hK => ?_) AllReadyH.nil
          have n45 := N45.out
          have n54 := fun h => N45.out (Eq.symm h)
          obtain ⟨qa0, qb0⟩ := E4.out.at 0 rfl
          obtain ⟨qa1, qb1⟩ := E4.out.at 1 rfl
          obtain ⟨qa2, qb2⟩ := E4.out.at 2 rfl
          obtain ⟨qa3, qb3⟩ := E4.out.at 3 rfl
          obtain ⟨qa4, qb4⟩ := E4.out.at 4 rfl
          obtain ⟨ra0, rb0⟩ := E5.out.at 0 rfl
          obtain ⟨ra1, rb1⟩ := E5.out.at 1 rfl
          obtain ⟨ra2, rb2⟩ := E5.out.at 2 rfl
          obtain ⟨ra3, rb3⟩ := E5.out.at 3 rfl
          obtain ⟨ra4, rb4⟩ := E5.out.at 4 rfl
          go_simp
          refine hK.out _ _ (KS.out _ (((((HC.out.setCell P4.out _).setCell P4.out _).setCell P4.out _).setCell P4.out _).setCell P4.out _)) (fun hHeld => ?_)
          clear hK K
          try simp only [Act.put, List.setIfInBounds_toArray, List.set_cons_zero, List.set_cons_succ]
          refine wpAnyH_ready (rs := [7]) (by kernel_rfl) (by simp) ?_
          refine AllReadyH.cons (o := { dst := none, op := Op.store 83 (Operand.tmp 7) (Operand.tmp 14), type := 0, pos := "l12_discs.go:246", after := #[{ on := 5, ground := Ground.data }, { on := 3, ground := Ground.data }, { on := 6, ground := Ground.chain }, { on := 0, ground := Ground.phase }, { on := 1, ground := Ground.phase }, { on := 2, ground := Ground.phase }, { on := 3, ground := Ground.phase }, { on := 4, ground := Ground.phase }, { on := 5, ground := Ground.phase }, { on := 6, ground := Ground.phase }], guard := none }) rfl (fun K hK => ?_) AllReadyH.nil
          go_simp
          refine hK.out _ _ (KS.out _ ((((((((((HC.out.setCell P4.out _).setCell P4.out _).setCell P4.out _).setCell P4.out _).setCell P4.out _).setCell P5.out _).setCell P5.out _).setCell P5.out _).setCell P5.out _).setCell P5.out _)) (fun hHeld => ?_)
          clear hK K
          try simp only [Act.put, List.setIfInBounds_toArray, List.set_cons_zero, List.set_cons_succ]
          refine wpAnyH_done (by kernel_rfl) ?_ _
          go_wp2_with fail
          go_meet
          case rel => exact Lib.hid ⟨TwoIn.mk5 N45.out P4.out P5.out E4.out E5.out, ((((((((((HC.out.setCell P4.out _).setCell P4.out _).setCell P4.out _).setCell P4.out _).setCell P4.out _).setCell P5.out _).setCell P5.out _).setCell P5.out _).setCell P5.out _).setCell P5.out _)⟩
      · have E4 := Lib.hid ((fun (V : World) (h : Below W.heap.size W V) => MadeAt.new V (.cells #[.int .i64 0, .int .i64 0, .int .i64 0, .int .i64 0, .slice none 0 0] 83)) _ HC.out)
        have P4 := Lib.hid HC.out.size
        replace HC := Lib.hid (HC.out.alloc HC.out.size (.cells #[.int .i64 0, .int .i64 0, .int .i64 0, .int .i64 0, .slice none 0 0] 83))
        go_simp
        refine hK.out _ _ (KS.out _ HC.out) (fun hHeld => ?_)
        clear hK K
        try simp only [Act.put, List.setIfInBounds_toArray, List.set_cons_zero, List.set_cons_succ]
        generalize hV4 : w2.alloc (.cells #[.int .i64 0, .int .i64 0, .int .i64 0, .int .i64 0, .slice none 0 0] 83) = V4 at *
        clear hV4
        refine wpAnyH_ready (rs := [3, 5]) (by kernel_rfl) (by simp) ?_
        refine AllReadyH.cons (o := { dst := some 14, op := Op.call { callee := Callee.value (Operand.func 60), args := #[Operand.tmp 13], argTypes := #[29] }, type := 83, pos := "l12_discs.go:246", after := #[{ on := 2, ground := Ground.data }, { on := 1, ground := Ground.chain }], guard := none }) rfl (fun K hK => ?_) (AllReadyH.cons (o := { dst := some 7, op := Op.alloc 83, type := 0, pos := "l12_discs.go:246", after := #[], guard := none }) rfl (fun K hK => ?_) AllReadyH.nil)
        · go_simp
          go_at_call 60; refine (SY.out _).mono ?_; rintro e w3 ⟨rfl, hb3⟩; replace HC := Lib.hid (HC.out.trans (hb3.mono HC.out.size)); (try (replace E4 := Lib.hid (E4.out.below hb3))); (try (replace E5 := Lib.hid (E5.out.below hb3)))
          go_wp2_with fail
          refine hK.out _ _ (KS.out _ HC.out) (fun hHeld => ?_)
          clear hK K
          try simp only [Act.put, List.setIfInBounds_toArray, List.set_cons_zero, List.set_cons_succ]
          refine wpAnyH_ready (rs := [5]) (by kernel_rfl) (by simp) ?_
          refine AllReadyH.cons (o := { dst := some 7, op := Op.alloc 83, type := 0, pos := "l12_discs.go:246", after := #[], guard := none }) rfl (fun K hK => ?_) AllReadyH.nil
          have E5 := Lib.hid ((fun (V : World) (h : Below W.heap.size W V) => MadeAt.new V (.cells #[.int .i64 0, .int .i64 0, .int .i64 0, .int .i64 0, .slice none 0 0] 83)) _ HC.out)
          have P5 := Lib.hid HC.out.size
          have N45 := Lib.hid (Nat.ne_of_lt E4.out.lt)
          replace E4 := Lib.hid (E4.out.below ((Below.refl _ _).alloc (Nat.le_refl _) (.cells #[.int .i64 0, .int .i64 0, .int .i64 0, .int .i64 0, .slice none 0 0] 83)))
          replace HC := Lib.hid (HC.out.alloc HC.out.size (.cells #[.int .i64 0, .int .i64 0, .int .i64 0, .int .i64 0, .slice none 0 0] 83))
          go_simp
          refine hK.out _ _ (KS.out _ HC.out) (fun hHeld => ?_)
          clear hK K
          try simp only [Act.put, List.setIfInBounds_toArray, List.set_cons_zero, List.set_cons_succ]
          generalize hV5 : w3.alloc (.cells #[.int .i64 0, .int .i64 0, .int .i64 0, .int .i64 0, .slice none 0 0] 83) = V5 at *
          clear hV5
          refine wpAnyH_ready (rs := [6]) (by kernel_rfl) (by simp) ?_
          refine AllReadyH.cons (o := { dst := none, op := Op.store 83 (Operand.tmp 6) (Operand.tmp 12), type := 0, pos := "l12_discs.go:246", after := #[{ on := 4, ground := Ground.data }, { on := 1, ground := Ground.data }, { on := 3, ground := Ground.chain }, { on := 0, ground := Ground.phase }, { on := 1, ground := Ground.phase }, { on := 2, ground := Ground.textOnly Departure.lateStores }, { on := 3, ground := Ground.textOnly Departure.lateStoresUnsure }, { on := 4, ground := Ground.phase }, { on := 5, ground := Ground.phase }], guard := none }) rfl (fun K hK => ?_) AllReadyH.nil
          have n45 := N45.out
          have n54 := fun h => N45.out (Eq.symm h)
          obtain ⟨qa0, qb0⟩ := E4.out.at 0 rfl
          obtain ⟨qa1, qb1⟩ := E4.out.at 1 rfl
          obtain ⟨qa2, qb2⟩ := E4.out.at 2 rfl
          obtain ⟨qa3, qb3⟩ := E4.out.at 3 rfl
          obtain ⟨qa4, qb4⟩ := E4.out.at 4 rfl
          obtain ⟨ra0, rb0⟩ := E5.out.at 0 rfl
          obtain ⟨ra1, rb1⟩ := E5.out.at 1 rfl
          obtain ⟨ra2, rb2⟩ := E5.out.at 2 rfl
          obtain ⟨ra3, rb3⟩ := E5.out.at 3 rfl
          obtain ⟨ra4, rb4⟩ := E5.out.at 4 rfl
          go_simp
          refine hK.out _ _ (KS.out _ (((((HC.out.setCell P4.out _).setCell P4.out _).setCell P4.out _).setCell P4.out _).setCell P4.out _)) (fun hHeld => ?_)
          clear hK K
          try simp only [Act.put, List.setIfInBounds_toArray, List.set_cons_zero, List.set_cons_succ]
          refine wpAnyH_ready (rs := [7]) (by kernel_rfl) (by simp) ?_
          refine AllReadyH.cons (o := { dst := none, op := Op.store 83 (Operand.tmp 7) (Operand.tmp 14), type := 0, pos := "l12_discs.go:246", after := #[{ on := 5, ground := Ground.data }, { on := 3, ground := Ground.data }, { on := 6, ground := Ground.chain }, { on := 0, ground := Ground.phase }, { on := 1, ground := Ground.phase }, { on := 2, ground := Ground.phase }, { on := 3, ground := Ground.phase }, { on := 4, ground := Ground.phase }, { on := 5, ground := Ground.phase }, { on := 6, ground := Ground.phase }], guard := none }) rfl (fun K hK => ?_) AllReadyH.nil
          go_simp
          refine hK.out _ _ (KS.out _ ((((((((((HC.out.setCell P4.out _).setCell P4.out _).setCell P4.out _).setCell P4.out _).setCell P4.out _).setCell P5.out _).setCell P5.out _).setCell P5.out _).setCell P5.out _).setCell P5.out _)) (fun hHeld => ?_)
          clear hK K
          try simp only [Act.put, List.setIfInBounds_toArray, List.set_cons_zero, List.set_cons_succ]
          refine wpAnyH_done (by kernel_rfl) ?_ _
          go_wp2_with fail
          go_meet
          case rel => exact Lib.hid ⟨TwoIn.mk5 N45.out P4.out P5.out E4.out E5.out, ((((((((((HC.out.setCell P4.out _).setCell P4.out _).setCell P4.out _).setCell P4.out _).setCell P4.out _).setCell P5.out _).setCell P5.out _).setCell P5.out _).setCell P5.out _).setCell P5.out _)⟩
        · have E5 := Lib.hid ((fun (V : World) (h : Below W.heap.size W V) => MadeAt.new V (.cells #[.int .i64 0, .int .i64 0, .int .i64 0, .int .i64 0, .slice none 0 0] 83)) _ HC.out)
          have P5 := Lib.hid HC.out.size
          have N45 := Lib.hid (Nat.ne_of_lt E4.out.lt)
          replace E4 := Lib.hid (E4.out.below ((Below.refl _ _).alloc (Nat.le_refl _) (.cells #[.int .i64 0, .int .i64 0, .int .i64 0, .int .i64 0, .slice none 0 0] 83)))
          replace HC := Lib.hid (HC.out.alloc HC.out.size (.cells #[.int .i64 0, .int .i64 0, .int .i64 0, .int .i64 0, .slice none 0 0] 83))
          go_simp
          refine hK.out _ _ (KS.out _ HC.out) (fun hHeld => ?_)
          clear hK K
          try simp only [Act.put, List.setIfInBounds_toArray, List.set_cons_zero, List.set_cons_succ]
          generalize hV5 : V4.alloc (.cells #[.int .i64 0, .int .i64 0, .int .i64 0, .int .i64 0, .slice none 0 0] 83) = V5 at *
          clear hV5
          refine wpAnyH_ready (rs := [3]) (by kernel_rfl) (by simp) ?_
          refine AllReadyH.cons (o := { dst := some 14, op := Op.call { callee := Callee.value (Operand.func 60), args := #[Operand.tmp 13], argTypes := #[29] }, type := 83, pos := "l12_discs.go:246", after := #[{ on := 2, ground := Ground.data }, { on := 1, ground := Ground.chain }], guard := none }) rfl (fun K hK => ?_) AllReadyH.nil
          go_simp
          go_at_call 60; refine (SY.out _).mono ?_; rintro e w3 ⟨rfl, hb3⟩; replace HC := Lib.hid (HC.out.trans (hb3.mono HC.out.size)); (try (replace E4 := Lib.hid (E4.out.below hb3))); (try (replace E5 := Lib.hid (E5.out.below hb3)))
          go_wp2_with fail
          refine hK.out _ _ (KS.out _ HC.out) (fun hHeld => ?_)
          clear hK K
          try simp only [Act.put, List.setIfInBounds_toArray, List.set_cons_zero, List.set_cons_succ]
          refine wpAnyH_ready (rs := [6]) (by kernel_rfl) (by simp) ?_
          refine AllReadyH.cons (o := { dst := none, op := Op.store 83 (Operand.tmp 6) (Operand.tmp 12), type := 0, pos := "l12_discs.go:246", after := #[{ on := 4, ground := Ground.data }, { on := 1, ground := Ground.data }, { on := 3, ground := Ground.chain }, { on := 0, ground := Ground.phase }, { on := 1, ground := Ground.phase }, { on := 2, ground := Ground.textOnly Departure.lateStores }, { on := 3, ground := Ground.textOnly Departure.lateStoresUnsure }, { on := 4, ground := Ground.phase }, { on := 5, ground := Ground.phase }], guard := none }) rfl (fun K hK => ?_) AllReadyH.nil
          have n45 := N45.out
          have n54 := fun h => N45.out (Eq.symm h)
          obtain ⟨qa0, qb0⟩ := E4.out.at 0 rfl
          obtain ⟨qa1, qb1⟩ := E4.out.at 1 rfl
          obtain ⟨qa2, qb2⟩ := E4.out.at 2 rfl
          obtain ⟨qa3, qb3⟩ := E4.out.at 3 rfl
          obtain ⟨qa4, qb4⟩ := E4.out.at 4 rfl
          obtain ⟨ra0, rb0⟩ := E5.out.at 0 rfl
          obtain ⟨ra1, rb1⟩ := E5.out.at 1 rfl
          obtain ⟨ra2, rb2⟩ := E5.out.at 2 rfl
          obtain ⟨ra3, rb3⟩ := E5.out.at 3 rfl
          obtain ⟨ra4, rb4⟩ := E5.out.at 4 rfl
          go_simp
          refine hK.out _ _ (KS.out _ (((((HC.out.setCell P4.out _).setCell P4.out _).setCell P4.out _).setCell P4.out _).setCell P4.out _)) (fun hHeld => ?_)
          clear hK K
          try simp only [Act.put, List.setIfInBounds_toArray, List.set_cons_zero, List.set_cons_succ]
          refine wpAnyH_ready (rs := [7]) (by kernel_rfl) (by simp) ?_
          refine AllReadyH.cons (o := { dst := none, op := Op.store 83 (Operand.tmp 7) (Operand.tmp 14), type := 0, pos := "l12_discs.go:246", after := #[{ on := 5, ground := Ground.data }, { on := 3, ground := Ground.data }, { on := 6, ground := Ground.chain }, { on := 0, ground := Ground.phase }, { on := 1, ground := Ground.phase }, { on := 2, ground := Ground.phase }, { on := 3, ground := Ground.phase }, { on := 4, ground := Ground.phase }, { on := 5, ground := Ground.phase }, { on := 6, ground := Ground.phase }], guard := none }) rfl (fun K hK => ?_) AllReadyH.nil
          go_simp
          refine hK.out _ _ (KS.out _ ((((((((((HC.out.setCell P4.out _).setCell P4.out _).setCell P4.out _).setCell P4.out _).setCell P4.out _).setCell P5.out _).setCell P5.out _).setCell P5.out _).setCell P5.out _).setCell P5.out _)) (fun hHeld => ?_)
          clear hK K
          try simp only [Act.put, List.setIfInBounds_toArray, List.set_cons_zero, List.set_cons_succ]
          refine wpAnyH_done (by kernel_rfl) ?_ _
          go_wp2_with fail
          go_meet
          case rel => exact Lib.hid ⟨TwoIn.mk5 N45.out P4.out P5.out E4.out E5.out, ((((((((((HC.out.setCell P4.out _).setCell P4.out _).setCell P4.out _).setCell P4.out _).setCell P4.out _).setCell P5.out _).setCell P5.out _).setCell P5.out _).setCell P5.out _).setCell P5.out _)⟩
      · have E5 := Lib.hid ((fun (V : World) (h : Below W.heap.size W V) => MadeAt.new V (.cells #[.int .i64 0, .int .i64 0, .int .i64 0, .int .i64 0, .slice none 0 0] 83)) _ HC.out)
        have P5 := Lib.hid HC.out.size
        replace HC := Lib.hid (HC.out.alloc HC.out.size (.cells #[.int .i64 0, .int .i64 0, .int .i64 0, .int .i64 0, .slice none 0 0] 83))
        go_simp
        refine hK.out _ _ (KS.out _ HC.out) (fun hHeld => ?_)
        clear hK K
        try simp only [Act.put, List.setIfInBounds_toArray, List.set_cons_zero, List.set_cons_succ]
        generalize hV5 : w2.alloc (.cells #[.int .i64 0, .int .i64 0, .int .i64 0, .int .i64 0, .slice none 0 0] 83) = V5 at *
        clear hV5
        refine wpAnyH_ready (rs := [3, 4]) (by kernel_rfl) (by simp) ?_
        refine AllReadyH.cons (o := { dst := some 14, op := Op.call { callee := Callee.value (Operand.func 60), args := #[Operand.tmp 13], argTypes := #[29] }, type := 83, pos := "l12_discs.go:246", after := #[{ on := 2, ground := Ground.data }, { on := 1, ground := Ground.chain }], guard := none }) rfl (fun K hK => ?_) (AllReadyH.cons (o := { dst := some 6, op := Op.alloc 83, type := 0, pos := "l12_discs.go:246", after := #[], guard := none }) rfl (fun K hK => ?_) AllReadyH.nil)
        · go_simp
          go_at_call 60; refine (SY.out _).mono ?_; rintro e w3 ⟨rfl, hb3⟩; replace HC := Lib.hid (HC.out.trans (hb3.mono HC.out.size)); (try (replace E4 := Lib.hid (E4.out.below hb3))); (try (replace E5 := Lib.hid (E5.out.below hb3)))
          go_wp2_with fail
          refine hK.out _ _ (KS.out _ HC.out) (fun hHeld => ?_)
          clear hK K
          try simp only [Act.put, List.setIfInBounds_toArray, List.set_cons_zero, List.set_cons_succ]
          refine wpAnyH_ready (rs := [4]) (by kernel_rfl) (by simp) ?_
          refine AllReadyH.cons (o := { dst := some 6, op := Op.alloc 83, type := 0, pos := "l12_discs.go:246", after := #[], guard := none }) rfl (fun K hK => ?_) AllReadyH.nil
          have E4 := Lib.hid ((fun (V : World) (h : Below W.heap.size W V) => MadeAt.new V (.cells #[.int .i64 0, .int .i64 0, .int .i64 0, .int .i64 0, .slice none 0 0] 83)) _ HC.out)
          have P4 := Lib.hid HC.out.size
          have N45 := Lib.hid (Nat.ne_of_gt E5.out.lt)
          replace E5 := Lib.hid (E5.out.below ((Below.refl _ _).alloc (Nat.le_refl _) (.cells #[.int .i64 0, .int .i64 0, .int .i64 0, .int .i64 0, .slice none 0 0] 83)))
          replace HC := Lib.hid (HC.out.alloc HC.out.size (.cells #[.int .i64 0, .int .i64 0, .int .i64 0, .int .i64 0, .slice none 0 0] 83))
          go_simp
          refine hK.out _ _ (KS.out _ HC.out) (fun hHeld => ?_)
          clear hK K
          try simp only [Act.put, List.setIfInBounds_toArray, List.set_cons_zero, List.set_cons_succ]
          generalize hV4 : w3.alloc (.cells #[.int .i64 0, .int .i64 0, .int .i64 0, .int .i64 0, .slice none 0 0] 83) = V4 at *
          clear hV4
          refine wpAnyH_ready (rs := [6]) (by kernel_rfl) (by simp) ?_
          refine AllReadyH.cons (o := { dst := none, op := Op.store 83 (Operand.tmp 6) (Operand.tmp 12), type := 0, pos := "l12_discs.go:246", after := #[{ on := 4, ground := Ground.data }, { on := 1, ground := Ground.data }, { on := 3, ground := Ground.chain }, { on := 0, ground := Ground.phase }, { on := 1, ground := Ground.phase }, { on := 2, ground := Ground.textOnly Departure.lateStores }, { on := 3, ground := Ground.textOnly Departure.lateStoresUnsure }, { on := 4, ground := Ground.phase }, { on := 5, ground := Ground.phase }], guard := none }) rfl (fun K hK => ?_) AllReadyH.nil
          have n45 := N45.out
          have n54 := fun h => N45.out (Eq.symm h)
          obtain ⟨qa0, qb0⟩ := E4.out.at 0 rfl
          obtain ⟨qa1, qb1⟩ := E4.out.at 1 rfl
          obtain ⟨qa2, qb2⟩ := E4.out.at 2 rfl
          obtain ⟨qa3, qb3⟩ := E4.out.at 3 rfl
          obtain ⟨qa4, qb4⟩ := E4.out.at 4 rfl
          obtain ⟨ra0, rb0⟩ := E5.out.at 0 rfl
          obtain ⟨ra1, rb1⟩ := E5.out.at 1 rfl
          obtain ⟨ra2, rb2⟩ := E5.out.at 2 rfl
          obtain ⟨ra3, rb3⟩ := E5.out.at 3 rfl
          obtain ⟨ra4, rb4⟩ := E5.out.at 4 rfl
          go_simp
          refine hK.out _ _ (KS.out _ (((((HC.out.setCell P4.out _).setCell P4.out _).setCell P4.out _).setCell P4.out _).setCell P4.out _)) (fun hHeld => ?_)
          clear hK K
          try simp only [Act.put, List.setIfInBounds_toArray, List.set_cons_zero, List.set_cons_succ]
          refine wpAnyH_ready (rs := [7]) (by kernel_rfl) (by simp) ?_
          refine AllReadyH.cons (o := { dst := none, op := Op.store 83 (Operand.tmp 7) (Operand.tmp 14), type := 0, pos := "l12_discs.go:246", after := #[{ on := 5, ground := Ground.data }, { on := 3, ground := Ground.data }, { on := 6, ground := Ground.chain }, { on := 0, ground := Ground.phase }, { on := 1, ground := Ground.phase }, { on := 2, ground := Ground.phase }, { on := 3, ground := Ground.phase }, { on := 4, ground := Ground.phase }, { on := 5, ground := Ground.phase }, { on := 6, ground := Ground.phase }], guard := none }) rfl (fun K hK => ?_) AllReadyH.nil
          go_simp
          refine hK.out _ _ (KS.out _ ((((((((((HC.out.setCell P4.out _).setCell P4.out _).setCell P4.out _).setCell P4.out _).setCell P4.out _).setCell P5.out _).setCell P5.out _).setCell P5.out _).setCell P5.out _).setCell P5.out _)) (fun hHeld => ?_)
          clear hK K
          try simp only [Act.put, List.setIfInBounds_toArray, List.set_cons_zero, List.set_cons_succ]
          refine wpAnyH_done (by kernel_rfl) ?_ _
          go_wp2_with fail
          go_meet
          case rel => exact Lib.hid ⟨TwoIn.mk5 N45.out P4.out P5.out E4.out E5.out, ((((((((((HC.out.setCell P4.out _).setCell P4.out _).setCell P4.out _).setCell P4.out _).setCell P4.out _).setCell P5.out _).setCell P5.out _).setCell P5.out _).setCell P5.out _).setCell P5.out _)⟩
        · have E4 := Lib.hid ((fun (V : World) (h : Below W.heap.size W V) => MadeAt.new V (.cells #[.int .i64 0, .int .i64 0, .int .i64 0, .int .i64 0, .slice none 0 0] 83)) _ HC.out)
          have P4 := Lib.hid HC.out.size
          have N45 := Lib.hid (Nat.ne_of_gt E5.out.lt)
          replace E5 := Lib.hid (E5.out.below ((Below.refl _ _).alloc (Nat.le_refl _) (.cells #[.int .i64 0, .int .i64 0, .int .i64 0, .int .i64 0, .slice none 0 0] 83)))
          replace HC := Lib.hid (HC.out.alloc HC.out.size (.cells #[.int .i64 0, .int .i64 0, .int .i64 0, .int .i64 0, .slice none 0 0] 83))
          go_simp
          refine hK.out _ _ (KS.out _ HC.out) (fun hHeld => ?_)
          clear hK K
          try simp only [Act.put, List.setIfInBounds_toArray, List.set_cons_zero, List.set_cons_succ]
          generalize hV4 : V5.alloc (.cells #[.int .i64 0, .int .i64 0, .int .i64 0, .int .i64 0, .slice none 0 0] 83) = V4 at *
          clear hV4
          refine wpAnyH_ready (rs := [3]) (by kernel_rfl) (by simp) ?_
          refine AllReadyH.cons (o := { dst := some 14, op := Op.call { callee := Callee.value (Operand.func 60), args := #[Operand.tmp 13], argTypes := #[29] }, type := 83, pos := "l12_discs.go:246", after := #[{ on := 2, ground := Ground.data }, { on := 1, ground := Ground.chain }], guard := none }) rfl (fun K hK => ?_) AllReadyH.nil
          go_simp
          go_at_call 60; refine (SY.out _).mono ?_; rintro e w3 ⟨rfl, hb3⟩; replace HC := Lib.hid (HC.out.trans (hb3.mono HC.out.size)); (try (replace E4 := Lib.hid (E4.out.below hb3))); (try (replace E5 := Lib.hid (E5.out.below hb3)))
          go_wp2_with fail
          refine hK.out _ _ (KS.out _ HC.out) (fun hHeld => ?_)
          clear hK K
          try simp only [Act.put, List.setIfInBounds_toArray, List.set_cons_zero, List.set_cons_succ]
          refine wpAnyH_ready (rs := [6]) (by kernel_rfl) (by simp) ?_
          refine AllReadyH.cons (o := { dst := none, op := Op.store 83 (Operand.tmp 6) (Operand.tmp 12), type := 0, pos := "l12_discs.go:246", after := #[{ on := 4, ground := Ground.data }, { on := 1, ground := Ground.data }, { on := 3, ground := Ground.chain }, { on := 0, ground := Ground.phase }, { on := 1, ground := Ground.phase }, { on := 2, ground := Ground.textOnly Departure.lateStores }, { on := 3, ground := Ground.textOnly Departure.lateStoresUnsure }, { on := 4, ground := Ground.phase }, { on := 5, ground := Ground.phase }], guard := none }) rfl (fun K hK => ?_) AllReadyH.nil
          have n45 := N45.out
          have n54 := fun h => N45.out (Eq.symm h)
          obtain ⟨qa0, qb0⟩ := E4.out.at 0 rfl
          obtain ⟨qa1, qb1⟩ := E4.out.at 1 rfl
          obtain ⟨qa2, qb2⟩ := E4.out.at 2 rfl
          obtain ⟨qa3, qb3⟩ := E4.out.at 3 rfl
          obtain ⟨qa4, qb4⟩ := E4.out.at 4 rfl
          obtain ⟨ra0, rb0⟩ := E5.out.at 0 rfl
          obtain ⟨ra1, rb1⟩ := E5.out.at 1 rfl
          obtain ⟨ra2, rb2⟩ := E5.out.at 2 rfl
          obtain ⟨ra3, rb3⟩ := E5.out.at 3 rfl
          obtain ⟨ra4, rb4⟩ := E5.out.at 4 rfl
          go_simp
          refine hK.out _ _ (KS.out _ (((((HC.out.setCell P4.out _).setCell P4.out _).setCell P4.out _).setCell P4.out _).setCell P4.out _)) (fun hHeld => ?_)
          clear hK K
          try simp only [Act.put, List.setIfInBounds_toArray, List.set_cons_zero, List.set_cons_succ]
          refine wpAnyH_ready (rs := [7]) (by kernel_rfl) (by simp) ?_
          refine AllReadyH.cons (o := { dst := none, op := Op.store 83 (Operand.tmp 7) (Operand.tmp 14), type := 0, pos := "l12_discs.go:246", after := #[{ on := 5, ground := Ground.data }, { on := 3, ground := Ground.data }, { on := 6, ground := Ground.chain }, { on := 0, ground := Ground.phase }, { on := 1, ground := Ground.phase }, { on := 2, ground := Ground.phase }, { on := 3, ground := Ground.phase }, { on := 4, ground := Ground.phase }, { on := 5, ground := Ground.phase }, { on := 6, ground := Ground.phase }], guard := none }) rfl (fun K hK => ?_) AllReadyH.nil
          go_simp
          refine hK.out _ _ (KS.out _ ((((((((((HC.out.setCell P4.out _).setCell P4.out _).setCell P4.out _).setCell P4.out _).setCell P4.out _).setCell P5.out _).setCell P5.out _).setCell P5.out _).setCell P5.out _).setCell P5.out _)) (fun hHeld => ?_)
          clear hK K
          try simp only [Act.put, List.setIfInBounds_toArray, List.set_cons_zero, List.set_cons_succ]
          refine wpAnyH_done (by kernel_rfl) ?_ _
          go_wp2_with fail
          go_meet
          case rel => exact Lib.hid ⟨TwoIn.mk5 N45.out P4.out P5.out E4.out E5.out, ((((((((((HC.out.setCell P4.out _).setCell P4.out _).setCell P4.out _).setCell P4.out _).setCell P4.out _).setCell P5.out _).setCell P5.out _).setCell P5.out _).setCell P5.out _).setCell P5.out _)⟩
    · have E4 := Lib.hid (show MadeAt (W.alloc (.cells #[.int .i64 0, .int .i64 0, .int .i64 0, .int .i64 0, .slice none 0 0] 83)).drew W.heap.size (.cells #[.int .i64 0, .int .i64 0, .int .i64 0, .int .i64 0, .slice none 0 0] 83) from MadeAt.new W (.cells #[.int .i64 0, .int .i64 0, .int .i64 0, .int .i64 0, .slice none 0 0] 83))
      have P4 := Lib.hid (Nat.le_refl W.heap.size)
      replace HC := Lib.hid (show Below W.heap.size W (W.alloc (.cells #[.int .i64 0, .int .i64 0, .int .i64 0, .int .i64 0, .slice none 0 0] 83)).drew from ((Below.refl _ _).alloc (Nat.le_refl _) (.cells #[.int .i64 0, .int .i64 0, .int .i64 0, .int .i64 0, .slice none 0 0] 83)).drew)
      go_simp
      refine hK.out _ _ (KS.out _ HC.out) (fun hHeld => ?_)
      clear hK K
      try simp only [Act.put, List.setIfInBounds_toArray, List.set_cons_zero, List.set_cons_succ]
      generalize hV4 : (W.alloc (.cells #[.int .i64 0, .int .i64 0, .int .i64 0, .int .i64 0, .slice none 0 0] 83)).drew = V4 at *
      clear hV4
      refine wpAnyH_ready (rs := [1, 5]) (by kernel_rfl) (by simp) ?_
      refine AllReadyH.cons (o := { dst := some 12, op := Op.call { callee := Callee.value (Operand.func 60), args := #[Operand.tmp 11], argTypes := #[29] }, type := 83, pos := "l12_discs.go:246", after := #[{ on := 0, ground := Ground.data }], guard := none }) rfl (fun K hK => ?_) (AllReadyH.cons (o := { dst := some 7, op := Op.alloc 83, type := 0, pos := "l12_discs.go:246", after := #[], guard := none }) rfl (fun K hK => ?_) AllReadyH.nil)
      · go_simp
        go_at_call 60; refine (SX.out _).mono ?_; rintro e w2 ⟨rfl, hb2⟩; replace HC := Lib.hid (HC.out.trans (hb2.mono HC.out.size)); (try (replace E4 := Lib.hid (E4.out.below hb2))); (try (replace E5 := Lib.hid (E5.out.below hb2)))
        go_wp2_with fail
        refine hK.out _ _ (KS.out _ HC.out) (fun hHeld => ?_)
        clear hK K
        try simp only [Act.put, List.setIfInBounds_toArray, List.set_cons_zero, List.set_cons_succ]
        refine wpAnyH_ready (rs := [3, 5]) (by kernel_rfl) (by simp) ?_
        refine AllReadyH.cons (o := { dst := some 14, op := Op.call { callee := Callee.value (Operand.func 60), args := #[Operand.tmp 13], argTypes := #[29] }, type := 83, pos := "l12_discs.go:246", after := #[{ on := 2, ground := Ground.data }, { on := 1, ground := Ground.chain }], guard := none }) rfl (fun K hK => ?_) (AllReadyH.cons (o := { dst := some 7, op := Op.alloc 83, type := 0, pos := "l12_discs.go:246", after := #[], guard := none }) rfl (fun K hK => ?_) AllReadyH.nil)
        · go_simp
          go_at_call 60; refine (SY.out _).mono ?_; rintro e w3 ⟨rfl, hb3⟩; replace HC := Lib.hid (HC.out.trans (hb3.mono HC.out.size)); (try (replace E4 := Lib.hid (E4.out.below hb3))); (try (replace E5 := Lib.hid (E5.out.below hb3)))
          go_wp2_with fail
          refine hK.out _ _ (KS.out _ HC.out) (fun hHeld => ?_)
          clear hK K
          try simp only [Act.put, List.setIfInBounds_toArray, List.set_cons_zero, List.set_cons_succ]
          refine wpAnyH_ready (rs := [5]) (by kernel_rfl) (by simp) ?_
          refine AllReadyH.cons (o := { dst := some 7, op := Op.alloc 83, type := 0, pos := "l12_discs.go:246", after := #[], guard := none }) rfl (fun K hK => ?_) AllReadyH.nil
          have E5 := Lib.hid ((fun (V : World) (h : Below W.heap.size W V) => MadeAt.new V (.cells #[.int .i64 0, .int .i64 0, .int .i64 0, .int .i64 0, .slice none 0 0] 83)) _ HC.out)
          have P5 := Lib.hid HC.out.size
          have N45 := Lib.hid (Nat.ne_of_lt E4.out.lt)
          replace E4 := Lib.hid (E4.out.below ((Below.refl _ _).alloc (Nat.le_refl _) (.cells #[.int .i64 0, .int .i64 0, .int .i64 0, .int .i64 0, .slice none 0 0] 83)))
          replace HC := Lib.hid (HC.out.alloc HC.out.size (.cells #[.int .i64 0, .int .i64 0, .int .i64 0, .int .i64 0, .slice none 0 0] 83))
          go_simp
          refine hK.out _ _ (KS.out _ HC.out) (fun hHeld => ?_)
          clear hK K
          try simp only [Act.put, List.setIfInBounds_toArray, List.set_cons_zero, List.set_cons_succ]
          generalize hV5 : w3.alloc (.cells #[.int .i64 0, .int .i64 0, .int .i64 0, .int .i64 0, .slice none 0 0] 83) = V5 at *
          clear hV5
          refine wpAnyH_ready (rs := [6]) (by kernel_rfl) (by simp) ?_
          refine AllReadyH.cons (o := { dst := none, op := Op.store 83 (Operand.tmp 6) (Operand.tmp 12), type := 0, pos := "l12_discs.go:246", after := #[{ on := 4, ground := Ground.data }, { on := 1, ground := Ground.data }, { on := 3, ground := Ground.chain }, { on := 0, ground := Ground.phase }, { on := 1, ground := Ground.phase }, { on := 2, ground := Ground.textOnly Departure.lateStores }, { on := 3, ground := Ground.textOnly Departure.lateStoresUnsure }, { on := 4, ground := Ground.phase }, { on := 5, ground := Ground.phase }], guard := none }) rfl (fun K hK => ?_) AllReadyH.nil
          have n45 := N45.out
          have n54 := fun h => N45.out (Eq.symm h)
          obtain ⟨qa0, qb0⟩ := E4.out.at 0 rfl
          obtain ⟨qa1, qb1⟩ := E4.out.at 1 rfl
          obtain ⟨qa2, qb2⟩ := E4.out.at 2 rfl
          obtain ⟨qa3, qb3⟩ := E4.out.at 3 rfl
          obtain ⟨qa4, qb4⟩ := E4.out.at 4 rfl
          obtain ⟨ra0, rb0⟩ := E5.out.at 0 rfl
          obtain ⟨ra1, rb1⟩ := E5.out.at 1 rfl
          obtain ⟨ra2, rb2⟩ := E5.out.at 2 rfl
          obtain ⟨ra3, rb3⟩ := E5.out.at 3 rfl
          obtain ⟨ra4, rb4⟩ := E5.out.at 4 rfl
          go_simp
          refine hK.out _ _ (KS.out _ (((((HC.out.setCell P4.out _).setCell P4.out _).setCell P4.out _).setCell P4.out _).setCell P4.out _)) (fun hHeld => ?_)
          clear hK K
          try simp only [Act.put, List.setIfInBounds_toArray, List.set_cons_zero, List.set_cons_succ]
          refine wpAnyH_ready (rs := [7]) (by kernel_rfl) (by simp) ?_
          refine AllReadyH.cons (o := { dst := none, op := Op.store 83 (Operand.tmp 7) (Operand.tmp 14), type := 0, pos := "l12_discs.go:246", after := #[{ on := 5, ground := Ground.data }, { on := 3, ground := Ground.data }, { on := 6, ground := Ground.chain }, { on := 0, ground := Ground.phase }, { on := 1, ground := Ground.phase }, { on := 2, ground := Ground.phase }, { on := 3, ground := Ground.phase }, { on := 4, ground := Ground.phase }, { on := 5, ground := Ground.phase }, { on := 6, ground := Ground.phase }], guard := none }) rfl (fun K hK => ?_) AllReadyH.nil
          go_simp
          refine hK.out _ _ (KS.out _ ((((((((((HC.out.setCell P4.out _).setCell P4.out _).setCell P4.out _).setCell P4.out _).setCell P4.out _).setCell P5.out _).setCell P5.out _).setCell P5.out _).setCell P5.out _).setCell P5.out _)) (fun hHeld => ?_)
          clear hK K
          try simp only [Act.put, List.setIfInBounds_toArray, List.set_cons_zero, List.set_cons_succ]
          refine wpAnyH_done (by kernel_rfl) ?_ _
          go_wp2_with fail
          go_meet
          case rel => exact Lib.hid ⟨TwoIn.mk5 N45.out P4.out P5.out E4.out E5.out, ((((((((((HC.out.setCell P4.out _).setCell P4.out _).setCell P4.out _).setCell P4.out _).setCell P4.out _).setCell P5.out _).setCell P5.out _).setCell P5.out _).setCell P5.out _).setCell P5.out _)⟩
        · have E5 := Lib.hid ((fun (V : World) (h : Below W.heap.size W V) => MadeAt.new V (.cells #[.int .i64 0, .int .i64 0, .int .i64 0, .int .i64 0, .slice none 0 0] 83)) _ HC.out)
          have P5 := Lib.hid HC.out.size
          have N45 := Lib.hid (Nat.ne_of_lt E4.out.lt)
          replace E4 := Lib.hid (E4.out.below ((Below.refl _ _).alloc (Nat.le_refl _) (.cells #[.int .i64 0, .int .i64 0, .int .i64 0, .int .i64 0, .slice none 0 0] 83)))
          replace HC := Lib.hid (HC.out.alloc HC.out.size (.cells #[.int .i64 0, .int .i64 0, .int .i64 0, .int .i64 0, .slice none 0 0] 83))
          go_simp
          refine hK.out _ _ (KS.out _ HC.out) (fun hHeld => ?_)
          clear hK K
          try simp only [Act.put, List.setIfInBounds_toArray, List.set_cons_zero, List.set_cons_succ]
          generalize hV5 : w2.alloc (.cells #[.int .i64 0, .int .i64 0, .int .i64 0, .int .i64 0, .slice none 0 0] 83) = V5 at *
          clear hV5
          refine wpAnyH_ready (rs := [3]) (by kernel_rfl) (by simp) ?_
          refine AllReadyH.cons (o := { dst := some 14, op := Op.call { callee := Callee.value (Operand.func 60), args := #[Operand.tmp 13], argTypes := #[29] }, type := 83, pos := "l12_discs.go:246", after := #[{ on := 2, ground := Ground.data }, { on := 1, ground := Ground.chain }], guard := none }) rfl (fun K hK => ?_) AllReadyH.nil
          go_simp
          go_at_call 60; refine (SY.out _).mono ?_; rintro e w3 ⟨rfl, hb3⟩; replace HC := Lib.hid (HC.out.trans (hb3.mono HC.out.size)); (try (replace E4 := Lib.hid (E4.out.below hb3))); (try (replace E5 := Lib.hid (E5.out.below hb3)))
          go_wp2_with fail
          refine hK.out _ _ (KS.out _ HC.out) (fun hHeld => ?_)
          clear hK K
          try simp only [Act.put, List.setIfInBounds_toArray, List.set_cons_zero, List.set_cons_succ]
          refine wpAnyH_ready (rs := [6]) (by kernel_rfl) (by simp) ?_
          refine AllReadyH.cons (o := { dst := none, op := Op.store 83 (Operand.tmp 6) (Operand.tmp 12), type := 0, pos := "l12_discs.go:246", after := #[{ on := 4, ground := Ground.data }, { on := 1, ground := Ground.data }, { on := 3, ground := Ground.chain }, { on := 0, ground := Ground.phase }, { on := 1, ground := Ground.phase }, { on := 2, ground := Ground.textOnly Departure.lateStores }, { on := 3, ground := Ground.textOnly Departure.lateStoresUnsure }, { on := 4, ground := Ground.phase }, { on := 5, ground := Ground.phase }], guard := none }) rfl (fun K hK => ?_) AllReadyH.nil
          have n45 := N45.out
          have n54 := fun h => N45.out (Eq.symm h)
          obtain ⟨qa0, qb0⟩ := E4.out.at 0 rfl
          obtain ⟨qa1, qb1⟩ := E4.out.at 1 rfl
          obtain ⟨qa2, qb2⟩ := E4.out.at 2 rfl
          obtain ⟨qa3, qb3⟩ := E4.out.at 3 rfl
          obtain ⟨qa4, qb4⟩ := E4.out.at 4 rfl
          obtain ⟨ra0, rb0⟩ := E5.out.at 0 rfl
          obtain ⟨ra1, rb1⟩ := E5.out.at 1 rfl
          obtain ⟨ra2, rb2⟩ := E5.out.at 2 rfl
          obtain ⟨ra3, rb3⟩ := E5.out.at 3 rfl
          obtain ⟨ra4, rb4⟩ := E5.out.at 4 rfl
          go_simp
          refine hK.out _ _ (KS.out _ (((((HC.out.setCell P4.out _).setCell P4.out _).setCell P4.out _).setCell P4.out _).setCell P4.out _)) (fun hHeld => ?_)
          clear hK K
          try simp only [Act.put, List.setIfInBounds_toArray, List.set_cons_zero, List.set_cons_succ]
          refine wpAnyH_ready (rs := [7]) (by kernel_rfl) (by simp) ?_
          refine AllReadyH.cons (o := { dst := none, op := Op.store 83 (Operand.tmp 7) (Operand.tmp 14), type := 0, pos := "l12_discs.go:246", after := #[{ on := 5, ground := Ground.data }, { on := 3, ground := Ground.data }, { on := 6, ground := Ground.chain }, { on := 0, ground := Ground.phase }, { on := 1, ground := Ground.phase }, { on := 2, ground := Ground.phase }, { on := 3, ground := Ground.phase }, { on := 4, ground := Ground.phase }, { on := 5, ground := Ground.phase }, { on := 6, ground := Ground.phase }], guard := none }) rfl (fun K hK => ?_) AllReadyH.nil
          go_simp
          refine hK.out _ _ (KS.out _ ((((((((((HC.out.setCell P4.out _).setCell P4.out _).setCell P4.out _).setCell P4.out _).setCell P4.out _).setCell P5.out _).setCell P5.out _).setCell P5.out _).setCell P5.out _).setCell P5.out _)) (fun hHeld => ?_)
          clear hK K
          try simp only [Act.put, List.setIfInBounds_toArray, List.set_cons_zero, List.set_cons_succ]
          refine wpAnyH_done (by kernel_rfl) ?_ _
          go_wp2_with fail
          go_meet
          case rel => exact Lib.hid ⟨TwoIn.mk5 N45.out P4.out P5.out E4.out E5.out, ((((((((((HC.out.setCell P4.out _).setCell P4.out _).setCell P4.out _).setCell P4.out _).setCell P4.out _).setCell P5.out _).setCell P5.out _).setCell P5.out _).setCell P5.out _).setCell P5.out _)⟩
      · have E5 := Lib.hid ((fun (V : World) (h : Below W.heap.size W V) => MadeAt.new V (.cells #[.int .i64 0, .int .i64 0, .int .i64 0, .int .i64 0, .slice none 0 0] 83)) _ HC.out)
        have P5 := Lib.hid HC.out.size
        have N45 := Lib.hid (Nat.ne_of_lt E4.out.lt)
        replace E4 := Lib.hid (E4.out.below ((Below.refl _ _).alloc (Nat.le_refl _) (.cells #[.int .i64 0, .int .i64 0, .int .i64 0, .int .i64 0, .slice none 0 0] 83)))
        replace HC := Lib.hid (HC.out.alloc HC.out.size (.cells #[.int .i64 0, .int .i64 0, .int .i64 0, .int .i64 0, .slice none 0 0] 83))
        go_simp
        refine hK.out _ _ (KS.out _ HC.out) (fun hHeld => ?_)
        clear hK K
        try simp only [Act.put, List.setIfInBounds_toArray, List.set_cons_zero, List.set_cons_succ]
        generalize hV5 : V4.alloc (.cells #[.int .i64 0, .int .i64 0, .int .i64 0, .int .i64 0, .slice none 0 0] 83) = V5 at *
        clear hV5
        refine wpAnyH_ready (rs := [1]) (by kernel_rfl) (by simp) ?_
        refine AllReadyH.cons (o := { dst := some 12, op := Op.call { callee := Callee.value (Operand.func 60), args := #[Operand.tmp 11], argTypes := #[29] }, type := 83, pos := "l12_discs.go:246", after := #[{ on := 0, ground := Ground.data }], guard := none }) rfl (fun K hK => ?_) AllReadyH.nil
        go_simp
        go_at_call 60; refine (SX.out _).mono ?_; rintro e w2 ⟨rfl, hb2⟩; replace HC := Lib.hid (HC.out.trans (hb2.mono HC.out.size)); (try (replace E4 := Lib.hid (E4.out.below hb2))); (try (replace E5 := Lib.hid (E5.out.below hb2)))
        go_wp2_with fail
        refine hK.out _ _ (KS.out _ HC.out) (fun hHeld => ?_)
        clear hK K
        try simp only [Act.put, List.setIfInBounds_toArray, List.set_cons_zero, List.set_cons_succ]
        refine wpAnyH_ready (rs := [3]) (by kernel_rfl) (by simp) ?_
        refine AllReadyH.cons (o := { dst := some 14, op := Op.call { callee := Callee.value (Operand.func 60), args := #[Operand.tmp 13], argTypes := #[29] }, type := 83, pos := "l12_discs.go:246", after := #[{ on := 2, ground := Ground.data }, { on := 1, ground := Ground.chain }], guard := none }) rfl (fun K hK => ?_) AllReadyH.nil
        go_simp
        go_at_call 60; refine (SY.out _).mono ?_; rintro e w3 ⟨rfl, hb3⟩; replace HC := Lib.hid (HC.out.trans (hb3.mono HC.out.size)); (try (replace E4 := Lib.hid (E4.out.below hb3))); (try (replace E5 := Lib.hid (E5.out.below hb3)))
        go_wp2_with fail
        refine hK.out _ _ (KS.out _ HC.out) (fun hHeld => ?_)
        clear hK K
        try simp only [Act.put, List.setIfInBounds_toArray, List.set_cons_zero, List.set_cons_succ]
        refine wpAnyH_ready (rs := [6]) (by kernel_rfl) (by simp) ?_
        refine AllReadyH.cons (o := { dst := none, op := Op.store 83 (Operand.tmp 6) (Operand.tmp 12), type := 0, pos := "l12_discs.go:246", after := #[{ on := 4, ground := Ground.data }, { on := 1, ground := Ground.data }, { on := 3, ground := Ground.chain }, { on := 0, ground := Ground.phase }, { on := 1, ground := Ground.phase }, { on := 2, ground := Ground.textOnly Departure.lateStores }, { on := 3, ground := Ground.textOnly Departure.lateStoresUnsure }, { on := 4, ground := Ground.phase }, { on := 5, ground := Ground.phase }], guard := none }) rfl (fun K hK => ?_) AllReadyH.nil
        have n45 := N45.out
        have n54 := fun h => N45.out (Eq.symm h)
        obtain ⟨qa0, qb0⟩ := E4.out.at 0 rfl
        obtain ⟨qa1, qb1⟩ := E4.out.at 1 rfl
        obtain ⟨qa2, qb2⟩ := E4.out.at 2 rfl
        obtain ⟨qa3, qb3⟩ := E4.out.at 3 rfl
        obtain ⟨qa4, qb4⟩ := E4.out.at 4 rfl
        obtain ⟨ra0, rb0⟩ := E5.out.at 0 rfl
        obtain ⟨ra1, rb1⟩ := E5.out.at 1 rfl
        obtain ⟨ra2, rb2⟩ := E5.out.at 2 rfl
        obtain ⟨ra3, rb3⟩ := E5.out.at 3 rfl
        obtain ⟨ra4, rb4⟩ := E5.out.at 4 rfl
        go_simp
        refine hK.out _ _ (KS.out _ (((((HC.out.setCell P4.out _).setCell P4.out _).setCell P4.out _).setCell P4.out _).setCell P4.out _)) (fun hHeld => ?_)
        clear hK K
        try simp only [Act.put, List.setIfInBounds_toArray, List.set_cons_zero, List.set_cons_succ]
        refine wpAnyH_ready (rs := [7]) (by kernel_rfl) (by simp) ?_
        refine AllReadyH.cons (o := { dst := none, op := Op.store 83 (Operand.tmp 7) (Operand.tmp 14), type := 0, pos := "l12_discs.go:246", after := #[{ on := 5, ground := Ground.data }, { on := 3, ground := Ground.data }, { on := 6, ground := Ground.chain }, { on := 0, ground := Ground.phase }, { on := 1, ground := Ground.phase }, { on := 2, ground := Ground.phase }, { on := 3, ground := Ground.phase }, { on := 4, ground := Ground.phase }, { on := 5, ground := Ground.phase }, { on := 6, ground := Ground.phase }], guard := none }) rfl (fun K hK => ?_) AllReadyH.nil
        go_simp
        refine hK.out _ _ (KS.out _ ((((((((((HC.out.setCell P4.out _).setCell P4.out _).setCell P4.out _).setCell P4.out _).setCell P4.out _).setCell P5.out _).setCell P5.out _).setCell P5.out _).setCell P5.out _).setCell P5.out _)) (fun hHeld => ?_)
        clear hK K
        try simp only [Act.put, List.setIfInBounds_toArray, List.set_cons_zero, List.set_cons_succ]
        refine wpAnyH_done (by kernel_rfl) ?_ _
        go_wp2_with fail
        go_meet
        case rel => exact Lib.hid ⟨TwoIn.mk5 N45.out P4.out P5.out E4.out E5.out, ((((((((((HC.out.setCell P4.out _).setCell P4.out _).setCell P4.out _).setCell P4.out _).setCell P4.out _).setCell P5.out _).setCell P5.out _).setCell P5.out _).setCell P5.out _).setCell P5.out _)⟩
    · have E5 := Lib.hid (show MadeAt (W.alloc (.cells #[.int .i64 0, .int .i64 0, .int .i64 0, .int .i64 0, .slice none 0 0] 83)).drew W.heap.size (.cells #[.int .i64 0, .int .i64 0, .int .i64 0, .int .i64 0, .slice none 0 0] 83) from MadeAt.new W (.cells #[.int .i64 0, .int .i64 0, .int .i64 0, .int .i64 0, .slice none 0 0] 83))
      have P5 := Lib.hid (Nat.le_refl W.heap.size)
      replace HC := Lib.hid (show Below W.heap.size W (W.alloc (.cells #[.int .i64 0, .int .i64 0, .int .i64 0, .int .i64 0, .slice none 0 0] 83)).drew from ((Below.refl _ _).alloc (Nat.le_refl _) (.cells #[.int .i64 0, .int .i64 0, .int .i64 0, .int .i64 0, .slice none 0 0] 83)).drew)
      go_simp
      refine hK.out _ _ (KS.out _ HC.out) (fun hHeld => ?_)
      clear hK K
      try simp only [Act.put, List.setIfInBounds_toArray, List.set_cons_zero, List.set_cons_succ]
      generalize hV5 : (W.alloc (.cells #[.int .i64 0, .int .i64 0, .int .i64 0, .int .i64 0, .slice none 0 0] 83)).drew = V5 at *
      clear hV5
      refine wpAnyH_ready (rs := [1, 4]) (by kernel_rfl) (by simp) ?_
      refine AllReadyH.cons (o := { dst := some 12, op := Op.call { callee := Callee.value (Operand.func 60), args := #[Operand.tmp 11], argTypes := #[29] }, type := 83, pos := "l12_discs.go:246", after := #[{ on := 0, ground := Ground.data }], guard := none }) rfl (fun K hK => ?_) (AllReadyH.cons (o := { dst := some 6, op := Op.alloc 83, type := 0, pos := "l12_discs.go:246", after := #[], guard := none }) rfl (fun K hK => ?_) AllReadyH.nil)
      · go_simp
        go_at_call 60; refine (SX.out _).mono ?_; rintro e w2 ⟨rfl, hb2⟩; replace HC := Lib.hid (HC.out.trans (hb2.mono HC.out.size)); (try (replace E4 := Lib.hid (E4.out.below hb2))); (try (replace E5 := Lib.hid (E5.out.below hb2)))
        go_wp2_with fail
        refine hK.out _ _ (KS.out _ HC.out) (fun hHeld => ?_)
        clear hK K
        try simp only [Act.put, List.setIfInBounds_toArray, List.set_cons_zero, List.set_cons_succ]
        refine wpAnyH_ready (rs := [3, 4]) (by kernel_rfl) (by simp) ?_
        refine AllReadyH.cons (o := { dst := some 14, op := Op.call { callee := Callee.value (Operand.func 60), args := #[Operand.tmp 13], argTypes := #[29] }, type := 83, pos := "l12_discs.go:246", after := #[{ on := 2, ground := Ground.data }, { on := 1, ground := Ground.chain }], guard := none }) rfl (fun K hK => ?_) (AllReadyH.cons (o := { dst := some 6, op := Op.alloc 83, type := 0, pos := "l12_discs.go:246", after := #[], guard := none }) rfl (fun K hK => ?_) AllReadyH.nil)
        · go_simp
          go_at_call 60; refine (SY.out _).mono ?_; rintro e w3 ⟨rfl, hb3⟩; replace HC := Lib.hid (HC.out.trans (hb3.mono HC.out.size)); (try (replace E4 := Lib.hid (E4.out.below hb3))); (try (replace E5 := Lib.hid (E5.out.below hb3)))
          go_wp2_with fail
          refine hK.out _ _ (KS.out _ HC.out) (fun hHeld => ?_)
          clear hK K
          try simp only [Act.put, List.setIfInBounds_toArray, List.set_cons_zero, List.set_cons_succ]
          refine wpAnyH_ready (rs := [4]) (by kernel_rfl) (by simp) ?_
          refine AllReadyH.cons (o := { dst := some 6, op := Op.alloc 83, type := 0, pos := "l12_discs.go:246", after := #[], guard := none }) rfl (fun K hK => ?_) AllReadyH.nil
          have E4 := Lib.hid ((fun (V : World) (h : Below W.heap.size W V) => MadeAt.new V (.cells #[.int .i64 0, .int .i64 0, .int .i64 0, .int .i64 0, .slice none 0 0] 83)) _ HC.out)
          have P4 := Lib.hid HC.out.size
          have N45 := Lib.hid (Nat.ne_of_gt E5.out.lt)
          replace E5 := Lib.hid (E5.out.below ((Below.refl _ _).alloc (Nat.le_refl _) (.cells #[.int .i64 0, .int .i64 0, .int .i64 0, .int .i64 0, .slice none 0 0] 83)))
          replace HC := Lib.hid (HC.out.alloc HC.out.size (.cells #[.int .i64 0, .int .i64 0, .int .i64 0, .int .i64 0, .slice none 0 0] 83))
          go_simp
          refine hK.out _ _ (KS.out _ HC.out) (fun hHeld => ?_)
          clear hK K
          try simp only [Act.put, List.setIfInBounds_toArray, List.set_cons_zero, List.set_cons_succ]
          generalize hV4 : w3.alloc (.cells #[.int .i64 0, .int .i64 0, .int .i64 0, .int .i64 0, .slice none 0 0] 83) = V4 at *
          clear hV4
          refine wpAnyH_ready (rs := [6]) (by kernel_rfl) (by simp) ?_
          refine AllReadyH.cons (o := { dst := none, op := Op.store 83 (Operand.tmp 6) (Operand.tmp 12), type := 0, pos := "l12_discs.go:246", after := #[{ on := 4, ground := Ground.data }, { on := 1, ground := Ground.data }, { on := 3, ground := Ground.chain }, { on := 0, ground := Ground.phase }, { on := 1, ground := Ground.phase }, { on := 2, ground := Ground.textOnly Departure.lateStores }, { on := 3, ground := Ground.textOnly Departure.lateStoresUnsure }, { on := 4, ground := Ground.phase }, { on := 5, ground := Ground.phase }], guard := none }) rfl (fun K hK => ?_) AllReadyH.nil
          have n45 := N45.out
          have n54 := fun h => N45.out (Eq.symm h)
          obtain ⟨qa0, qb0⟩ := E4.out.at 0 rfl
          obtain ⟨qa1, qb1⟩ := E4.out.at 1 rfl
          obtain ⟨qa2, qb2⟩ := E4.out.at 2 rfl
          obtain ⟨qa3, qb3⟩ := E4.out.at 3 rfl
          obtain ⟨qa4, qb4⟩ := E4.out.at 4 rfl
          obtain ⟨ra0, rb0⟩ := E5.out.at 0 rfl
          obtain ⟨ra1, rb1⟩ := E5.out.at 1 rfl
          obtain ⟨ra2, rb2⟩ := E5.out.at 2 rfl
          obtain ⟨ra3, rb3⟩ := E5.out.at 3 rfl
          obtain ⟨ra4, rb4⟩ := E5.out.at 4 rfl
          go_simp
          refine hK.out _ _ (KS.out _ (((((HC.out.setCell P4.out _).setCell P4.out _).setCell P4.out _).setCell P4.out _).setCell P4.out _)) (fun hHeld => ?_)
          clear hK K
          try simp only [Act.put, List.setIfInBounds_toArray, List.set_cons_zero, List.set_cons_succ]
          refine wpAnyH_ready (rs := [7]) (by kernel_rfl) (by simp) ?_
          refine AllReadyH.cons (o := { dst := none, op := Op.store 83 (Operand.tmp 7) (Operand.tmp 14), type := 0, pos := "l12_discs.go:246", after := #[{ on := 5, ground := Ground.data }, { on := 3, ground := Ground.data }, { on := 6, ground := Ground.chain }, { on := 0, ground := Ground.phase }, { on := 1, ground := Ground.phase }, { on := 2, ground := Ground.phase }, { on := 3, ground := Ground.phase }, { on := 4, ground := Ground.phase }, { on := 5, ground := Ground.phase }, { on := 6, ground := Ground.phase }], guard := none }) rfl (fun K hK => ?_) AllReadyH.nil
          go_simp
          refine hK.out _ _ (KS.out _ ((((((((((HC.out.setCell P4.out _).setCell P4.out _).setCell P4.out _).setCell P4.out _).setCell P4.out _).setCell P5.out _).setCell P5.out _).setCell P5.out _).setCell P5.out _).setCell P5.out _)) (fun hHeld => ?_)
          clear hK K
          try simp only [Act.put, List.setIfInBounds_toArray, List.set_cons_zero, List.set_cons_succ]
          refine wpAnyH_done (by kernel_rfl) ?_ _
          go_wp2_with fail
          go_meet
          case rel => exact Lib.hid ⟨TwoIn.mk5 N45.out P4.out P5.out E4.out E5.out, ((((((((((HC.out.setCell P4.out _).setCell P4.out _).setCell P4.out _).setCell P4.out _).setCell P4.out _).setCell P5.out _).setCell P5.out _).setCell P5.out _).setCell P5.out _).setCell P5.out _)⟩
        · have E4 := Lib.hid ((fun (V : World) (h : Below W.heap.size W V) => MadeAt.new V (.cells #[.int .i64 0, .int .i64 0, .int .i64 0, .int .i64 0, .slice none 0 0] 83)) _ HC.out)
          have P4 := Lib.hid HC.out.size
          have N45 := Lib.hid (Nat.ne_of_gt E5.out.lt)
          replace E5 := Lib.hid (E5.out.below ((Below.refl _ _).alloc (Nat.le_refl _) (.cells #[.int .i64 0, .int .i64 0, .int .i64 0, .int .i64 0, .slice none 0 0] 83)))
          replace HC := Lib.hid (HC.out.alloc HC.out.size (.cells #[.int .i64 0, .int .i64 0, .int .i64 0, .int .i64 0, .slice none 0 0] 83))
          go_simp
          refine hK.out _ _ (KS.out _ HC.out) (fun hHeld => ?_)
          clear hK K
          try simp only [Act.put, List.setIfInBounds_toArray, List.set_cons_zero, List.set_cons_succ]
          generalize hV4 : w2.alloc (.cells #[.int .i64 0, .int .i64 0, .int .i64 0, .int .i64 0, .slice none 0 0] 83) = V4 at *
          clear hV4
          refine wpAnyH_ready (rs := [3]) (by kernel_rfl) (by simp) ?_
          refine AllReadyH.cons (o := { dst := some 14, op := Op.call { callee := Callee.value (Operand.func 60), args := #[Operand.tmp 13], argTypes := #[29] }, type := 83, pos := "l12_discs.go:246", after := #[{ on := 2, ground := Ground.data }, { on := 1, ground := Ground.chain }], guard := none }) rfl (fun K hK => ?_) AllReadyH.nil
          go_simp
          go_at_call 60; refine (SY.out _).mono ?_; rintro e w3 ⟨rfl, hb3⟩; replace HC := Lib.hid (HC.out.trans (hb3.mono HC.out.size)); (try (replace E4 := Lib.hid (E4.out.below hb3))); (try (replace E5 := Lib.hid (E5.out.below hb3)))
          go_wp2_with fail
          refine hK.out _ _ (KS.out _ HC.out) (fun hHeld => ?_)
          clear hK K
          try simp only [Act.put, List.setIfInBounds_toArray, List.set_cons_zero, List.set_cons_succ]
          refine wpAnyH_ready (rs := [6]) (by kernel_rfl) (by simp) ?_
          refine AllReadyH.cons (o := { dst := none, op := Op.store 83 (Operand.tmp 6) (Operand.tmp 12), type := 0, pos := "l12_discs.go:246", after := #[{ on := 4, ground := Ground.data }, { on := 1, ground := Ground.data }, { on := 3, ground := Ground.chain }, { on := 0, ground := Ground.phase }, { on := 1, ground := Ground.phase }, { on := 2, ground := Ground.textOnly Departure.lateStores }, { on := 3, ground := Ground.textOnly Departure.lateStoresUnsure }, { on := 4, ground := Ground.phase }, { on := 5, ground := Ground.phase }], guard := none }) rfl (fun K hK => ?_) AllReadyH.nil
          have n45 := N45.out
          have n54 := fun h => N45.out (Eq.symm h)
          obtain ⟨qa0, qb0⟩ := E4.out.at 0 rfl
          obtain ⟨qa1, qb1⟩ := E4.out.at 1 rfl
          obtain ⟨qa2, qb2⟩ := E4.out.at 2 rfl
          obtain ⟨qa3, qb3⟩ := E4.out.at 3 rfl
          obtain ⟨qa4, qb4⟩ := E4.out.at 4 rfl
          obtain ⟨ra0, rb0⟩ := E5.out.at 0 rfl
          obtain ⟨ra1, rb1⟩ := E5.out.at 1 rfl
          obtain ⟨ra2, rb2⟩ := E5.out.at 2 rfl
          obtain ⟨ra3, rb3⟩ := E5.out.at 3 rfl
          obtain ⟨ra4, rb4⟩ := E5.out.at 4 rfl
          go_simp
          refine hK.out _ _ (KS.out _ (((((HC.out.setCell P4.out _).setCell P4.out _).setCell P4.out _).setCell P4.out _).setCell P4.out _)) (fun hHeld => ?_)
          clear hK K
          try simp only [Act.put, List.setIfInBounds_toArray, List.set_cons_zero, List.set_cons_succ]
          refine wpAnyH_ready (rs := [7]) (by kernel_rfl) (by simp) ?_
          refine AllReadyH.cons (o := { dst := none, op := Op.store 83 (Operand.tmp 7) (Operand.tmp 14), type := 0, pos := "l12_discs.go:246", after := #[{ on := 5, ground := Ground.data }, { on := 3, ground := Ground.data }, { on := 6, ground := Ground.chain }, { on := 0, ground := Ground.phase }, { on := 1, ground := Ground.phase }, { on := 2, ground := Ground.phase }, { on := 3, ground := Ground.phase }, { on := 4, ground := Ground.phase }, { on := 5, ground := Ground.phase }, { on := 6, ground := Ground.phase }], guard := none }) rfl (fun K hK => ?_) AllReadyH.nil
          go_simp
          refine hK.out _ _ (KS.out _ ((((((((((HC.out.setCell P4.out _).setCell P4.out _).setCell P4.out _).setCell P4.out _).setCell P4.out _).setCell P5.out _).setCell P5.out _).setCell P5.out _).setCell P5.out _).setCell P5.out _)) (fun hHeld => ?_)
          clear hK K
          try simp only [Act.put, List.setIfInBounds_toArray, List.set_cons_zero, List.set_cons_succ]
          refine wpAnyH_done (by kernel_rfl) ?_ _
          go_wp2_with fail
          go_meet
          case rel => exact Lib.hid ⟨TwoIn.mk5 N45.out P4.out P5.out E4.out E5.out, ((((((((((HC.out.setCell P4.out _).setCell P4.out _).setCell P4.out _).setCell P4.out _).setCell P4.out _).setCell P5.out _).setCell P5.out _).setCell P5.out _).setCell P5.out _).setCell P5.out _)⟩
      · have E4 := Lib.hid ((fun (V : World) (h : Below W.heap.size W V) => MadeAt.new V (.cells #[.int .i64 0, .int .i64 0, .int .i64 0, .int .i64 0, .slice none 0 0] 83)) _ HC.out)
        have P4 := Lib.hid HC.out.size
        have N45 := Lib.hid (Nat.ne_of_gt E5.out.lt)
        replace E5 := Lib.hid (E5.out.below ((Below.refl _ _).alloc (Nat.le_refl _) (.cells #[.int .i64 0, .int .i64 0, .int .i64 0, .int .i64 0, .slice none 0 0] 83)))
        replace HC := Lib.hid (HC.out.alloc HC.out.size (.cells #[.int .i64 0, .int .i64 0, .int .i64 0, .int .i64 0, .slice none 0 0] 83))
        go_simp
        refine hK.out _ _ (KS.out _ HC.out) (fun hHeld => ?_)
        clear hK K
        try simp only [Act.put, List.setIfInBounds_toArray, List.set_cons_zero, List.set_cons_succ]
        generalize hV4 : V5.alloc (.cells #[.int .i64 0, .int .i64 0, .int .i64 0, .int .i64 0, .slice none 0 0] 83) = V4 at *
        clear hV4
        refine wpAnyH_ready (rs := [1]) (by kernel_rfl) (by simp) ?_
        refine AllReadyH.cons (o := { dst := some 12, op := Op.call { callee := Callee.value (Operand.func 60), args := #[Operand.tmp 11], argTypes := #[29] }, type := 83, pos := "l12_discs.go:246", after := #[{ on := 0, ground := Ground.data }], guard := none }) rfl (fun K hK => ?_) AllReadyH.nil
        go_simp
        go_at_call 60; refine (SX.out _).mono ?_; rintro e w2 ⟨rfl, hb2⟩; replace HC := Lib.hid (HC.out.trans (hb2.mono HC.out.size)); (try (replace E4 := Lib.hid (E4.out.below hb2))); (try (replace E5 := Lib.hid (E5.out.below hb2)))
        go_wp2_with fail
        refine hK.out _ _ (KS.out _ HC.out) (fun hHeld => ?_)
        clear hK K
        try simp only [Act.put, List.setIfInBounds_toArray, List.set_cons_zero, List.set_cons_succ]
        refine wpAnyH_ready (rs := [3]) (by kernel_rfl) (by simp) ?_
        refine AllReadyH.cons (o := { dst := some 14, op := Op.call { callee := Callee.value (Operand.func 60), args := #[Operand.tmp 13], argTypes := #[29] }, type := 83, pos := "l12_discs.go:246", after := #[{ on := 2, ground := Ground.data }, { on := 1, ground := Ground.chain }], guard := none }) rfl (fun K hK => ?_) AllReadyH.nil
        go_simp
        go_at_call 60; refine (SY.out _).mono ?_; rintro e w3 ⟨rfl, hb3⟩; replace HC := Lib.hid (HC.out.trans (hb3.mono HC.out.size)); (try (replace E4 := Lib.hid (E4.out.below hb3))); (try (replace E5 := Lib.hid (E5.out.below hb3)))
        go_wp2_with fail
        refine hK.out _ _ (KS.out _ HC.out) (fun hHeld => ?_)
        clear hK K
        try simp only [Act.put, List.setIfInBounds_toArray, List.set_cons_zero, List.set_cons_succ]
        refine wpAnyH_ready (rs := [6]) (by kernel_rfl) (by simp) ?_
        refine AllReadyH.cons (o := { dst := none, op := Op.store 83 (Operand.tmp 6) (Operand.tmp 12), type := 0, pos := "l12_discs.go:246", after := #[{ on := 4, ground := Ground.data }, { on := 1, ground := Ground.data }, { on := 3, ground := Ground.chain }, { on := 0, ground := Ground.phase }, { on := 1, ground := Ground.phase }, { on := 2, ground := Ground.textOnly Departure.lateStores }, { on := 3, ground := Ground.textOnly Departure.lateStoresUnsure }, { on := 4, ground := Ground.phase }, { on := 5, ground := Ground.phase }], guard := none }) rfl (fun K hK => ?_) AllReadyH.nil
        have n45 := N45.out
        have n54 := fun h => N45.out (Eq.symm h)
        obtain ⟨qa0, qb0⟩ := E4.out.at 0 rfl
        obtain ⟨qa1, qb1⟩ := E4.out.at 1 rfl
        obtain ⟨qa2, qb2⟩ := E4.out.at 2 rfl
        obtain ⟨qa3, qb3⟩ := E4.out.at 3 rfl
        obtain ⟨qa4, qb4⟩ := E4.out.at 4 rfl
        obtain ⟨ra0, rb0⟩ := E5.out.at 0 rfl
        obtain ⟨ra1, rb1⟩ := E5.out.at 1 rfl
        obtain ⟨ra2, rb2⟩ := E5.out.at 2 rfl
        obtain ⟨ra3, rb3⟩ := E5.out.at 3 rfl
        obtain ⟨ra4, rb4⟩ := E5.out.at 4 rfl
        go_simp
        refine hK.out _ _ (KS.out _ (((((HC.out.setCell P4.out _).setCell P4.out _).setCell P4.out _).setCell P4.out _).setCell P4.out _)) (fun hHeld => ?_)
        clear hK K
        try simp only [Act.put, List.setIfInBounds_toArray, List.set_cons_zero, List.set_cons_succ]
        refine wpAnyH_ready (rs := [7]) (by kernel_rfl) (by simp) ?_
        refine AllReadyH.cons (o := { dst := none, op := Op.store 83 (Operand.tmp 7) (Operand.tmp 14), type := 0, pos := "l12_discs.go:246", after := #[{ on := 5, ground := Ground.data }, { on := 3, ground := Ground.data }, { on := 6, ground := Ground.chain }, { on := 0, ground := Ground.phase }, { on := 1, ground := Ground.phase }, { on := 2, ground := Ground.phase }, { on := 3, ground := Ground.phase }, { on := 4, ground := Ground.phase }, { on := 5, ground := Ground.phase }, { on := 6, ground := Ground.phase }], guard := none }) rfl (fun K hK => ?_) AllReadyH.nil
        go_simp
        refine hK.out _ _ (KS.out _ ((((((((((HC.out.setCell P4.out _).setCell P4.out _).setCell P4.out _).setCell P4.out _).setCell P4.out _).setCell P5.out _).setCell P5.out _).setCell P5.out _).setCell P5.out _).setCell P5.out _)) (fun hHeld => ?_)
        clear hK K
        try simp only [Act.put, List.setIfInBounds_toArray, List.set_cons_zero, List.set_cons_succ]
        refine wpAnyH_done (by kernel_rfl) ?_ _
        go_wp2_with fail
        go_meet
        case rel => exact Lib.hid ⟨TwoIn.mk5 N45.out P4.out P5.out E4.out E5.out, ((((((((((HC.out.setCell P4.out _).setCell P4.out _).setCell P4.out _).setCell P4.out _).setCell P4.out _).setCell P5.out _).setCell P5.out _).setCell P5.out _).setCell P5.out _).setCell P5.out _)⟩
  obtain ⟨⟨p, q, rfl, rfl, hp, hq, hpq, hpl, hql, bP, bQ⟩, hbc⟩ := hcut.out
  clear hcut bX bY SX SY
  have FC := Lib.hid (FB.out.trans (hbc.mono (by omega)))
  have FN := FC.out.size
  clear FB hbc
  by_cases hdx : discB (⟨f0, f1, f2, f3, fs⟩ : DiscV) = true
  case neg =>
    have E1 := Lib.hid (show chgV (⟨f0, f1, f2, f3, fs⟩ : DiscV) (⟨g0, g1, g2, g3, gs⟩ : DiscV) = [] by unfold chgV; rw [if_neg hdx])
    have E2 := Lib.hid (show chgC (⟨f0, f1, f2, f3, fs⟩ : DiscV) (⟨g0, g1, g2, g3, gs⟩ : DiscV) = 1 by unfold chgC; rw [if_neg hdx])
    have hdf : discB (⟨f0, f1, f2, f3, fs⟩ : DiscV) = false := by simpa using hdx
    have vx := VX.out
    rw [hdf] at vx
    have VXH := Lib.hid vx
    clear vx hdx hdf VX VY
    obtain ⟨xP0, yP0⟩ := bP 0 _ rfl
    obtain ⟨xP1, yP1⟩ := bP 1 _ rfl
    obtain ⟨xP2, yP2⟩ := bP 2 _ rfl
    obtain ⟨xP3, yP3⟩ := bP 3 _ rfl
    obtain ⟨xP4, yP4⟩ := bP 4 _ rfl
    go_wp2_with fail
    refine (VXH.out _ FC.out).mono ?_
    rintro e w2 ⟨rfl, hb2⟩
    have FC2 := Lib.hid (FC.out.trans (hb2.mono FN))
    clear hb2
    go_wp2
    go_ret2
    rw [E1.out, E2.out]
    exact ⟨none, 0, rfl, .inl rfl, FC2.out⟩
  have vx := VX.out
  rw [hdx] at vx
  have VXH := Lib.hid vx
  clear vx VX
  have hl1 := HX.out hdx
  have bQ1 := Lib.hid (fun w' (hb : Below wc.heap.size wc w') => bQ.below hb hql)
  have bP1 := Lib.hid (fun w' (hb : Below wc.heap.size wc w') => bP.below hb hpl)
  obtain ⟨xP0, yP0⟩ := bP 0 _ rfl
  obtain ⟨xP1, yP1⟩ := bP 1 _ rfl
  obtain ⟨xP2, yP2⟩ := bP 2 _ rfl
  obtain ⟨xP3, yP3⟩ := bP 3 _ rfl
  obtain ⟨xP4, yP4⟩ := bP 4 _ rfl
  go_wp2_with fail
  refine (VXH.out _ FC.out).mono ?_
  rintro e w2 ⟨rfl, hb2⟩
  clear xP0 yP0 xP1 yP1 xP2 yP2 xP3 yP3 xP4 yP4
  have FC2 := Lib.hid (FC.out.trans (hb2.mono FN))
  by_cases hdy : discB (⟨g0, g1, g2, g3, gs⟩ : DiscV) = true
  case neg =>
    have E1 := Lib.hid (show chgV (⟨f0, f1, f2, f3, fs⟩ : DiscV) (⟨g0, g1, g2, g3, gs⟩ : DiscV) = [] by unfold chgV; rw [if_pos hdx, if_neg hdy])
    have E2 := Lib.hid (show chgC (⟨f0, f1, f2, f3, fs⟩ : DiscV) (⟨g0, g1, g2, g3, gs⟩ : DiscV) = 1 by unfold chgC; rw [if_pos hdx, if_neg hdy])
    have hdf : discB (⟨g0, g1, g2, g3, gs⟩ : DiscV) = false := by simpa using hdy
    have vy := VY.out
    rw [hdf] at vy
    have VYH := Lib.hid vy
    clear vy hdx hdy hdf VY VXH
    obtain ⟨xQ0, yQ0⟩ := (bQ1.out _ hb2) 0 _ rfl
    obtain ⟨xQ1, yQ1⟩ := (bQ1.out _ hb2) 1 _ rfl
    obtain ⟨xQ2, yQ2⟩ := (bQ1.out _ hb2) 2 _ rfl
    obtain ⟨xQ3, yQ3⟩ := (bQ1.out _ hb2) 3 _ rfl
    obtain ⟨xQ4, yQ4⟩ := (bQ1.out _ hb2) 4 _ rfl
    go_wp2_with fail
    refine (VYH.out _ FC2.out).mono ?_
    rintro e w3 ⟨rfl, hb3⟩
    have FC3 := Lib.hid (FC2.out.trans (hb3.mono FC2.out.size))
    clear hb2 hb3
    go_wp2
    go_ret2
    rw [E1.out, E2.out]
    exact ⟨none, 0, rfl, .inl rfl, FC3.out⟩
  have vy := VY.out
  rw [hdy] at vy
  have VYH := Lib.hid vy
  clear vy VY
  have hl2 := HY.out hdy
  obtain ⟨xQ0, yQ0⟩ := (bQ1.out _ hb2) 0 _ rfl
  obtain ⟨xQ1, yQ1⟩ := (bQ1.out _ hb2) 1 _ rfl
  obtain ⟨xQ2, yQ2⟩ := (bQ1.out _ hb2) 2 _ rfl
  obtain ⟨xQ3, yQ3⟩ := (bQ1.out _ hb2) 3 _ rfl
  obtain ⟨xQ4, yQ4⟩ := (bQ1.out _ hb2) 4 _ rfl
  go_wp2_with fail
  refine (VYH.out _ FC2.out).mono ?_
  rintro e w3 ⟨rfl, hb3⟩
  clear xQ0 yQ0 xQ1 yQ1 xQ2 yQ2 xQ3 yQ3 xQ4 yQ4
  have FC3 := Lib.hid (FC2.out.trans (hb3.mono FC2.out.size))
  have HC3 := Lib.hid (show Below wc.heap.size wc w3 from hb2.trans (hb3.mono hb2.size))
  have bQ3 := Lib.hid (bQ1.out _ HC3.out)
  have hql3 : q < w3.heap.size := Nat.lt_of_lt_of_le hql HC3.out.size
  obtain ⟨xP0, yP0⟩ := (bP1.out _ HC3.out) 0 _ rfl
  obtain ⟨xP1, yP1⟩ := (bP1.out _ HC3.out) 1 _ rfl
  obtain ⟨xP2, yP2⟩ := (bP1.out _ HC3.out) 2 _ rfl
  obtain ⟨xP3, yP3⟩ := (bP1.out _ HC3.out) 3 _ rfl
  obtain ⟨xP4, yP4⟩ := (bP1.out _ HC3.out) 4 _ rfl
  obtain ⟨xQ0, yQ0⟩ := bQ3.out 0 _ rfl
  obtain ⟨xQ1, yQ1⟩ := bQ3.out 1 _ rfl
  obtain ⟨xQ2, yQ2⟩ := bQ3.out 2 _ rfl
  obtain ⟨xQ3, yQ3⟩ := bQ3.out 3 _ rfl
  obtain ⟨xQ4, yQ4⟩ := bQ3.out 4 _ rfl
  clear hb2 hb3 VXH VYH bP bQ
  have ng := fun w => neqGeo f0 f1 f2 f3 g0 g1 g2 g3 w
  cases hg : sameGeo f0 f1 f2 f3 g0 g1 g2 g3 with
  | false =>
    have E1 := Lib.hid (show chgV (⟨f0, f1, f2, f3, fs⟩ : DiscV) (⟨g0, g1, g2, g3, gs⟩ : DiscV) = [] by unfold chgV; rw [if_pos hdx, if_pos hdy]; simp [hg])
    have E2 := Lib.hid (show chgC (⟨f0, f1, f2, f3, fs⟩ : DiscV) (⟨g0, g1, g2, g3, gs⟩ : DiscV) = 6 by unfold chgC; rw [if_pos hdx, if_pos hdy]; simp [hg])
    rw [hg] at ng
    simp only [Bool.not_false] at ng
    clear hg hdx hdy
    go_wp2
    go_ret2
    rw [E1.out, E2.out]
    exact ⟨none, 0, rfl, .inl rfl, FC3.out⟩
  | true =>
  have E1 := Lib.hid (show chgV (⟨f0, f1, f2, f3, fs⟩ : DiscV) (⟨g0, g1, g2, g3, gs⟩ : DiscV) = diffs fs gs fs.length by unfold chgV; rw [if_pos hdx, if_pos hdy]; simp [hg])
  have E2 := Lib.hid (show chgC (⟨f0, f1, f2, f3, fs⟩ : DiscV) (⟨g0, g1, g2, g3, gs⟩ : DiscV) = 0 by unfold chgC; rw [if_pos hdx, if_pos hdy]; simp [hg])
  have HLEN := Lib.hid (show fs.length = gs.length from disc_len_geo hdx hdy hg)
  rw [hg] at ng
  simp only [Bool.not_true] at ng
  clear hg hdx hdy HX HY
  go_wp2
  clear xP0 yP0 xP1 yP1 xP2 yP2 xP3 yP3 xP4 yP4
  clear xQ0 yQ0 xQ1 yQ1 xQ2 yQ2 xQ3 yQ3 xQ4 yQ4
  clear ng
  have FN3 := FC3.out.size
  go_loopw [8, 31] (fun v i wr => ∃ k : Nat, k ≤ fs.length ∧ i = .int .i64 k ∧ OwnI wr w3.heap.size v (diffs fs gs k) ∧ Below w3.heap.size w3 wr) (fun _ i _ => fs.length - (intOf i).toNat)
  case atStart => exact ⟨0, Nat.zero_le _, rfl, OwnI.nil _ _, Below.refl _ _⟩
  case round =>
    obtain ⟨k, hk, rfl, hown, hb⟩ := hrel
    have FBR := Lib.hid (FC3.out.trans (hb.mono FN3))
    have hz := hb.size
    by_cases hlt : k < fs.length
    · have hly : k < gs.length := by have := HLEN.out; omega
      have hll := diffs_len fs gs k
      obtain ⟨u, hxk⟩ : ∃ e, fs[k]? = some e := ⟨fs[k], by simp [hlt]⟩
      obtain ⟨v, hyk⟩ : ∃ e, gs[k]? = some e := ⟨gs[k], by simp [hly]⟩
      obtain ⟨bx, ox, rfl, hlx, hcx⟩ := (EL1.out _ FBR.out).at rowSector_len hxk
      obtain ⟨b2, o2, rfl, hly2, hcy⟩ := (EL2.out _ FBR.out).at rowSector_len hyk
      have c0 : wr.cell? ⟨bx, ox + k * 2, none⟩ = some (.string u.f0) := hcx 0 _ rfl
      have c1 : wr.cell? ⟨bx, ox + k * 2 + 1, none⟩ = some (.int .i64 u.f1) := hcx 1 _ rfl
      have d0 : wr.cell? ⟨b2, o2 + k * 2, none⟩ = some (.string v.f0) := hcy 0 _ rfl
      have d1 : wr.cell? ⟨b2, o2 + k * 2 + 1, none⟩ = some (.int .i64 v.f1) := hcy 1 _ rfl
      have q4 := (bQ3.out.below hb hql3 4 _ rfl).1
      have hqr : q < wr.heap.size := by omega
      have HXK := Lib.hid hxk; have HYK := Lib.hid hyk; clear hxk hyk hcx hcy
      have e1 : (k : Int) < fs.length := by omega
      have e2 : (k : Int) < gs.length := by omega
      have ngs := fun w => neqSector u v w
      cases hsm : sameSector u v with
      | true =>
        have HD := Lib.hid (diffs_same HXK.out HYK.out hsm)
        rw [hsm] at ngs
        simp only [Bool.not_true] at ngs
        clear hsm
        generalize diffs fs gs k = l at *
        go_wp2
        go_quiet (fail)
        go_wp2
        go_roundw
        case rel => exact ⟨k + 1, by omega, by go_num, by rw [HD.out]; exact hown.alloc _, below_drewN' (hb.alloc hz _) _⟩
        case measure => simp [intOf]; omega
      | false =>
        have HD := Lib.hid (diffs_not HXK.out HYK.out hsm)
        rw [hsm] at ngs
        simp only [Bool.not_false] at ngs
        clear hsm
        generalize diffs fs gs k = l at *
        have hll2 : l.length < 1073741824 := by omega
        go_wp2
        go_quiet (fail)
        have hownQ : OwnI ((wr.alloc (.cells #[.string u.f0, .int .i64 u.f1] 41)).drewN nq) w3.heap.size _ l := hown.alloc _
        have hbQ := below_drewN' (hb.alloc hz (.cells #[.string u.f0, .int .i64 u.f1] 41)) nq
        generalize (wr.alloc (.cells #[.string u.f0, .int .i64 u.f1] 41)).drewN nq = wq at *
        have hzq := hbQ.size
        go_wp2_with (at_builtin; refine wpList_appendI 51 Try.underlying51 rfl _ _ rfl rfl (hownQ.alloc _) (k : Int) ⟨wq.heap.size, 0, none⟩ 1 rfl (World.news_of_block (cs := #[.int .i64 (k : Int)]) (t := 2) (fr := (0, 0)) (heap_alloc_new wq _)) hll2 (by simp; omega) ?_; intro g cap w5 hown5 hb5 _)
        go_roundw
        case rel => exact ⟨k + 1, by omega, by go_num, by rw [HD.out]; simpa using hown5, (hbQ.alloc hzq _).trans hb5⟩
        case measure => simp [intOf]; omega
    · obtain rfl : k = fs.length := by omega
      have e1 : ¬ ((fs.length : Nat) : Int) < fs.length := by omega
      obtain ⟨a1, c1, rfl, hs1⟩ := hown.slO
      go_wp2
      go_ret2
      rw [E1.out, E2.out]
      exact ⟨a1, c1, rfl, hs1.mono FN3, FBR.out⟩
end Go.Proofs.Ytpcfhfnlpcpofaa
