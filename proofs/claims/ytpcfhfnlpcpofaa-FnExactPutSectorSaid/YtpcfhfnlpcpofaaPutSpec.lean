/- spec.PutSector -/
import Derived.Test.YtpcfhfnlpcpofaaPutSector
namespace Go.Proofs.Ytpcfhfnlpcpofaa
open Go.RowKit
set_option linter.unusedVariables false
set_option linter.unusedSimpArgs false
set_option maxRecDepth 20000
set_option maxHeartbeats 8000000 in
theorem specPutSector_g (x : DiscV) (a : Option Addr) (c : Nat) (i : Int) (s : SectorV) (hm : x.f4.length ≤ 1048576) (hs : ∀ e ∈ x.f4, e.f0.size ≤ 1048576) (hss : s.f0.size ≤ 1048576) (w : World) (h : SlS rowSector w a x.f4) :
    Calls Try.prog 32 #[.agg #[.int .i64 x.f0, .int .i64 x.f1, .int .i64 x.f2, .int .i64 x.f3, .slice a x.f4.length c], .int .i64 i, .agg #[.string s.f0, .int .i64 s.f1]] w (DiscRes (putV x i s) (putC x i s) w) := by
  have hs2 : ∀ e ∈ x.f4, e.f0.size ≤ maxLen := fun e he => by have := hs e he; unfold maxLen; omega
  have hss2 : s.f0.size ≤ maxLen := by unfold maxLen; omega
  have ELS := Lib.hid (fun w' (hb : Below w.heap.size w w') => h.below hb (Nat.le_refl _))
  have va := fun w' (hb : Below w.heap.size w w') hp => l12Ok_any x a c w.heap.size w' hm hs2 hp (h.below hb (Nat.le_refl _))
  unfold putC putV
  by_cases hd0 : discB x = true
  case neg =>
    have hdf : discB x = false := by simpa using hd0
    rw [hdf] at va
    rw [if_neg hd0, if_neg hd0]
    have OK := Lib.hid va
    obtain ⟨f0, f1, f2, f3, es⟩ := x
    dsimp only at *
    clear hd0 hdf va h hs hs2
    go_enter Try.func32, Try.ntmps32
    go_wp2
    have bD : BoxF (((w.alloc (.cells #[.int .i64 f0, .int .i64 f1, .int .i64 f2, .int .i64 f3, .slice a es.length c] 29)).alloc (.cells #[.string s.f0, .int .i64 s.f1] 41)).alloc (.cells #[.int .i64 0, .int .i64 0, .int .i64 0, .int .i64 0, .slice none 0 0] 29)) w.heap.size #[.int .i64 f0, .int .i64 f1, .int .i64 f2, .int .i64 f3, .slice a es.length c] := boxF5 (by simp [go_sem]) (by simp [go_sem]) (by simp [go_sem]) (by simp [go_sem]) (by simp [go_sem])
    have bS : BoxF (((w.alloc (.cells #[.int .i64 f0, .int .i64 f1, .int .i64 f2, .int .i64 f3, .slice a es.length c] 29)).alloc (.cells #[.string s.f0, .int .i64 s.f1] 41)).alloc (.cells #[.int .i64 0, .int .i64 0, .int .i64 0, .int .i64 0, .slice none 0 0] 29)) (w.heap.size + 1) #[.string s.f0, .int .i64 s.f1] := boxF2 (by simp [go_sem]) (by simp [go_sem])
    have bR : BoxF (((w.alloc (.cells #[.int .i64 f0, .int .i64 f1, .int .i64 f2, .int .i64 f3, .slice a es.length c] 29)).alloc (.cells #[.string s.f0, .int .i64 s.f1] 41)).alloc (.cells #[.int .i64 0, .int .i64 0, .int .i64 0, .int .i64 0, .slice none 0 0] 29)) (w.heap.size + 2) #[.int .i64 0, .int .i64 0, .int .i64 0, .int .i64 0, .slice none 0 0] := boxF5 (by simp [go_sem]) (by simp [go_sem]) (by simp [go_sem]) (by simp [go_sem]) (by simp [go_sem])
    generalize hW : (((w.alloc (.cells #[.int .i64 f0, .int .i64 f1, .int .i64 f2, .int .i64 f3, .slice a es.length c] 29)).alloc (.cells #[.string s.f0, .int .i64 s.f1] 41)).alloc (.cells #[.int .i64 0, .int .i64 0, .int .i64 0, .int .i64 0, .slice none 0 0] 29)) = W at *
    have FB := Lib.hid (show Below w.heap.size w W by rw [← hW]; go_grown)
    have hlt : w.heap.size + 2 < W.heap.size := by rw [← hW]; simp
    have hlt1 : w.heap.size + 1 < W.heap.size := by omega
    have hlt0 : w.heap.size < W.heap.size := by omega
    clear hW
    have BXD := Lib.hid (fun w' (hb : Below W.heap.size W w') => (bD.below hb hlt0).box)
    have BXS := Lib.hid (fun w' (hb : Below W.heap.size W w') => bS.below hb hlt1)
    have BXR := Lib.hid (fun w' (hb : Below W.heap.size W w') => bR.below hb hlt)
    have KS := Lib.hid (fun w' (hb : Below W.heap.size W w') => (show w'.cell? ⟨w.heap.size, 3, none⟩ = some (.int .i64 f3) ∧ w'.cell? ⟨w.heap.size + 1, 0, none⟩ = some (.string s.f0) ∧ w'.cell? ⟨w.heap.size + 1, 1, none⟩ = some (.int .i64 s.f1) from ⟨BXD.out w' hb 3 _ rfl, (BXS.out w' hb 0 _ rfl).1, (BXS.out w' hb 1 _ rfl).1⟩))
    have HC := Lib.hid (show Below W.heap.size W W.drew from (Below.refl _ _).drew)
    clear bD bS bR
    refine wp_region_held_drew (S := (fun w' => w'.cell? ⟨w.heap.size, 3, none⟩ = some (.int .i64 f3) ∧ w'.cell? ⟨w.heap.size + 1, 0, none⟩ = some (.string s.f0) ∧ w'.cell? ⟨w.heap.size + 1, 1, none⟩ = some (.int .i64 s.f1))) (by kernel_rfl) (KS.out _ HC.out) (fun hHeld => ?_)
    refine wpAnyH_ready (rs := [0]) (by kernel_rfl) (by simp) ?_
    refine AllReadyH.cons (o := { dst := some 9, op := Op.call { callee := Callee.value (Operand.func 58), args := #[Operand.tmp 3], argTypes := #[78] }, type := 4, pos := "l12_discs.go:91", after := #[], guard := none }) rfl (fun K hK => ?_) AllReadyH.nil
    go_simp
    go_at_call 58; refine (OK.out _ (FB.out.trans (HC.out.mono FB.out.size)) (BXD.out _ HC.out)).mono ?_; rintro e w1 ⟨rfl, hb1⟩; replace HC := Lib.hid (HC.out.trans (hb1.mono HC.out.size))
    go_wp2_with fail
    refine hK.out _ _ (KS.out _ HC.out) (fun hHeld => ?_)
    clear hK K
    try simp only [Act.put, List.setIfInBounds_toArray, List.set_cons_zero, List.set_cons_succ]
    refine wpAnyH_take (i := 1) (oi := { dst := some 10, op := Op.unOp UnOp.not 4 (Operand.tmp 9), type := 4, pos := "l12_discs.go:91", after := #[{ on := 0, ground := Ground.data }], guard := none }) (v := ?_) rfl (by kernel_rfl) (by kernel_rfl) (by kernel_rfl) (fun _ _ _ h => h) (Or.inl ⟨by rfl, ?hy⟩) hHeld ?_
    case hy => (intro w' hSw; (try dsimp only at hSw); go_simp; try with_reducible rfl)
    simp only [Act.put, List.setIfInBounds_toArray, List.set_cons_zero, List.set_cons_succ]
    refine wpAnyH_take (i := 2) (oi := { dst := some 11, op := Op.move (Operand.tmp 10), type := 4, pos := "l12_discs.go:91", after := #[{ on := 1, ground := Ground.data }, { on := 0, ground := Ground.chain }], guard := none }) (v := ?_) rfl (by kernel_rfl) (by kernel_rfl) (by kernel_rfl) (fun _ _ _ h => h) (Or.inl ⟨by rfl, ?hy⟩) hHeld ?_
    case hy => (intro w' hSw; (try dsimp only at hSw); go_simp; try with_reducible rfl)
    simp only [Act.put, List.setIfInBounds_toArray, List.set_cons_zero, List.set_cons_succ]
    refine wpAnyH_take (i := 3) (oi := { dst := some 12, op := Op.load 41 (Operand.tmp 5), type := 41, pos := "l12_discs.go:91", after := #[{ on := 2, ground := Ground.guard }], guard := some (2, false) }) (v := undef) rfl (by kernel_rfl) (by kernel_rfl) (by kernel_rfl) (fun _ _ _ h => h) (Or.inr ⟨by rfl, rfl⟩) hHeld ?_
    simp only [Act.put, List.setIfInBounds_toArray, List.set_cons_zero, List.set_cons_succ]
    refine wpAnyH_take (i := 4) (oi := { dst := some 13, op := Op.fieldAddr 29 (Operand.tmp 3) 3, type := 0, pos := "l12_discs.go:91", after := #[{ on := 2, ground := Ground.guard }], guard := some (2, false) }) (v := undef) rfl (by kernel_rfl) (by kernel_rfl) (by kernel_rfl) (fun _ _ _ h => h) (Or.inr ⟨by rfl, rfl⟩) hHeld ?_
    simp only [Act.put, List.setIfInBounds_toArray, List.set_cons_zero, List.set_cons_succ]
    refine wpAnyH_take (i := 5) (oi := { dst := some 14, op := Op.load 2 (Operand.tmp 13), type := 2, pos := "l12_discs.go:91", after := #[{ on := 4, ground := Ground.data }, { on := 2, ground := Ground.guard }], guard := some (2, false) }) (v := undef) rfl (by kernel_rfl) (by kernel_rfl) (by kernel_rfl) (fun _ _ _ h => h) (Or.inr ⟨by rfl, rfl⟩) hHeld ?_
    simp only [Act.put, List.setIfInBounds_toArray, List.set_cons_zero, List.set_cons_succ]
    refine wpAnyH_take (i := 6) (oi := { dst := some 15, op := Op.call { callee := Callee.value (Operand.func 75), args := #[Operand.tmp 14], argTypes := #[2] }, type := 2, pos := "l12_discs.go:91", after := #[{ on := 5, ground := Ground.data }, { on := 2, ground := Ground.chain }, { on := 2, ground := Ground.guard }], guard := some (2, false) }) (v := undef) rfl (by kernel_rfl) (by kernel_rfl) (by kernel_rfl) (fun _ _ _ h => h) (Or.inr ⟨by rfl, rfl⟩) hHeld ?_
    simp only [Act.put, List.setIfInBounds_toArray, List.set_cons_zero, List.set_cons_succ]
    refine wpAnyH_take (i := 7) (oi := { dst := some 16, op := Op.call { callee := Callee.value (Operand.func 81), args := #[Operand.tmp 12, Operand.tmp 15], argTypes := #[41, 2] }, type := 4, pos := "l12_discs.go:91", after := #[{ on := 3, ground := Ground.data }, { on := 6, ground := Ground.data }, { on := 6, ground := Ground.chain }, { on := 2, ground := Ground.guard }], guard := some (2, false) }) (v := undef) rfl (by kernel_rfl) (by kernel_rfl) (by kernel_rfl) (fun _ _ _ h => h) (Or.inr ⟨by rfl, rfl⟩) hHeld ?_
    simp only [Act.put, List.setIfInBounds_toArray, List.set_cons_zero, List.set_cons_succ]
    refine wpAnyH_take (i := 8) (oi := { dst := some 17, op := Op.unOp UnOp.not 4 (Operand.tmp 16), type := 4, pos := "l12_discs.go:91", after := #[{ on := 7, ground := Ground.data }, { on := 2, ground := Ground.guard }], guard := some (2, false) }) (v := undef) rfl (by kernel_rfl) (by kernel_rfl) (by kernel_rfl) (fun _ _ _ h => h) (Or.inr ⟨by rfl, rfl⟩) hHeld ?_
    simp only [Act.put, List.setIfInBounds_toArray, List.set_cons_zero, List.set_cons_succ]
    refine wpAnyH_take (i := 9) (oi := { dst := some 18, op := Op.pick (Operand.tmp 11) (Operand.const (Value.bool true)) (Operand.tmp 17), type := 4, pos := "l12_discs.go:91", after := #[{ on := 2, ground := Ground.data }, { on := 8, ground := Ground.data }], guard := none }) (v := ?_) rfl (by kernel_rfl) (by kernel_rfl) (by kernel_rfl) (fun _ _ _ h => h) (Or.inl ⟨by rfl, ?hy⟩) hHeld ?_
    case hy => (intro w' hSw; (try dsimp only at hSw); go_simp; try with_reducible rfl)
    simp only [Act.put, List.setIfInBounds_toArray, List.set_cons_zero, List.set_cons_succ]
    refine wpAnyH_done (by kernel_rfl) ?_ _
    obtain ⟨xR0, yR0⟩ := BXR.out _ HC.out 0 _ rfl
    obtain ⟨xR1, yR1⟩ := BXR.out _ HC.out 1 _ rfl
    obtain ⟨xR2, yR2⟩ := BXR.out _ HC.out 2 _ rfl
    obtain ⟨xR3, yR3⟩ := BXR.out _ HC.out 3 _ rfl
    obtain ⟨xR4, yR4⟩ := BXR.out _ HC.out 4 _ rfl
    go_wp2
    refine bodyPost_ret (v := .tuple #[.agg #[.int .i64 0, .int .i64 0, .int .i64 0, .int .i64 0, .slice none 0 0], .int .i64 1]) (by simp [results, Try.results32, go_sem, xR0, yR0, xR1, yR1, xR2, yR2, xR3, yR3, xR4, yR4]) rfl ⟨none, 0, rfl, .inl rfl, ?_⟩
    have FBZ := FB.out.trans (HC.out.mono FB.out.size)
    have hzR := Nat.lt_of_lt_of_le hlt HC.out.size
    exact (((((FBZ).setCell (by simp <;> omega) _).setCell (by simp <;> omega) _).setCell (by simp <;> omega) _).setCell (by simp <;> omega) _).setCell (by simp <;> omega) _
  have hdd := hd0
  rw [hd0] at va
  rw [if_pos hd0, if_pos hd0]
  have OK := Lib.hid va
  have hl128 := discB_len hd0
  unfold discB at hdd
  simp only [Bool.and_eq_true, decide_eq_true_eq] at hdd
  obtain ⟨hg, hln, _⟩ := hdd
  obtain ⟨g0, g1, g2, g3⟩ := geoB_iff.1 hg
  obtain ⟨m0, _, _, _⟩ := mul_bound g0 g1 g2
  have hz : inB 0 2 x.f3 = true := inB_iff.2 g3
  obtain ⟨n, hn1, hn2, hn3⟩ := secN_three hz
  rw [hn2]
  have hne : x.f4 ≠ [] := by intro e0; rw [e0] at hln; simp at hln; omega
  have BY := Lib.hid (fun w => l12Bytes_any x.f3 n w hz hn1)
  have ls := fun w => l12Sector_any s n w hss2 (by omega)
  have PL := fun w => l00In_any i 0 ((x.f4.length : Int) - 1) w
  have hwr : wrap64 ((x.f4.length : Int) - 1) = (x.f4.length : Int) - 1 := by unfold wrap64; omega
  have ow := fun w' (hb : Below w.heap.size w w') hp => l12Own_any x a c w.heap.size w' hm hne hp (ELS.out w' hb)
  obtain ⟨f0, f1, f2, f3, es⟩ := x
  dsimp only at *
  have OW := Lib.hid ow
  clear hd0 va h hg hs hs2 g0 g1 g2 g3 hz hn1 hn2 hn3 m0 hln ow
  by_cases hok : secOkB n s = true
  case neg =>
    have hof : secOkB n s = false := by simpa using hok
    rw [hof] at ls
    rw [if_neg hok, if_neg hok]
    have LS := Lib.hid ls
    have PLH := Lib.hid PL
    clear hok hof ls PL
    go_enter Try.func32, Try.ntmps32
    go_wp2
    have bD : BoxF (((w.alloc (.cells #[.int .i64 f0, .int .i64 f1, .int .i64 f2, .int .i64 f3, .slice a es.length c] 29)).alloc (.cells #[.string s.f0, .int .i64 s.f1] 41)).alloc (.cells #[.int .i64 0, .int .i64 0, .int .i64 0, .int .i64 0, .slice none 0 0] 29)) w.heap.size #[.int .i64 f0, .int .i64 f1, .int .i64 f2, .int .i64 f3, .slice a es.length c] := boxF5 (by simp [go_sem]) (by simp [go_sem]) (by simp [go_sem]) (by simp [go_sem]) (by simp [go_sem])
    have bS : BoxF (((w.alloc (.cells #[.int .i64 f0, .int .i64 f1, .int .i64 f2, .int .i64 f3, .slice a es.length c] 29)).alloc (.cells #[.string s.f0, .int .i64 s.f1] 41)).alloc (.cells #[.int .i64 0, .int .i64 0, .int .i64 0, .int .i64 0, .slice none 0 0] 29)) (w.heap.size + 1) #[.string s.f0, .int .i64 s.f1] := boxF2 (by simp [go_sem]) (by simp [go_sem])
    have bR : BoxF (((w.alloc (.cells #[.int .i64 f0, .int .i64 f1, .int .i64 f2, .int .i64 f3, .slice a es.length c] 29)).alloc (.cells #[.string s.f0, .int .i64 s.f1] 41)).alloc (.cells #[.int .i64 0, .int .i64 0, .int .i64 0, .int .i64 0, .slice none 0 0] 29)) (w.heap.size + 2) #[.int .i64 0, .int .i64 0, .int .i64 0, .int .i64 0, .slice none 0 0] := boxF5 (by simp [go_sem]) (by simp [go_sem]) (by simp [go_sem]) (by simp [go_sem]) (by simp [go_sem])
    generalize hW : (((w.alloc (.cells #[.int .i64 f0, .int .i64 f1, .int .i64 f2, .int .i64 f3, .slice a es.length c] 29)).alloc (.cells #[.string s.f0, .int .i64 s.f1] 41)).alloc (.cells #[.int .i64 0, .int .i64 0, .int .i64 0, .int .i64 0, .slice none 0 0] 29)) = W at *
    have FB := Lib.hid (show Below w.heap.size w W by rw [← hW]; go_grown)
    have hlt : w.heap.size + 2 < W.heap.size := by rw [← hW]; simp
    have hlt1 : w.heap.size + 1 < W.heap.size := by omega
    have hlt0 : w.heap.size < W.heap.size := by omega
    clear hW
    have BXD := Lib.hid (fun w' (hb : Below W.heap.size W w') => (bD.below hb hlt0).box)
    have BXS := Lib.hid (fun w' (hb : Below W.heap.size W w') => bS.below hb hlt1)
    have BXR := Lib.hid (fun w' (hb : Below W.heap.size W w') => bR.below hb hlt)
    have KS := Lib.hid (fun w' (hb : Below W.heap.size W w') => (show w'.cell? ⟨w.heap.size, 3, none⟩ = some (.int .i64 f3) ∧ w'.cell? ⟨w.heap.size + 1, 0, none⟩ = some (.string s.f0) ∧ w'.cell? ⟨w.heap.size + 1, 1, none⟩ = some (.int .i64 s.f1) from ⟨BXD.out w' hb 3 _ rfl, (BXS.out w' hb 0 _ rfl).1, (BXS.out w' hb 1 _ rfl).1⟩))
    have HC := Lib.hid (show Below W.heap.size W W.drew from (Below.refl _ _).drew)
    clear bD bS bR
    refine wp_region_held_drew (S := (fun w' => w'.cell? ⟨w.heap.size, 3, none⟩ = some (.int .i64 f3) ∧ w'.cell? ⟨w.heap.size + 1, 0, none⟩ = some (.string s.f0) ∧ w'.cell? ⟨w.heap.size + 1, 1, none⟩ = some (.int .i64 s.f1))) (by kernel_rfl) (KS.out _ HC.out) (fun hHeld => ?_)
    refine wpAnyH_ready (rs := [0]) (by kernel_rfl) (by simp) ?_
    refine AllReadyH.cons (o := { dst := some 9, op := Op.call { callee := Callee.value (Operand.func 58), args := #[Operand.tmp 3], argTypes := #[78] }, type := 4, pos := "l12_discs.go:91", after := #[], guard := none }) rfl (fun K hK => ?_) AllReadyH.nil
    go_simp
    go_at_call 58; refine (OK.out _ (FB.out.trans (HC.out.mono FB.out.size)) (BXD.out _ HC.out)).mono ?_; rintro e w1 ⟨rfl, hb1⟩; replace HC := Lib.hid (HC.out.trans (hb1.mono HC.out.size))
    go_wp2_with fail
    refine hK.out _ _ (KS.out _ HC.out) (fun hHeld => ?_)
    clear hK K
    try simp only [Act.put, List.setIfInBounds_toArray, List.set_cons_zero, List.set_cons_succ]
    refine wpAnyH_take (i := 1) (oi := { dst := some 10, op := Op.unOp UnOp.not 4 (Operand.tmp 9), type := 4, pos := "l12_discs.go:91", after := #[{ on := 0, ground := Ground.data }], guard := none }) (v := ?_) rfl (by kernel_rfl) (by kernel_rfl) (by kernel_rfl) (fun _ _ _ h => h) (Or.inl ⟨by rfl, ?hy⟩) hHeld ?_
    case hy => (intro w' hSw; (try dsimp only at hSw); go_simp; try with_reducible rfl)
    simp only [Act.put, List.setIfInBounds_toArray, List.set_cons_zero, List.set_cons_succ]
    refine wpAnyH_take (i := 2) (oi := { dst := some 11, op := Op.move (Operand.tmp 10), type := 4, pos := "l12_discs.go:91", after := #[{ on := 1, ground := Ground.data }, { on := 0, ground := Ground.chain }], guard := none }) (v := ?_) rfl (by kernel_rfl) (by kernel_rfl) (by kernel_rfl) (fun _ _ _ h => h) (Or.inl ⟨by rfl, ?hy⟩) hHeld ?_
    case hy => (intro w' hSw; (try dsimp only at hSw); go_simp; try with_reducible rfl)
    simp only [Act.put, List.setIfInBounds_toArray, List.set_cons_zero, List.set_cons_succ]
    refine wpAnyH_take (i := 3) (oi := { dst := some 12, op := Op.load 41 (Operand.tmp 5), type := 41, pos := "l12_discs.go:91", after := #[{ on := 2, ground := Ground.guard }], guard := some (2, false) }) (v := ?_) rfl (by kernel_rfl) (by kernel_rfl) (by kernel_rfl) (fun _ _ _ h => h) (Or.inl ⟨by rfl, ?hy⟩) hHeld ?_
    case hy => (intro w' hSw; (try dsimp only at hSw); go_simp; try with_reducible rfl)
    simp only [Act.put, List.setIfInBounds_toArray, List.set_cons_zero, List.set_cons_succ]
    refine wpAnyH_take (i := 4) (oi := { dst := some 13, op := Op.fieldAddr 29 (Operand.tmp 3) 3, type := 0, pos := "l12_discs.go:91", after := #[{ on := 2, ground := Ground.guard }], guard := some (2, false) }) (v := ?_) rfl (by kernel_rfl) (by kernel_rfl) (by kernel_rfl) (fun _ _ _ h => h) (Or.inl ⟨by rfl, ?hy⟩) hHeld ?_
    case hy => (intro w' hSw; (try dsimp only at hSw); go_simp; try with_reducible rfl)
    simp only [Act.put, List.setIfInBounds_toArray, List.set_cons_zero, List.set_cons_succ]
    refine wpAnyH_take (i := 5) (oi := { dst := some 14, op := Op.load 2 (Operand.tmp 13), type := 2, pos := "l12_discs.go:91", after := #[{ on := 4, ground := Ground.data }, { on := 2, ground := Ground.guard }], guard := some (2, false) }) (v := ?_) rfl (by kernel_rfl) (by kernel_rfl) (by kernel_rfl) (fun _ _ _ h => h) (Or.inl ⟨by rfl, ?hy⟩) hHeld ?_
    case hy => (intro w' hSw; (try dsimp only at hSw); go_simp; try with_reducible rfl)
    simp only [Act.put, List.setIfInBounds_toArray, List.set_cons_zero, List.set_cons_succ]
    refine wpAnyH_ready (rs := [6]) (by kernel_rfl) (by simp) ?_
    refine AllReadyH.cons (o := { dst := some 15, op := Op.call { callee := Callee.value (Operand.func 75), args := #[Operand.tmp 14], argTypes := #[2] }, type := 2, pos := "l12_discs.go:91", after := #[{ on := 5, ground := Ground.data }, { on := 2, ground := Ground.chain }, { on := 2, ground := Ground.guard }], guard := some (2, false) }) rfl (fun K hK => ?_) AllReadyH.nil
    go_simp
    go_at_call 75; refine (BY.out _).mono ?_; rintro e w2 ⟨rfl, rfl⟩
    go_wp2_with fail
    refine hK.out _ _ (KS.out _ HC.out) (fun hHeld => ?_)
    clear hK K
    try simp only [Act.put, List.setIfInBounds_toArray, List.set_cons_zero, List.set_cons_succ]
    refine wpAnyH_ready (rs := [7]) (by kernel_rfl) (by simp) ?_
    refine AllReadyH.cons (o := { dst := some 16, op := Op.call { callee := Callee.value (Operand.func 81), args := #[Operand.tmp 12, Operand.tmp 15], argTypes := #[41, 2] }, type := 4, pos := "l12_discs.go:91", after := #[{ on := 3, ground := Ground.data }, { on := 6, ground := Ground.data }, { on := 6, ground := Ground.chain }, { on := 2, ground := Ground.guard }], guard := some (2, false) }) rfl (fun K hK => ?_) AllReadyH.nil
    go_simp
    go_at_call 81; refine (LS.out _).mono ?_; rintro e w3 ⟨rfl, hb3⟩; replace HC := Lib.hid (HC.out.trans (hb3.mono HC.out.size))
    go_wp2_with fail
    refine hK.out _ _ (KS.out _ HC.out) (fun hHeld => ?_)
    clear hK K
    try simp only [Act.put, List.setIfInBounds_toArray, List.set_cons_zero, List.set_cons_succ]
    refine wpAnyH_take (i := 8) (oi := { dst := some 17, op := Op.unOp UnOp.not 4 (Operand.tmp 16), type := 4, pos := "l12_discs.go:91", after := #[{ on := 7, ground := Ground.data }, { on := 2, ground := Ground.guard }], guard := some (2, false) }) (v := ?_) rfl (by kernel_rfl) (by kernel_rfl) (by kernel_rfl) (fun _ _ _ h => h) (Or.inl ⟨by rfl, ?hy⟩) hHeld ?_
    case hy => (intro w' hSw; (try dsimp only at hSw); go_simp; try with_reducible rfl)
    simp only [Act.put, List.setIfInBounds_toArray, List.set_cons_zero, List.set_cons_succ]
    refine wpAnyH_take (i := 9) (oi := { dst := some 18, op := Op.pick (Operand.tmp 11) (Operand.const (Value.bool true)) (Operand.tmp 17), type := 4, pos := "l12_discs.go:91", after := #[{ on := 2, ground := Ground.data }, { on := 8, ground := Ground.data }], guard := none }) (v := ?_) rfl (by kernel_rfl) (by kernel_rfl) (by kernel_rfl) (fun _ _ _ h => h) (Or.inl ⟨by rfl, ?hy⟩) hHeld ?_
    case hy => (intro w' hSw; (try dsimp only at hSw); go_simp; try with_reducible rfl)
    simp only [Act.put, List.setIfInBounds_toArray, List.set_cons_zero, List.set_cons_succ]
    refine wpAnyH_done (by kernel_rfl) ?_ _
    obtain ⟨xR0, yR0⟩ := BXR.out _ HC.out 0 _ rfl
    obtain ⟨xR1, yR1⟩ := BXR.out _ HC.out 1 _ rfl
    obtain ⟨xR2, yR2⟩ := BXR.out _ HC.out 2 _ rfl
    obtain ⟨xR3, yR3⟩ := BXR.out _ HC.out 3 _ rfl
    obtain ⟨xR4, yR4⟩ := BXR.out _ HC.out 4 _ rfl
    go_wp2
    refine bodyPost_ret (v := .tuple #[.agg #[.int .i64 0, .int .i64 0, .int .i64 0, .int .i64 0, .slice none 0 0], .int .i64 1]) (by simp [results, Try.results32, go_sem, xR0, yR0, xR1, yR1, xR2, yR2, xR3, yR3, xR4, yR4]) rfl ⟨none, 0, rfl, .inl rfl, ?_⟩
    have FBZ := FB.out.trans (HC.out.mono FB.out.size)
    have hzR := Nat.lt_of_lt_of_le hlt HC.out.size
    exact (((((FBZ).setCell (by simp <;> omega) _).setCell (by simp <;> omega) _).setCell (by simp <;> omega) _).setCell (by simp <;> omega) _).setCell (by simp <;> omega) _
  rw [hok] at ls
  rw [if_pos hok, if_pos hok]
  have LS := Lib.hid ls
  clear hok ls
  by_cases hi : inB 0 ((es.length : Int) - 1) i = true
  case neg =>
    have hif : inB 0 ((es.length : Int) - 1) i = false := by simpa using hi
    rw [hif] at PL
    rw [if_neg hi, if_neg hi]
    have PLH := Lib.hid PL
    clear hi hif PL
    go_enter Try.func32, Try.ntmps32
    go_wp2
    have bD : BoxF (((w.alloc (.cells #[.int .i64 f0, .int .i64 f1, .int .i64 f2, .int .i64 f3, .slice a es.length c] 29)).alloc (.cells #[.string s.f0, .int .i64 s.f1] 41)).alloc (.cells #[.int .i64 0, .int .i64 0, .int .i64 0, .int .i64 0, .slice none 0 0] 29)) w.heap.size #[.int .i64 f0, .int .i64 f1, .int .i64 f2, .int .i64 f3, .slice a es.length c] := boxF5 (by simp [go_sem]) (by simp [go_sem]) (by simp [go_sem]) (by simp [go_sem]) (by simp [go_sem])
    have bS : BoxF (((w.alloc (.cells #[.int .i64 f0, .int .i64 f1, .int .i64 f2, .int .i64 f3, .slice a es.length c] 29)).alloc (.cells #[.string s.f0, .int .i64 s.f1] 41)).alloc (.cells #[.int .i64 0, .int .i64 0, .int .i64 0, .int .i64 0, .slice none 0 0] 29)) (w.heap.size + 1) #[.string s.f0, .int .i64 s.f1] := boxF2 (by simp [go_sem]) (by simp [go_sem])
    have bR : BoxF (((w.alloc (.cells #[.int .i64 f0, .int .i64 f1, .int .i64 f2, .int .i64 f3, .slice a es.length c] 29)).alloc (.cells #[.string s.f0, .int .i64 s.f1] 41)).alloc (.cells #[.int .i64 0, .int .i64 0, .int .i64 0, .int .i64 0, .slice none 0 0] 29)) (w.heap.size + 2) #[.int .i64 0, .int .i64 0, .int .i64 0, .int .i64 0, .slice none 0 0] := boxF5 (by simp [go_sem]) (by simp [go_sem]) (by simp [go_sem]) (by simp [go_sem]) (by simp [go_sem])
    generalize hW : (((w.alloc (.cells #[.int .i64 f0, .int .i64 f1, .int .i64 f2, .int .i64 f3, .slice a es.length c] 29)).alloc (.cells #[.string s.f0, .int .i64 s.f1] 41)).alloc (.cells #[.int .i64 0, .int .i64 0, .int .i64 0, .int .i64 0, .slice none 0 0] 29)) = W at *
    have FB := Lib.hid (show Below w.heap.size w W by rw [← hW]; go_grown)
    have hlt : w.heap.size + 2 < W.heap.size := by rw [← hW]; simp
    have hlt1 : w.heap.size + 1 < W.heap.size := by omega
    have hlt0 : w.heap.size < W.heap.size := by omega
    clear hW
    have BXD := Lib.hid (fun w' (hb : Below W.heap.size W w') => (bD.below hb hlt0).box)
    have BXS := Lib.hid (fun w' (hb : Below W.heap.size W w') => bS.below hb hlt1)
    have BXR := Lib.hid (fun w' (hb : Below W.heap.size W w') => bR.below hb hlt)
    have KS := Lib.hid (fun w' (hb : Below W.heap.size W w') => (show w'.cell? ⟨w.heap.size, 3, none⟩ = some (.int .i64 f3) ∧ w'.cell? ⟨w.heap.size + 1, 0, none⟩ = some (.string s.f0) ∧ w'.cell? ⟨w.heap.size + 1, 1, none⟩ = some (.int .i64 s.f1) from ⟨BXD.out w' hb 3 _ rfl, (BXS.out w' hb 0 _ rfl).1, (BXS.out w' hb 1 _ rfl).1⟩))
    have HC := Lib.hid (show Below W.heap.size W W.drew from (Below.refl _ _).drew)
    clear bD bS bR
    refine wp_region_held_drew (S := (fun w' => w'.cell? ⟨w.heap.size, 3, none⟩ = some (.int .i64 f3) ∧ w'.cell? ⟨w.heap.size + 1, 0, none⟩ = some (.string s.f0) ∧ w'.cell? ⟨w.heap.size + 1, 1, none⟩ = some (.int .i64 s.f1))) (by kernel_rfl) (KS.out _ HC.out) (fun hHeld => ?_)
    refine wpAnyH_ready (rs := [0]) (by kernel_rfl) (by simp) ?_
    refine AllReadyH.cons (o := { dst := some 9, op := Op.call { callee := Callee.value (Operand.func 58), args := #[Operand.tmp 3], argTypes := #[78] }, type := 4, pos := "l12_discs.go:91", after := #[], guard := none }) rfl (fun K hK => ?_) AllReadyH.nil
    go_simp
    go_at_call 58; refine (OK.out _ (FB.out.trans (HC.out.mono FB.out.size)) (BXD.out _ HC.out)).mono ?_; rintro e w1 ⟨rfl, hb1⟩; replace HC := Lib.hid (HC.out.trans (hb1.mono HC.out.size))
    go_wp2_with fail
    refine hK.out _ _ (KS.out _ HC.out) (fun hHeld => ?_)
    clear hK K
    try simp only [Act.put, List.setIfInBounds_toArray, List.set_cons_zero, List.set_cons_succ]
    refine wpAnyH_take (i := 1) (oi := { dst := some 10, op := Op.unOp UnOp.not 4 (Operand.tmp 9), type := 4, pos := "l12_discs.go:91", after := #[{ on := 0, ground := Ground.data }], guard := none }) (v := ?_) rfl (by kernel_rfl) (by kernel_rfl) (by kernel_rfl) (fun _ _ _ h => h) (Or.inl ⟨by rfl, ?hy⟩) hHeld ?_
    case hy => (intro w' hSw; (try dsimp only at hSw); go_simp; try with_reducible rfl)
    simp only [Act.put, List.setIfInBounds_toArray, List.set_cons_zero, List.set_cons_succ]
    refine wpAnyH_take (i := 2) (oi := { dst := some 11, op := Op.move (Operand.tmp 10), type := 4, pos := "l12_discs.go:91", after := #[{ on := 1, ground := Ground.data }, { on := 0, ground := Ground.chain }], guard := none }) (v := ?_) rfl (by kernel_rfl) (by kernel_rfl) (by kernel_rfl) (fun _ _ _ h => h) (Or.inl ⟨by rfl, ?hy⟩) hHeld ?_
    case hy => (intro w' hSw; (try dsimp only at hSw); go_simp; try with_reducible rfl)
    simp only [Act.put, List.setIfInBounds_toArray, List.set_cons_zero, List.set_cons_succ]
    refine wpAnyH_take (i := 3) (oi := { dst := some 12, op := Op.load 41 (Operand.tmp 5), type := 41, pos := "l12_discs.go:91", after := #[{ on := 2, ground := Ground.guard }], guard := some (2, false) }) (v := ?_) rfl (by kernel_rfl) (by kernel_rfl) (by kernel_rfl) (fun _ _ _ h => h) (Or.inl ⟨by rfl, ?hy⟩) hHeld ?_
    case hy => (intro w' hSw; (try dsimp only at hSw); go_simp; try with_reducible rfl)
    simp only [Act.put, List.setIfInBounds_toArray, List.set_cons_zero, List.set_cons_succ]
    refine wpAnyH_take (i := 4) (oi := { dst := some 13, op := Op.fieldAddr 29 (Operand.tmp 3) 3, type := 0, pos := "l12_discs.go:91", after := #[{ on := 2, ground := Ground.guard }], guard := some (2, false) }) (v := ?_) rfl (by kernel_rfl) (by kernel_rfl) (by kernel_rfl) (fun _ _ _ h => h) (Or.inl ⟨by rfl, ?hy⟩) hHeld ?_
    case hy => (intro w' hSw; (try dsimp only at hSw); go_simp; try with_reducible rfl)
    simp only [Act.put, List.setIfInBounds_toArray, List.set_cons_zero, List.set_cons_succ]
    refine wpAnyH_take (i := 5) (oi := { dst := some 14, op := Op.load 2 (Operand.tmp 13), type := 2, pos := "l12_discs.go:91", after := #[{ on := 4, ground := Ground.data }, { on := 2, ground := Ground.guard }], guard := some (2, false) }) (v := ?_) rfl (by kernel_rfl) (by kernel_rfl) (by kernel_rfl) (fun _ _ _ h => h) (Or.inl ⟨by rfl, ?hy⟩) hHeld ?_
    case hy => (intro w' hSw; (try dsimp only at hSw); go_simp; try with_reducible rfl)
    simp only [Act.put, List.setIfInBounds_toArray, List.set_cons_zero, List.set_cons_succ]
    refine wpAnyH_ready (rs := [6]) (by kernel_rfl) (by simp) ?_
    refine AllReadyH.cons (o := { dst := some 15, op := Op.call { callee := Callee.value (Operand.func 75), args := #[Operand.tmp 14], argTypes := #[2] }, type := 2, pos := "l12_discs.go:91", after := #[{ on := 5, ground := Ground.data }, { on := 2, ground := Ground.chain }, { on := 2, ground := Ground.guard }], guard := some (2, false) }) rfl (fun K hK => ?_) AllReadyH.nil
    go_simp
    go_at_call 75; refine (BY.out _).mono ?_; rintro e w2 ⟨rfl, rfl⟩
    go_wp2_with fail
    refine hK.out _ _ (KS.out _ HC.out) (fun hHeld => ?_)
    clear hK K
    try simp only [Act.put, List.setIfInBounds_toArray, List.set_cons_zero, List.set_cons_succ]
    refine wpAnyH_ready (rs := [7]) (by kernel_rfl) (by simp) ?_
    refine AllReadyH.cons (o := { dst := some 16, op := Op.call { callee := Callee.value (Operand.func 81), args := #[Operand.tmp 12, Operand.tmp 15], argTypes := #[41, 2] }, type := 4, pos := "l12_discs.go:91", after := #[{ on := 3, ground := Ground.data }, { on := 6, ground := Ground.data }, { on := 6, ground := Ground.chain }, { on := 2, ground := Ground.guard }], guard := some (2, false) }) rfl (fun K hK => ?_) AllReadyH.nil
    go_simp
    go_at_call 81; refine (LS.out _).mono ?_; rintro e w3 ⟨rfl, hb3⟩; replace HC := Lib.hid (HC.out.trans (hb3.mono HC.out.size))
    go_wp2_with fail
    refine hK.out _ _ (KS.out _ HC.out) (fun hHeld => ?_)
    clear hK K
    try simp only [Act.put, List.setIfInBounds_toArray, List.set_cons_zero, List.set_cons_succ]
    refine wpAnyH_take (i := 8) (oi := { dst := some 17, op := Op.unOp UnOp.not 4 (Operand.tmp 16), type := 4, pos := "l12_discs.go:91", after := #[{ on := 7, ground := Ground.data }, { on := 2, ground := Ground.guard }], guard := some (2, false) }) (v := ?_) rfl (by kernel_rfl) (by kernel_rfl) (by kernel_rfl) (fun _ _ _ h => h) (Or.inl ⟨by rfl, ?hy⟩) hHeld ?_
    case hy => (intro w' hSw; (try dsimp only at hSw); go_simp; try with_reducible rfl)
    simp only [Act.put, List.setIfInBounds_toArray, List.set_cons_zero, List.set_cons_succ]
    refine wpAnyH_take (i := 9) (oi := { dst := some 18, op := Op.pick (Operand.tmp 11) (Operand.const (Value.bool true)) (Operand.tmp 17), type := 4, pos := "l12_discs.go:91", after := #[{ on := 2, ground := Ground.data }, { on := 8, ground := Ground.data }], guard := none }) (v := ?_) rfl (by kernel_rfl) (by kernel_rfl) (by kernel_rfl) (fun _ _ _ h => h) (Or.inl ⟨by rfl, ?hy⟩) hHeld ?_
    case hy => (intro w' hSw; (try dsimp only at hSw); go_simp; try with_reducible rfl)
    simp only [Act.put, List.setIfInBounds_toArray, List.set_cons_zero, List.set_cons_succ]
    refine wpAnyH_done (by kernel_rfl) ?_ _
    have cD4 := BXD.out _ HC.out 4 _ rfl
    go_wp2_with fail
    refine (PLH.out _).mono ?_
    rintro e _ ⟨rfl, rfl⟩
    clear cD4
    obtain ⟨xR0, yR0⟩ := BXR.out _ HC.out 0 _ rfl
    obtain ⟨xR1, yR1⟩ := BXR.out _ HC.out 1 _ rfl
    obtain ⟨xR2, yR2⟩ := BXR.out _ HC.out 2 _ rfl
    obtain ⟨xR3, yR3⟩ := BXR.out _ HC.out 3 _ rfl
    obtain ⟨xR4, yR4⟩ := BXR.out _ HC.out 4 _ rfl
    go_wp2
    refine bodyPost_ret (v := .tuple #[.agg #[.int .i64 0, .int .i64 0, .int .i64 0, .int .i64 0, .slice none 0 0], .int .i64 2]) (by simp [results, Try.results32, go_sem, xR0, yR0, xR1, yR1, xR2, yR2, xR3, yR3, xR4, yR4]) rfl ⟨none, 0, rfl, .inl rfl, ?_⟩
    have FBZ := FB.out.trans (HC.out.mono FB.out.size)
    have hzR := Nat.lt_of_lt_of_le hlt HC.out.size
    exact (((((FBZ).setCell (by simp <;> omega) _).setCell (by simp <;> omega) _).setCell (by simp <;> omega) _).setCell (by simp <;> omega) _).setCell (by simp <;> omega) _
  rw [hi] at PL
  rw [if_pos hi, if_pos hi]
  have PLH := Lib.hid PL
  obtain ⟨i0, i1⟩ := inB_iff.1 hi
  obtain ⟨m, rfl⟩ : ∃ m : Nat, i = (m : Int) := ⟨i.toNat, by omega⟩
  rw [Int.toNat_natCast]
  have hlt9 : m < es.length := by omega
  have e1 : (m : Int) < es.length := by omega
  clear hi i0 i1 PL
  go_enter Try.func32, Try.ntmps32
  go_wp2
  have bD : BoxF (((w.alloc (.cells #[.int .i64 f0, .int .i64 f1, .int .i64 f2, .int .i64 f3, .slice a es.length c] 29)).alloc (.cells #[.string s.f0, .int .i64 s.f1] 41)).alloc (.cells #[.int .i64 0, .int .i64 0, .int .i64 0, .int .i64 0, .slice none 0 0] 29)) w.heap.size #[.int .i64 f0, .int .i64 f1, .int .i64 f2, .int .i64 f3, .slice a es.length c] := boxF5 (by simp [go_sem]) (by simp [go_sem]) (by simp [go_sem]) (by simp [go_sem]) (by simp [go_sem])
  have bS : BoxF (((w.alloc (.cells #[.int .i64 f0, .int .i64 f1, .int .i64 f2, .int .i64 f3, .slice a es.length c] 29)).alloc (.cells #[.string s.f0, .int .i64 s.f1] 41)).alloc (.cells #[.int .i64 0, .int .i64 0, .int .i64 0, .int .i64 0, .slice none 0 0] 29)) (w.heap.size + 1) #[.string s.f0, .int .i64 s.f1] := boxF2 (by simp [go_sem]) (by simp [go_sem])
  have bR : BoxF (((w.alloc (.cells #[.int .i64 f0, .int .i64 f1, .int .i64 f2, .int .i64 f3, .slice a es.length c] 29)).alloc (.cells #[.string s.f0, .int .i64 s.f1] 41)).alloc (.cells #[.int .i64 0, .int .i64 0, .int .i64 0, .int .i64 0, .slice none 0 0] 29)) (w.heap.size + 2) #[.int .i64 0, .int .i64 0, .int .i64 0, .int .i64 0, .slice none 0 0] := boxF5 (by simp [go_sem]) (by simp [go_sem]) (by simp [go_sem]) (by simp [go_sem]) (by simp [go_sem])
  generalize hW : (((w.alloc (.cells #[.int .i64 f0, .int .i64 f1, .int .i64 f2, .int .i64 f3, .slice a es.length c] 29)).alloc (.cells #[.string s.f0, .int .i64 s.f1] 41)).alloc (.cells #[.int .i64 0, .int .i64 0, .int .i64 0, .int .i64 0, .slice none 0 0] 29)) = W at *
  have FB := Lib.hid (show Below w.heap.size w W by rw [← hW]; go_grown)
  have hlt : w.heap.size + 2 < W.heap.size := by rw [← hW]; simp
  have hlt1 : w.heap.size + 1 < W.heap.size := by omega
  have hlt0 : w.heap.size < W.heap.size := by omega
  clear hW
  have BXD := Lib.hid (fun w' (hb : Below W.heap.size W w') => (bD.below hb hlt0).box)
  have BXS := Lib.hid (fun w' (hb : Below W.heap.size W w') => bS.below hb hlt1)
  have BXR := Lib.hid (fun w' (hb : Below W.heap.size W w') => bR.below hb hlt)
  have KS := Lib.hid (fun w' (hb : Below W.heap.size W w') => (show w'.cell? ⟨w.heap.size, 3, none⟩ = some (.int .i64 f3) ∧ w'.cell? ⟨w.heap.size + 1, 0, none⟩ = some (.string s.f0) ∧ w'.cell? ⟨w.heap.size + 1, 1, none⟩ = some (.int .i64 s.f1) from ⟨BXD.out w' hb 3 _ rfl, (BXS.out w' hb 0 _ rfl).1, (BXS.out w' hb 1 _ rfl).1⟩))
  have HC := Lib.hid (show Below W.heap.size W W.drew from (Below.refl _ _).drew)
  clear bD bS bR
  refine wp_region_held_drew (S := (fun w' => w'.cell? ⟨w.heap.size, 3, none⟩ = some (.int .i64 f3) ∧ w'.cell? ⟨w.heap.size + 1, 0, none⟩ = some (.string s.f0) ∧ w'.cell? ⟨w.heap.size + 1, 1, none⟩ = some (.int .i64 s.f1))) (by kernel_rfl) (KS.out _ HC.out) (fun hHeld => ?_)
  refine wpAnyH_ready (rs := [0]) (by kernel_rfl) (by simp) ?_
  refine AllReadyH.cons (o := { dst := some 9, op := Op.call { callee := Callee.value (Operand.func 58), args := #[Operand.tmp 3], argTypes := #[78] }, type := 4, pos := "l12_discs.go:91", after := #[], guard := none }) rfl (fun K hK => ?_) AllReadyH.nil
  go_simp
  go_at_call 58; refine (OK.out _ (FB.out.trans (HC.out.mono FB.out.size)) (BXD.out _ HC.out)).mono ?_; rintro e w1 ⟨rfl, hb1⟩; replace HC := Lib.hid (HC.out.trans (hb1.mono HC.out.size))
  go_wp2_with fail
  refine hK.out _ _ (KS.out _ HC.out) (fun hHeld => ?_)
  clear hK K
  try simp only [Act.put, List.setIfInBounds_toArray, List.set_cons_zero, List.set_cons_succ]
  refine wpAnyH_take (i := 1) (oi := { dst := some 10, op := Op.unOp UnOp.not 4 (Operand.tmp 9), type := 4, pos := "l12_discs.go:91", after := #[{ on := 0, ground := Ground.data }], guard := none }) (v := ?_) rfl (by kernel_rfl) (by kernel_rfl) (by kernel_rfl) (fun _ _ _ h => h) (Or.inl ⟨by rfl, ?hy⟩) hHeld ?_
  case hy => (intro w' hSw; (try dsimp only at hSw); go_simp; try with_reducible rfl)
  simp only [Act.put, List.setIfInBounds_toArray, List.set_cons_zero, List.set_cons_succ]
  refine wpAnyH_take (i := 2) (oi := { dst := some 11, op := Op.move (Operand.tmp 10), type := 4, pos := "l12_discs.go:91", after := #[{ on := 1, ground := Ground.data }, { on := 0, ground := Ground.chain }], guard := none }) (v := ?_) rfl (by kernel_rfl) (by kernel_rfl) (by kernel_rfl) (fun _ _ _ h => h) (Or.inl ⟨by rfl, ?hy⟩) hHeld ?_
  case hy => (intro w' hSw; (try dsimp only at hSw); go_simp; try with_reducible rfl)
  simp only [Act.put, List.setIfInBounds_toArray, List.set_cons_zero, List.set_cons_succ]
  refine wpAnyH_take (i := 3) (oi := { dst := some 12, op := Op.load 41 (Operand.tmp 5), type := 41, pos := "l12_discs.go:91", after := #[{ on := 2, ground := Ground.guard }], guard := some (2, false) }) (v := ?_) rfl (by kernel_rfl) (by kernel_rfl) (by kernel_rfl) (fun _ _ _ h => h) (Or.inl ⟨by rfl, ?hy⟩) hHeld ?_
  case hy => (intro w' hSw; (try dsimp only at hSw); go_simp; try with_reducible rfl)
  simp only [Act.put, List.setIfInBounds_toArray, List.set_cons_zero, List.set_cons_succ]
  refine wpAnyH_take (i := 4) (oi := { dst := some 13, op := Op.fieldAddr 29 (Operand.tmp 3) 3, type := 0, pos := "l12_discs.go:91", after := #[{ on := 2, ground := Ground.guard }], guard := some (2, false) }) (v := ?_) rfl (by kernel_rfl) (by kernel_rfl) (by kernel_rfl) (fun _ _ _ h => h) (Or.inl ⟨by rfl, ?hy⟩) hHeld ?_
  case hy => (intro w' hSw; (try dsimp only at hSw); go_simp; try with_reducible rfl)
  simp only [Act.put, List.setIfInBounds_toArray, List.set_cons_zero, List.set_cons_succ]
  refine wpAnyH_take (i := 5) (oi := { dst := some 14, op := Op.load 2 (Operand.tmp 13), type := 2, pos := "l12_discs.go:91", after := #[{ on := 4, ground := Ground.data }, { on := 2, ground := Ground.guard }], guard := some (2, false) }) (v := ?_) rfl (by kernel_rfl) (by kernel_rfl) (by kernel_rfl) (fun _ _ _ h => h) (Or.inl ⟨by rfl, ?hy⟩) hHeld ?_
  case hy => (intro w' hSw; (try dsimp only at hSw); go_simp; try with_reducible rfl)
  simp only [Act.put, List.setIfInBounds_toArray, List.set_cons_zero, List.set_cons_succ]
  refine wpAnyH_ready (rs := [6]) (by kernel_rfl) (by simp) ?_
  refine AllReadyH.cons (o := { dst := some 15, op := Op.call { callee := Callee.value (Operand.func 75), args := #[Operand.tmp 14], argTypes := #[2] }, type := 2, pos := "l12_discs.go:91", after := #[{ on := 5, ground := Ground.data }, { on := 2, ground := Ground.chain }, { on := 2, ground := Ground.guard }], guard := some (2, false) }) rfl (fun K hK => ?_) AllReadyH.nil
  go_simp
  go_at_call 75; refine (BY.out _).mono ?_; rintro e w2 ⟨rfl, rfl⟩
  go_wp2_with fail
  refine hK.out _ _ (KS.out _ HC.out) (fun hHeld => ?_)
  clear hK K
  try simp only [Act.put, List.setIfInBounds_toArray, List.set_cons_zero, List.set_cons_succ]
  refine wpAnyH_ready (rs := [7]) (by kernel_rfl) (by simp) ?_
  refine AllReadyH.cons (o := { dst := some 16, op := Op.call { callee := Callee.value (Operand.func 81), args := #[Operand.tmp 12, Operand.tmp 15], argTypes := #[41, 2] }, type := 4, pos := "l12_discs.go:91", after := #[{ on := 3, ground := Ground.data }, { on := 6, ground := Ground.data }, { on := 6, ground := Ground.chain }, { on := 2, ground := Ground.guard }], guard := some (2, false) }) rfl (fun K hK => ?_) AllReadyH.nil
  go_simp
  go_at_call 81; refine (LS.out _).mono ?_; rintro e w3 ⟨rfl, hb3⟩; replace HC := Lib.hid (HC.out.trans (hb3.mono HC.out.size))
  go_wp2_with fail
  refine hK.out _ _ (KS.out _ HC.out) (fun hHeld => ?_)
  clear hK K
  try simp only [Act.put, List.setIfInBounds_toArray, List.set_cons_zero, List.set_cons_succ]
  refine wpAnyH_take (i := 8) (oi := { dst := some 17, op := Op.unOp UnOp.not 4 (Operand.tmp 16), type := 4, pos := "l12_discs.go:91", after := #[{ on := 7, ground := Ground.data }, { on := 2, ground := Ground.guard }], guard := some (2, false) }) (v := ?_) rfl (by kernel_rfl) (by kernel_rfl) (by kernel_rfl) (fun _ _ _ h => h) (Or.inl ⟨by rfl, ?hy⟩) hHeld ?_
  case hy => (intro w' hSw; (try dsimp only at hSw); go_simp; try with_reducible rfl)
  simp only [Act.put, List.setIfInBounds_toArray, List.set_cons_zero, List.set_cons_succ]
  refine wpAnyH_take (i := 9) (oi := { dst := some 18, op := Op.pick (Operand.tmp 11) (Operand.const (Value.bool true)) (Operand.tmp 17), type := 4, pos := "l12_discs.go:91", after := #[{ on := 2, ground := Ground.data }, { on := 8, ground := Ground.data }], guard := none }) (v := ?_) rfl (by kernel_rfl) (by kernel_rfl) (by kernel_rfl) (fun _ _ _ h => h) (Or.inl ⟨by rfl, ?hy⟩) hHeld ?_
  case hy => (intro w' hSw; (try dsimp only at hSw); go_simp; try with_reducible rfl)
  simp only [Act.put, List.setIfInBounds_toArray, List.set_cons_zero, List.set_cons_succ]
  refine wpAnyH_done (by kernel_rfl) ?_ _
  have cD4 := BXD.out _ HC.out 4 _ rfl
  go_wp2_with fail
  refine (PLH.out _).mono ?_
  rintro e _ ⟨rfl, rfl⟩
  clear cD4
  go_wp2_with fail
  refine (OW.out _ (FB.out.trans (HC.out.mono FB.out.size)) (BXD.out _ HC.out)).mono ?_
  rintro e w4 ⟨g, cap, rfl, hown, hb4⟩
  have HOWN := Lib.hid hown
  have HC4 := Lib.hid (HC.out.trans (hb4.mono HC.out.size))
  have HZZ := Lib.hid (And.intro HC.out.size (And.intro hb4.size (And.intro hlt hlt9)))
  clear hown hb4 hlt hlt0 hlt1 hl128 hss hss2 hm
  go_upto_region 6 with (fail)
  have bO : BoxF (w4.alloc (.cells #[.int .i64 f0, .int .i64 f1, .int .i64 f2, .int .i64 f3, .slice (some ⟨g, 0, none⟩) es.length cap] 29)) w4.heap.size #[.int .i64 f0, .int .i64 f1, .int .i64 f2, .int .i64 f3, .slice (some ⟨g, 0, none⟩) es.length cap] := BoxF.new w4 _ _ _ rfl
  have HB5 := Lib.hid (show Below w4.heap.size w4 (w4.alloc (.cells #[.int .i64 f0, .int .i64 f1, .int .i64 f2, .int .i64 f3, .slice (some ⟨g, 0, none⟩) es.length cap] 29)) from (Below.refl _ _).alloc (Nat.le_refl _) _)
  have hz5 : (w4.alloc (.cells #[.int .i64 f0, .int .i64 f1, .int .i64 f2, .int .i64 f3, .slice (some ⟨g, 0, none⟩) es.length cap] 29)).heap.size = w4.heap.size + 1 := by simp
  generalize hE : w4.alloc (.cells #[.int .i64 f0, .int .i64 f1, .int .i64 f2, .int .i64 f3, .slice (some ⟨g, 0, none⟩) es.length cap] 29) = W5 at *
  clear hE
  obtain ⟨hw3, hw4, hlt, hlt9⟩ := HZZ.out
  obtain ⟨rest, hgB, hgh⟩ := HOWN.out
  have hgl0 : g < w4.heap.size := (Array.getElem?_eq_some_iff.1 hgh).1
  have OWN := Lib.hid (show OwnBlk W5 w3.heap.size g es from (show OwnBlk w4 w3.heap.size g es from ⟨rest, hgB, hgh⟩).below HB5.out hgl0)
  have HC5 := Lib.hid (show Below W.heap.size W W5 from HC4.out.trans (HB5.out.mono HC4.out.size))
  obtain ⟨eo, hxo⟩ : ∃ e, es[m]? = some e := ⟨es[m], by simp [hlt9]⟩
  have d0 := (OWN.out.cell hxo).1
  have d1 := (OWN.out.cell hxo).2
  have z0 := OWN.out.free (m * 2)
  have z1 := OWN.out.free (m * 2 + 1)
  have FB5 := Lib.hid (FB.out.trans (HC5.out.mono FB.out.size))
  clear hgh hxo
  obtain ⟨xR0, yR0⟩ := BXR.out _ HC5.out 0 _ rfl
  obtain ⟨xR1, yR1⟩ := BXR.out _ HC5.out 1 _ rfl
  obtain ⟨xR2, yR2⟩ := BXR.out _ HC5.out 2 _ rfl
  obtain ⟨xR3, yR3⟩ := BXR.out _ HC5.out 3 _ rfl
  obtain ⟨xR4, yR4⟩ := BXR.out _ HC5.out 4 _ rfl
  obtain ⟨xS0, yS0⟩ := BXS.out _ HC5.out 0 _ rfl
  obtain ⟨xS1, yS1⟩ := BXS.out _ HC5.out 1 _ rfl
  obtain ⟨xO0, yO0⟩ := bO 0 _ rfl
  obtain ⟨xO1, yO1⟩ := bO 1 _ rfl
  obtain ⟨xO2, yO2⟩ := bO 2 _ rfl
  obtain ⟨xO3, yO3⟩ := bO 3 _ rfl
  obtain ⟨xO4, yO4⟩ := bO 4 _ rfl
  have hq3 : ¬ g = w4.heap.size := by omega
  have hq4 : ¬ w4.heap.size = g := by omega
  have hq5 : ¬ g = w.heap.size + 2 := by omega
  have hq6 : ¬ w.heap.size + 2 = g := by omega
  have hq7 : ¬ w.heap.size + 2 = w4.heap.size := by omega
  have hq8 : ¬ w4.heap.size = w.heap.size + 2 := by omega
  have HG := Lib.hid (And.intro hgB (And.intro hw3 (And.intro hw4 (And.intro hlt hlt9))))
  clear hgB hw3 hw4 hlt hlt9 hgl0 bO
  go_wp2
  obtain ⟨hgB, hw3, hw4, hlt, hlt9⟩ := HG.out
  refine bodyPost_ret (v := .tuple #[.agg #[.int .i64 f0, .int .i64 f1, .int .i64 f2, .int .i64 f3, .slice (some ⟨g, 0, none⟩) es.length cap], .int .i64 0]) (by simp [results, Try.results32, go_sem, xR0, yR0, xR1, yR1, xR2, yR2, xR3, yR3, xR4, yR4]) rfl ⟨some ⟨g, 0, none⟩, cap, by simp, ?_, ?_⟩
  · refine OwnBlk.so (((OWN.out.put m s hlt9).mono (by omega)).keep ?_)
    simp only [World.setCell, Array.getElem?_modify]
    rw [if_neg (by omega), if_neg (by omega), if_neg (by omega), if_neg (by omega), if_neg (by omega)]
  · exact (((((((FB5.out).setCell (by simp <;> omega) _).setCell (by simp <;> omega) _).setCell (by simp <;> omega) _).setCell (by simp <;> omega) _).setCell (by simp <;> omega) _).setCell (by simp <;> omega) _).setCell (by simp <;> omega) _
end Go.Proofs.Ytpcfhfnlpcpofaa
