/- FnDeviceOrder: the law's walk. -/
import Derived.Test.YtllcbiafghhcmaaPkFnDeviceOrderDrawDev
import Derived.Test.YtllcbiafghhcmaaPkFnDeviceOrderRoundDev
import Derived.Test.YtllcbiafghhcmaaPkFnDeviceOrderDevOkSp
namespace Go.Proofs.Ytllcbiafghhcmaa.fnDeviceOrder
open Go.RowKit
set_option linter.unusedVariables false
set_option linter.unusedSimpArgs false
set_option maxRecDepth 20000
theorem long_no (a : Option Addr) (n cap : Nat) (w : World) (h : n ≤ 1048576) : Calls Try.prog 6 #[.slice a n cap] w fun e w' => e = .returned (.bool false) ∧ w = w' := by
  have h1 : (n : Int) ≤ 1048576 := by omega
  go_enter Try.func6, Try.ntmps6
  go_wp2
  go_ret
  exact ⟨ret_bool (by simp; omega), rfl⟩
theorem ndV_str (x : DiscV) (sk sp : Int) (h : ∀ e ∈ x.f4, e.f0.size ≤ 1048576) : StrDevice 1048576 (ndV x sk sp) := by
  unfold ndV
  split
  · exact h
  · intro e he; simp [devZ] at he
set_option maxHeartbeats 16000000 in
theorem walk (a0 : Option Addr) (len0 cap0 : Nat) (zz : List Int) (w : World) (w0 : IsRow .u8 w a0 len0 cap0 zz) :
    Calls Try.prog 3 #[.slice a0 len0 cap0] w fun e w' => e = .returned (.bool true) ∧ Below w.heap.size w w' := by
  obtain ⟨hca, hcl⟩ := code_of w0
  by_cases hl : 1048576 < len0
  · go_enter Try.func3, Try.ntmps3
    go_wp2
    go_ret
    exact ⟨rfl, Below.refl _ _⟩
  have DR := Lib.hid (drawNewDevice_any a0 len0 cap0 w (by omega) hcl hca)
  have LO := Lib.hid (long_no a0 len0 cap0 w (by omega))
  clear hca hcl w0
  go_enter Try.func3, Try.ntmps3
  go_wp2_with fail
  refine LO.out.mono ?_
  rintro e w' ⟨rfl, rfl⟩
  go_wp2_with fail
  refine DR.out.mono ?_
  rintro e w1 ⟨⟨A, B, C, D, es⟩, g, c, sk, sp, rfl, ⟨hd1, hd2, hd3⟩, ⟨hk1, hk2, hp1, hp2⟩, hown, hb1⟩
  dsimp only at hd1 hd2 hd3 hown ⊢
  obtain ⟨L, hL⟩ : ∃ L, es.length = L := ⟨_, rfl⟩
  rw [hL] at hd1 hd2 ⊢
  have hgl := hown.lt
  have HLE := Lib.hid hL
  have HD3 := Lib.hid hd3
  go_upto_region 4 with (fail)
  have hWW : Below w1.heap.size w1 (w1.alloc (.cells #[.int .i64 A, .int .i64 B, .int .i64 C, .int .i64 D, .slice (some ⟨g, 0, none⟩) L c] 26)) := (Below.refl _ _).alloc (Nat.le_refl _) _
  have B3 := BoxF.new w1 #[.int .i64 A, .int .i64 B, .int .i64 C, .int .i64 D, .slice (some ⟨g, 0, none⟩) L c] 26 _ rfl
  have hq3 : w1.heap.size < (w1.alloc (.cells #[.int .i64 A, .int .i64 B, .int .i64 C, .int .i64 D, .slice (some ⟨g, 0, none⟩) L c] 26)).heap.size := by simp
  have HSL := Lib.hid (hown.below hWW hgl).sli.sl
  have FB := Lib.hid (hb1.trans (hWW.mono hb1.size))
  generalize w1.alloc (.cells #[.int .i64 A, .int .i64 B, .int .i64 C, .int .i64 D, .slice (some ⟨g, 0, none⟩) L c] 26) = W at *
  generalize w1.heap.size = Q at *
  clear hWW hown hb1 hgl hd3 DR LO
  have ND := Lib.hid (show Calls Try.prog 8 #[.agg #[.int .i64 A, .int .i64 B, .int .i64 C, .int .i64 D, .slice (some ⟨g, 0, none⟩) L c], .int .i64 sk, .int .i64 sp] W (DevRes (ndV ⟨A, B, C, D, es⟩ sk sp) (ndC ⟨A, B, C, D, es⟩ sk sp) W) from (by
    have h := newDevice_any ⟨A, B, C, D, es⟩ (some ⟨g, 0, none⟩) c sk sp (by show es.length ≤ _; omega) (fun e he => by have := HD3.out e he; omega) W HSL.out
    dsimp only at h
    rw [hL] at h
    exact h))
  unfold DevRes at ND
  have HLV := Lib.hid (ndV_len ⟨A, B, C, D, es⟩ sk sp (by show es.length ≤ _; omega))
  have HSV := Lib.hid (ndV_str ⟨A, B, C, D, es⟩ sk sp (fun e he => by have := HD3.out e he; omega))
  have HOK := Lib.hid (fun h => ndV_ok (x := ⟨A, B, C, D, es⟩) (sk := sk) (sp := sp) h)
  dsimp only at HOK
  rw [hL] at HOK
  generalize ndV ⟨A, B, C, D, es⟩ sk sp = V at *
  generalize ndC ⟨A, B, C, D, es⟩ sk sp = code at *
  clear hL HSL HD3
  obtain ⟨y0, _⟩ := B3 0 _ rfl
  obtain ⟨y1, _⟩ := B3 1 _ rfl
  obtain ⟨y2, _⟩ := B3 2 _ rfl
  obtain ⟨y3, _⟩ := B3 3 _ rfl
  obtain ⟨y4, _⟩ := B3 4 _ rfl
  go_wp2_with fail
  refine ND.out.mono ?_
  rintro e w2 ⟨s0, s1, d0, d1, rfl, hsl, hb2⟩
  clear y0 y1 y2 y3 y4
  by_cases hc : code = 0
  case neg =>
    have hc2 : (code != 0) = true := by simp [hc]
    have HB2 := Lib.hid (FB.out.trans (hb2.mono FB.out.size))
    have hz2 := HB2.out.size
    clear hsl hb2
    go_wp2
    go_ret
    exact ⟨rfl, HB2.out.alloc hz2 _⟩
  subst hc
  obtain ⟨hv1, hv2, hv3, hv4, hv5, hv6, hv7⟩ := HOK.out rfl
  have H7 := Lib.hid hv7
  have hzQ := hb2.size
  have FB2 := Lib.hid (FB.out.trans (hb2.mono FB.out.size))
  have B3' := B3.below hb2 hq3
  have hSD := hsl.sl
  clear hv7 HOK ND hsl FB B3
  go_upto_region 7 with (fail)
  have hWW : Below w2.heap.size w2 (w2.alloc (.cells #[.int .i64 V.f0.f0, .int .i64 V.f0.f1, .int .i64 V.f0.f2, .int .i64 V.f0.f3, .slice s0 V.f0.f4.length d0, .int .i64 V.f1, .int .i64 V.f2, .slice s1 V.f3.length d1] 31)) := (Below.refl _ _).alloc (Nat.le_refl _) _
  have B6 := BoxF.new w2 #[.int .i64 V.f0.f0, .int .i64 V.f0.f1, .int .i64 V.f0.f2, .int .i64 V.f0.f3, .slice s0 V.f0.f4.length d0, .int .i64 V.f1, .int .i64 V.f2, .slice s1 V.f3.length d1] 31 _ rfl
  have hq6 : w2.heap.size < (w2.alloc (.cells #[.int .i64 V.f0.f0, .int .i64 V.f0.f1, .int .i64 V.f0.f2, .int .i64 V.f0.f3, .slice s0 V.f0.f4.length d0, .int .i64 V.f1, .int .i64 V.f2, .slice s1 V.f3.length d1] 31)).heap.size := by simp
  have B3'' := B3'.below hWW (by omega)
  have hqq : Q < (w2.alloc (.cells #[.int .i64 V.f0.f0, .int .i64 V.f0.f1, .int .i64 V.f0.f2, .int .i64 V.f0.f3, .slice s0 V.f0.f4.length d0, .int .i64 V.f1, .int .i64 V.f2, .slice s1 V.f3.length d1] 31)).heap.size := by simp; omega
  have hSD2 := hSD.below hWW (Nat.le_refl _)
  have FB3 := Lib.hid (FB2.out.trans (hWW.mono FB2.out.size))
  generalize w2.alloc (.cells #[.int .i64 V.f0.f0, .int .i64 V.f0.f1, .int .i64 V.f0.f2, .int .i64 V.f0.f3, .slice s0 V.f0.f4.length d0, .int .i64 V.f1, .int .i64 V.f2, .slice s1 V.f3.length d1] 31) = W3 at *
  generalize w2.heap.size = Q6 at *
  have BA := B3''.box
  have BB := B6.box
  clear hWW B3' hSD hb2 FB2
  have SLD := Lib.hid hSD2
  clear hSD2
  have VD := Lib.hid (fun w' (h : SlDevice w' s0 s1 V) => (specValidDevice_any V s0 s1 d0 d1 HLV.out HSV.out w' h).mono (fun e w'' h => (show e = .returned (.bool true) ∧ Below w'.heap.size w' w'' from ⟨by rw [h.1, hv1], h.2⟩)))
  have DB := Lib.hid (fun w' (h : SlDevice w' s0 s1 V) => (deviceBlocks_any V s0 s1 d0 d1 HLV.out HSV.out w' h).mono (fun e w'' h => (show e = .returned (.int .i64 ((L : Int) - sp)) ∧ Below w'.heap.size w' w'' from ⟨by rw [h.1, hv2], h.2⟩)))
  have hwr : IntKind.i64.wrap ((L : Int) - sp) = (L : Int) - sp := IntWalk.i64_in _ (by omega)
  have hne : (((L : Int) - sp) != ((L : Int) - sp)) = false := by simp
  have KS := Lib.hid (fun w' (hb : Below W3.heap.size W3 w') => (show w'.cell? ⟨Q, 0, none⟩ = some (.int .i64 A) ∧ w'.cell? ⟨Q, 1, none⟩ = some (.int .i64 B) ∧ w'.cell? ⟨Q, 2, none⟩ = some (.int .i64 C) ∧ w'.cell? ⟨Q, 3, none⟩ = some (.int .i64 D) ∧ w'.cell? ⟨Q, 4, none⟩ = some (.slice (some ⟨g, 0, none⟩) L c) ∧ w'.cell? ⟨Q6, 0, none⟩ = some (.int .i64 V.f0.f0) ∧ w'.cell? ⟨Q6, 1, none⟩ = some (.int .i64 V.f0.f1) ∧ w'.cell? ⟨Q6, 2, none⟩ = some (.int .i64 V.f0.f2) ∧ w'.cell? ⟨Q6, 3, none⟩ = some (.int .i64 V.f0.f3) ∧ w'.cell? ⟨Q6, 4, none⟩ = some (.slice s0 V.f0.f4.length d0) ∧ w'.cell? ⟨Q6, 5, none⟩ = some (.int .i64 V.f1) ∧ w'.cell? ⟨Q6, 6, none⟩ = some (.int .i64 V.f2) ∧ w'.cell? ⟨Q6, 7, none⟩ = some (.slice s1 V.f3.length d1) from ⟨(BA.below hb hqq) 0 _ rfl, (BA.below hb hqq) 1 _ rfl, (BA.below hb hqq) 2 _ rfl, (BA.below hb hqq) 3 _ rfl, (BA.below hb hqq) 4 _ rfl, (BB.below hb hq6) 0 _ rfl, (BB.below hb hq6) 1 _ rfl, (BB.below hb hq6) 2 _ rfl, (BB.below hb hq6) 3 _ rfl, (BB.below hb hq6) 4 _ rfl, (BB.below hb hq6) 5 _ rfl, (BB.below hb hq6) 6 _ rfl, (BB.below hb hq6) 7 _ rfl⟩))
  have HC := Lib.hid (show Below W3.heap.size W3 W3.drew from (Below.refl _ _).drew)
  refine wp_region_held_drew (S := (fun w' => w'.cell? ⟨Q, 0, none⟩ = some (.int .i64 A) ∧ w'.cell? ⟨Q, 1, none⟩ = some (.int .i64 B) ∧ w'.cell? ⟨Q, 2, none⟩ = some (.int .i64 C) ∧ w'.cell? ⟨Q, 3, none⟩ = some (.int .i64 D) ∧ w'.cell? ⟨Q, 4, none⟩ = some (.slice (some ⟨g, 0, none⟩) L c) ∧ w'.cell? ⟨Q6, 0, none⟩ = some (.int .i64 V.f0.f0) ∧ w'.cell? ⟨Q6, 1, none⟩ = some (.int .i64 V.f0.f1) ∧ w'.cell? ⟨Q6, 2, none⟩ = some (.int .i64 V.f0.f2) ∧ w'.cell? ⟨Q6, 3, none⟩ = some (.int .i64 V.f0.f3) ∧ w'.cell? ⟨Q6, 4, none⟩ = some (.slice s0 V.f0.f4.length d0) ∧ w'.cell? ⟨Q6, 5, none⟩ = some (.int .i64 V.f1) ∧ w'.cell? ⟨Q6, 6, none⟩ = some (.int .i64 V.f2) ∧ w'.cell? ⟨Q6, 7, none⟩ = some (.slice s1 V.f3.length d1))) (by kernel_rfl) (KS.out _ HC.out) (fun hHeld => ?_)
  refine wpAnyH_take (i := 0) (oi := { dst := some 28, op := Op.load 31 (Operand.tmp 6), type := 31, pos := "laws.go:466", after := #[], guard := none }) (v := ?_) rfl (by kernel_rfl) (by kernel_rfl) (by kernel_rfl) (fun _ _ _ h => h) (Or.inl ⟨by rfl, ?hy⟩) hHeld ?_
  case hy => (intro w' hSw; (try dsimp only at hSw); go_simp; try with_reducible rfl)
  simp only [Act.put, List.setIfInBounds_toArray, List.set_cons_zero, List.set_cons_succ]
  refine wpAnyH_ready (rs := [1]) (by kernel_rfl) (by simp) ?_
  refine AllReadyH.cons (o := { dst := some 29, op := Op.call { callee := Callee.value (Operand.func 9), args := #[Operand.tmp 28], argTypes := #[31] }, type := 4, pos := "laws.go:466", after := #[{ on := 0, ground := Ground.data }], guard := none }) rfl (fun K hK => ?_) AllReadyH.nil
  go_simp
  go_at_call 9; refine (VD.out _ (SLD.out.below HC.out (Nat.le_refl _))).mono ?_; rintro e wk1 ⟨rfl, hb1⟩; replace HC := Lib.hid (HC.out.trans (hb1.mono HC.out.size))
  go_wp2_with fail
  refine hK.out _ _ (KS.out _ HC.out) (fun hHeld => ?_)
  clear hK K
  try simp only [Act.put, List.setIfInBounds_toArray, List.set_cons_zero, List.set_cons_succ]
  refine wpAnyH_take (i := 2) (oi := { dst := some 30, op := Op.unOp UnOp.not 4 (Operand.tmp 29), type := 4, pos := "laws.go:466", after := #[{ on := 1, ground := Ground.data }], guard := none }) (v := ?_) rfl (by kernel_rfl) (by kernel_rfl) (by kernel_rfl) (fun _ _ _ h => h) (Or.inl ⟨by rfl, ?hy⟩) hHeld ?_
  case hy => (intro w' hSw; (try dsimp only at hSw); go_simp; try with_reducible rfl)
  simp only [Act.put, List.setIfInBounds_toArray, List.set_cons_zero, List.set_cons_succ]
  refine wpAnyH_take (i := 3) (oi := { dst := some 31, op := Op.move (Operand.tmp 30), type := 4, pos := "laws.go:466", after := #[{ on := 2, ground := Ground.data }, { on := 1, ground := Ground.chain }], guard := none }) (v := .bool false) rfl (by kernel_rfl) (by kernel_rfl) (by kernel_rfl) (fun _ _ _ h => h) (Or.inl ⟨by rfl, ?hy⟩) hHeld ?_
  case hy => (intro w' hSw; (try dsimp only at hSw); go_simp; first | done | omega | (simp; omega))
  simp only [Act.put, List.setIfInBounds_toArray, List.set_cons_zero, List.set_cons_succ]
  refine wpAnyH_take (i := 4) (oi := { dst := some 32, op := Op.load 31 (Operand.tmp 6), type := 31, pos := "laws.go:466", after := #[{ on := 3, ground := Ground.guard }], guard := some (3, false) }) (v := ?_) rfl (by kernel_rfl) (by kernel_rfl) (by kernel_rfl) (fun _ _ _ h => h) (Or.inl ⟨by rfl, ?hy⟩) hHeld ?_
  case hy => (intro w' hSw; (try dsimp only at hSw); go_simp; try with_reducible rfl)
  simp only [Act.put, List.setIfInBounds_toArray, List.set_cons_zero, List.set_cons_succ]
  refine wpAnyH_take (i := 6) (oi := { dst := some 34, op := Op.fieldAddr 26 (Operand.tmp 3) 4, type := 0, pos := "laws.go:466", after := #[{ on := 3, ground := Ground.guard }], guard := some (3, false) }) (v := ?_) rfl (by kernel_rfl) (by kernel_rfl) (by kernel_rfl) (fun _ _ _ h => h) (Or.inl ⟨by rfl, ?hy⟩) hHeld ?_
  case hy => (intro w' hSw; (try dsimp only at hSw); go_simp; try with_reducible rfl)
  simp only [Act.put, List.setIfInBounds_toArray, List.set_cons_zero, List.set_cons_succ]
  refine wpAnyH_take (i := 7) (oi := { dst := some 35, op := Op.load 24 (Operand.tmp 34), type := 24, pos := "laws.go:466", after := #[{ on := 6, ground := Ground.data }, { on := 3, ground := Ground.guard }], guard := some (3, false) }) (v := ?_) rfl (by kernel_rfl) (by kernel_rfl) (by kernel_rfl) (fun _ _ _ h => h) (Or.inl ⟨by rfl, ?hy⟩) hHeld ?_
  case hy => (intro w' hSw; (try dsimp only at hSw); go_simp; try with_reducible rfl)
  simp only [Act.put, List.setIfInBounds_toArray, List.set_cons_zero, List.set_cons_succ]
  refine wpAnyH_take (i := 8) (oi := { dst := some 36, op := Op.call { callee := Callee.builtin Builtin.len, args := #[Operand.tmp 35], argTypes := #[24] }, type := 3, pos := "laws.go:466", after := #[{ on := 7, ground := Ground.data }, { on := 3, ground := Ground.guard }], guard := some (3, false) }) (v := ?_) rfl (by kernel_rfl) (by kernel_rfl) (by kernel_rfl) (fun _ _ _ h => h) (Or.inl ⟨by rfl, ?hy⟩) hHeld ?_
  case hy => (intro w' hSw; (try dsimp only at hSw); go_simp; try with_reducible rfl)
  simp only [Act.put, List.setIfInBounds_toArray, List.set_cons_zero, List.set_cons_succ]
  refine wpAnyH_take (i := 9) (oi := { dst := some 37, op := Op.move (Operand.tmp 5), type := 2, pos := "laws.go:466", after := #[{ on := 3, ground := Ground.guard }], guard := some (3, false) }) (v := ?_) rfl (by kernel_rfl) (by kernel_rfl) (by kernel_rfl) (fun _ _ _ h => h) (Or.inl ⟨by rfl, ?hy⟩) hHeld ?_
  case hy => (intro w' hSw; (try dsimp only at hSw); go_simp; try with_reducible rfl)
  simp only [Act.put, List.setIfInBounds_toArray, List.set_cons_zero, List.set_cons_succ]
  refine wpAnyH_take (i := 10) (oi := { dst := some 38, op := Op.binOp BinOp.sub 2 (Operand.tmp 36) (Operand.tmp 37) 2, type := 2, pos := "laws.go:466", after := #[{ on := 8, ground := Ground.data }, { on := 9, ground := Ground.data }, { on := 3, ground := Ground.guard }], guard := some (3, false) }) (v := ?_) rfl (by kernel_rfl) (by kernel_rfl) (by kernel_rfl) (fun _ _ _ h => h) (Or.inl ⟨by rfl, ?hy⟩) hHeld ?_
  case hy => (intro w' hSw; (try dsimp only at hSw); go_simp; try with_reducible rfl)
  simp only [Act.put, List.setIfInBounds_toArray, List.set_cons_zero, List.set_cons_succ]
  refine wpAnyH_ready (rs := [5]) (by kernel_rfl) (by simp) ?_
  refine AllReadyH.cons (o := { dst := some 33, op := Op.call { callee := Callee.value (Operand.func 10), args := #[Operand.tmp 32], argTypes := #[31] }, type := 2, pos := "laws.go:466", after := #[{ on := 4, ground := Ground.data }, { on := 3, ground := Ground.chain }, { on := 3, ground := Ground.guard }], guard := some (3, false) }) rfl (fun K hK => ?_) AllReadyH.nil
  go_simp
  go_at_call 10; refine (DB.out _ (SLD.out.below HC.out (Nat.le_refl _))).mono ?_; rintro e wk2 ⟨rfl, hb2⟩; replace HC := Lib.hid (HC.out.trans (hb2.mono HC.out.size))
  go_wp2_with fail
  refine hK.out _ _ (KS.out _ HC.out) (fun hHeld => ?_)
  clear hK K
  try simp only [Act.put, List.setIfInBounds_toArray, List.set_cons_zero, List.set_cons_succ]
  refine wpAnyH_take (i := 11) (oi := { dst := some 39, op := Op.binOp BinOp.neq 2 (Operand.tmp 33) (Operand.tmp 38) 2, type := 4, pos := "laws.go:466", after := #[{ on := 5, ground := Ground.data }, { on := 10, ground := Ground.data }, { on := 3, ground := Ground.guard }], guard := some (3, false) }) (v := .bool false) rfl (by kernel_rfl) (by kernel_rfl) (by kernel_rfl) (fun _ _ _ h => h) (Or.inl ⟨by rfl, ?hy⟩) hHeld ?_
  case hy => (intro w' hSw; (try dsimp only at hSw); go_simp; first | done | omega | (simp; omega))
  simp only [Act.put, List.setIfInBounds_toArray, List.set_cons_zero, List.set_cons_succ]
  refine wpAnyH_take (i := 12) (oi := { dst := some 40, op := Op.pick (Operand.tmp 31) (Operand.const (Value.bool true)) (Operand.tmp 39), type := 4, pos := "laws.go:466", after := #[{ on := 3, ground := Ground.data }, { on := 11, ground := Ground.data }], guard := none }) (v := .bool false) rfl (by kernel_rfl) (by kernel_rfl) (by kernel_rfl) (fun _ _ _ h => h) (Or.inl ⟨by rfl, ?hy⟩) hHeld ?_
  case hy => (intro w' hSw; (try dsimp only at hSw); go_simp; first | done | omega | (simp; omega))
  simp only [Act.put, List.setIfInBounds_toArray, List.set_cons_zero, List.set_cons_succ]
  refine wpAnyH_done (by kernel_rfl) ?_ _
  have HC7 := Lib.hid HC.out
  clear hHeld KS HC
  have SO := Lib.hid (fun k w' (h : SlDevice w' s0 s1 V) => sectorOf_any V s0 s1 d0 d1 k HLV.out HSV.out w' h)
  have hLb : L ≤ 31 := hd2
  go_wp2
  go_loopw [8, 9, 10] (fun b _ _ wr => ∃ k : Nat, (k : Int) ≤ (L : Int) - sp ∧ b = .int .i64 (k : Int) ∧ Below W3.heap.size W3 wr) (fun b _ _ _ => 64 - (intOf b).toNat)
  case atStart => exact ⟨0, by omega, rfl, HC7.out⟩
  case round =>
    obtain ⟨k, hk, rfl, hb⟩ := hrel
    have hzb := hb.size
    have BQ := BA.below hb hqq
    have BV := BB.below hb hq6
    have y2 := BQ 2 _ rfl
    have y4 := BQ 4 _ rfl
    have e0 := BV 0 _ rfl
    have e1 := BV 1 _ rfl
    have e2 := BV 2 _ rfl
    have e3 := BV 3 _ rfl
    have e4 := BV 4 _ rfl
    have e5 := BV 5 _ rfl
    have e6 := BV 6 _ rfl
    have e7 := BV 7 _ rfl
    have HS := Lib.hid (SLD.out.below hb (Nat.le_refl _))
    have HB := Lib.hid hb
    have DBk := Lib.hid (DB.out wr HS.out)
    clear BQ BV hb
    by_cases hlt : (k : Int) < (L : Int) - sp
    · obtain ⟨hs1, hs2, hs3⟩ := H7.out k hlt
      go_wp2_with fail
      refine DBk.out.mono ?_
      rintro e w5 ⟨rfl, hb5⟩
      have HB5 := Lib.hid (HB.out.trans (hb5.mono hzb))
      have hz5 := hb5.size
      have hz5' := HB5.out.size
      have BQ := BA.below HB5.out hqq
      have BV := BB.below HB5.out hq6
      clear y2 y4 e0 e1 e2 e3 e4 e5 e6 e7 hb5
      have y2 := BQ 2 _ rfl
      have y4 := BQ 4 _ rfl
      have e0 := BV 0 _ rfl
      have e1 := BV 1 _ rfl
      have e2 := BV 2 _ rfl
      have e3 := BV 3 _ rfl
      have e4 := BV 4 _ rfl
      have e5 := BV 5 _ rfl
      have e6 := BV 6 _ rfl
      have e7 := BV 7 _ rfl
      have HS5 := Lib.hid (SLD.out.below HB5.out (Nat.le_refl _))
      clear BQ BV
      have hkL : (k : Int) < (L : Int) := by omega
      have SOk := Lib.hid (SO.out (k : Int) w5 HS5.out)
      rw [hs1] at SOk
      generalize secV V (k : Int) = sv at *
      go_wp2_with fail
      refine SOk.out.mono ?_
      rintro e w6 ⟨rfl, hb6⟩
      have HB6 := Lib.hid (HB5.out.trans (hb6.mono hz5'))
      have y2' := (BA.below HB6.out hqq) 2 _ rfl
      have hC0 : C ≠ 0 := by omega
      have hC0' : (C == 0) = false := by simp [hC0]
      have hC1 : (C == -1) = false := by simp; omega
      have q0 : 0 ≤ (k : Int).tdiv C := Int.tdiv_nonneg (by omega) (by omega)
      have q1 : (k : Int).tdiv C ≤ (k : Int) := Int.tdiv_le_self _ (by omega)
      have hw1 : IntKind.i64.wrap (sv.tdiv C) = (k : Int).tdiv C := by rw [hs3]; exact IntWalk.i64_in _ (by omega)
      have hw2 : IntKind.i64.wrap ((k : Int).tdiv C) = (k : Int).tdiv C := IntWalk.i64_in _ (by omega)
      have HW3 := Lib.hid (show IntKind.i64.wrap ((k : Int) / C) = (k : Int).tdiv C by rw [← Int.tdiv_eq_ediv_of_nonneg (by omega)]; exact hw2)
      generalize (k : Int).tdiv C = q at *
      clear y2 y4 e0 e1 e2 e3 e4 e5 e6 e7 hb6 SOk DBk
      have hqq0 : (q != q) = false := by simp
      go_upto_region 13 with (fail)
      refine wp_region_held_drew (S := (fun w' => w'.cell? ⟨Q, 2, none⟩ = some (.int .i64 C))) (by kernel_rfl) y2' (fun hHeld => ?_)
      refine wpAnyH_take (i := 0) (oi := { dst := some 60, op := Op.move (Operand.tmp 10), type := 2, pos := "laws.go:471", after := #[], guard := none }) (v := ?_) rfl (by kernel_rfl) (by kernel_rfl) (by kernel_rfl) (fun _ _ _ h => h) (Or.inl ⟨by rfl, ?hy⟩) hHeld ?_
      case hy => (intro w' hSw; (try dsimp only at hSw); go_simp; try with_reducible rfl)
      simp only [Act.put, List.setIfInBounds_toArray, List.set_cons_zero, List.set_cons_succ]
      refine wpAnyH_take (i := 1) (oi := { dst := some 61, op := Op.binOp BinOp.neq 2 (Operand.tmp 60) (Operand.const (Value.int IntKind.i64 0)) 2, type := 4, pos := "laws.go:471", after := #[{ on := 0, ground := Ground.data }], guard := none }) (v := ?_) rfl (by kernel_rfl) (by kernel_rfl) (by kernel_rfl) (fun _ _ _ h => h) (Or.inl ⟨by rfl, ?hy⟩) hHeld ?_
      case hy => (intro w' hSw; (try dsimp only at hSw); go_simp; try with_reducible rfl)
      simp only [Act.put, List.setIfInBounds_toArray, List.set_cons_zero, List.set_cons_succ]
      refine wpAnyH_take (i := 2) (oi := { dst := some 62, op := Op.move (Operand.tmp 61), type := 4, pos := "laws.go:471", after := #[{ on := 1, ground := Ground.data }], guard := none }) (v := ?_) rfl (by kernel_rfl) (by kernel_rfl) (by kernel_rfl) (fun _ _ _ h => h) (Or.inl ⟨by rfl, ?hy⟩) hHeld ?_
      case hy => (intro w' hSw; (try dsimp only at hSw); go_simp; try with_reducible rfl)
      simp only [Act.put, List.setIfInBounds_toArray, List.set_cons_zero, List.set_cons_succ]
      refine wpAnyH_take (i := 3) (oi := { dst := some 63, op := Op.move (Operand.tmp 9), type := 2, pos := "laws.go:471", after := #[{ on := 2, ground := Ground.guard }], guard := some (2, false) }) (v := ?_) rfl (by kernel_rfl) (by kernel_rfl) (by kernel_rfl) (fun _ _ _ h => h) (Or.inl ⟨by rfl, ?hy⟩) hHeld ?_
      case hy => (intro w' hSw; (try dsimp only at hSw); go_simp; try with_reducible rfl)
      simp only [Act.put, List.setIfInBounds_toArray, List.set_cons_zero, List.set_cons_succ]
      refine wpAnyH_take (i := 4) (oi := { dst := some 64, op := Op.fieldAddr 26 (Operand.tmp 3) 2, type := 0, pos := "laws.go:471", after := #[{ on := 2, ground := Ground.guard }], guard := some (2, false) }) (v := ?_) rfl (by kernel_rfl) (by kernel_rfl) (by kernel_rfl) (fun _ _ _ h => h) (Or.inl ⟨by rfl, ?hy⟩) hHeld ?_
      case hy => (intro w' hSw; (try dsimp only at hSw); go_simp; try with_reducible rfl)
      simp only [Act.put, List.setIfInBounds_toArray, List.set_cons_zero, List.set_cons_succ]
      refine wpAnyH_take (i := 5) (oi := { dst := some 65, op := Op.load 2 (Operand.tmp 64), type := 2, pos := "laws.go:471", after := #[{ on := 4, ground := Ground.data }, { on := 2, ground := Ground.guard }], guard := some (2, false) }) (v := ?_) rfl (by kernel_rfl) (by kernel_rfl) (by kernel_rfl) (fun _ _ _ h => h) (Or.inl ⟨by rfl, ?hy⟩) hHeld ?_
      case hy => (intro w' hSw; (try dsimp only at hSw); go_simp; try with_reducible rfl)
      simp only [Act.put, List.setIfInBounds_toArray, List.set_cons_zero, List.set_cons_succ]
      refine wpAnyH_take (i := 6) (oi := { dst := some 66, op := Op.binOp BinOp.quo 2 (Operand.tmp 63) (Operand.tmp 65) 2, type := 2, pos := "laws.go:471", after := #[{ on := 3, ground := Ground.data }, { on := 5, ground := Ground.data }, { on := 2, ground := Ground.guard }], guard := some (2, false) }) (v := ?_) rfl (by kernel_rfl) (by kernel_rfl) (by kernel_rfl) (fun _ _ _ h => h) (Or.inl ⟨by rfl, ?hy⟩) hHeld ?_
      case hy => (intro w' hSw; (try dsimp only at hSw); go_simp; try with_reducible rfl)
      simp only [Act.put, List.setIfInBounds_toArray, List.set_cons_zero, List.set_cons_succ]
      refine wpAnyH_take (i := 7) (oi := { dst := some 67, op := Op.move (Operand.tmp 8), type := 2, pos := "laws.go:471", after := #[{ on := 2, ground := Ground.guard }], guard := some (2, false) }) (v := ?_) rfl (by kernel_rfl) (by kernel_rfl) (by kernel_rfl) (fun _ _ _ h => h) (Or.inl ⟨by rfl, ?hy⟩) hHeld ?_
      case hy => (intro w' hSw; (try dsimp only at hSw); go_simp; try with_reducible rfl)
      simp only [Act.put, List.setIfInBounds_toArray, List.set_cons_zero, List.set_cons_succ]
      refine wpAnyH_take (i := 8) (oi := { dst := some 68, op := Op.fieldAddr 26 (Operand.tmp 3) 2, type := 0, pos := "laws.go:471", after := #[{ on := 2, ground := Ground.guard }], guard := some (2, false) }) (v := ?_) rfl (by kernel_rfl) (by kernel_rfl) (by kernel_rfl) (fun _ _ _ h => h) (Or.inl ⟨by rfl, ?hy⟩) hHeld ?_
      case hy => (intro w' hSw; (try dsimp only at hSw); go_simp; try with_reducible rfl)
      simp only [Act.put, List.setIfInBounds_toArray, List.set_cons_zero, List.set_cons_succ]
      refine wpAnyH_take (i := 9) (oi := { dst := some 69, op := Op.load 2 (Operand.tmp 68), type := 2, pos := "laws.go:471", after := #[{ on := 8, ground := Ground.data }, { on := 2, ground := Ground.guard }], guard := some (2, false) }) (v := ?_) rfl (by kernel_rfl) (by kernel_rfl) (by kernel_rfl) (fun _ _ _ h => h) (Or.inl ⟨by rfl, ?hy⟩) hHeld ?_
      case hy => (intro w' hSw; (try dsimp only at hSw); go_simp; try with_reducible rfl)
      simp only [Act.put, List.setIfInBounds_toArray, List.set_cons_zero, List.set_cons_succ]
      refine wpAnyH_take (i := 10) (oi := { dst := some 70, op := Op.binOp BinOp.quo 2 (Operand.tmp 67) (Operand.tmp 69) 2, type := 2, pos := "laws.go:471", after := #[{ on := 7, ground := Ground.data }, { on := 9, ground := Ground.data }, { on := 2, ground := Ground.guard }], guard := some (2, false) }) (v := ?_) rfl (by kernel_rfl) (by kernel_rfl) (by kernel_rfl) (fun _ _ _ h => h) (Or.inl ⟨by rfl, ?hy⟩) hHeld ?_
      case hy => (intro w' hSw; (try dsimp only at hSw); go_simp; try with_reducible rfl)
      simp only [Act.put, List.setIfInBounds_toArray, List.set_cons_zero, List.set_cons_succ]
      refine wpAnyH_take (i := 11) (oi := { dst := some 71, op := Op.binOp BinOp.neq 2 (Operand.tmp 66) (Operand.tmp 70) 2, type := 4, pos := "laws.go:471", after := #[{ on := 6, ground := Ground.data }, { on := 10, ground := Ground.data }, { on := 2, ground := Ground.guard }], guard := some (2, false) }) (v := .bool false) rfl (by kernel_rfl) (by kernel_rfl) (by kernel_rfl) (fun _ _ _ h => h) (Or.inl ⟨by rfl, ?hy⟩) hHeld ?_
      case hy => (intro w' hSw; (try dsimp only at hSw); go_simp; first | done | exact HW3.out.symm)
      simp only [Act.put, List.setIfInBounds_toArray, List.set_cons_zero, List.set_cons_succ]
      refine wpAnyH_take (i := 12) (oi := { dst := some 72, op := Op.pick (Operand.tmp 62) (Operand.const (Value.bool true)) (Operand.tmp 71), type := 4, pos := "laws.go:471", after := #[{ on := 2, ground := Ground.data }, { on := 11, ground := Ground.data }], guard := none }) (v := .bool false) rfl (by kernel_rfl) (by kernel_rfl) (by kernel_rfl) (fun _ _ _ h => h) (Or.inl ⟨by rfl, ?hy⟩) hHeld ?_
      case hy => (intro w' hSw; (try dsimp only at hSw); (try go_simp); try rfl)
      simp only [Act.put, List.setIfInBounds_toArray, List.set_cons_zero, List.set_cons_succ]
      refine wpAnyH_done (by kernel_rfl) ?_ _
      go_wp2
      go_roundw
      case rel => exact ⟨k + 1, by omega, by go_num, HB6.out.drew⟩
      case measure => simp [intOf]; omega
    · have hnk : ¬ (k : Int) < (L : Int) - sp := hlt
      go_wp2_with fail
      refine DBk.out.mono ?_
      rintro e w5 ⟨rfl, hb5⟩
      have HB5 := Lib.hid (HB.out.trans (hb5.mono hzb))
      clear hb5
      go_wp2
      go_ret
      exact ⟨rfl, FB3.out.trans (HB5.out.mono FB3.out.size)⟩
end Go.Proofs.Ytllcbiafghhcmaa.fnDeviceOrder
