/- spec.DeviceBlocks, l15Ask, SectorOf, l15Readable, ReadDeviceBlock -/
import Derived.Test.YtjnabncfkogigaaPkReplaceBlockDevBlk
import Derived.Test.YtjnabncfkogigaaPkReplaceBlockDevOkSp
namespace Go.Proofs.Ytjnabncfkogigaa
open Go.RowKit Go.Maps
set_option linter.unusedVariables false
set_option linter.unusedSimpArgs false
set_option maxRecDepth 20000
set_option maxHeartbeats 2000000 in
theorem specDeviceBlocks_any (x : DeviceV) (s0 s1 : Option Addr) (c0 c1 : Nat) (hL : LenDevice 1048576 x) (hV : StrDevice 1048576 x) (w : World) (h : SlDevice w s0 s1 x) :
    Calls Try.prog 16 #[.agg #[.int .i64 x.f0.f0, .int .i64 x.f0.f1, .int .i64 x.f0.f2, .int .i64 x.f0.f3, .slice s0 x.f0.f4.length c0, .int .i64 x.f1, .int .i64 x.f2, .slice s1 x.f3.length c1]] w fun e w' => e = .returned (.int .i64 (devN x)) ∧ Below w.heap.size w w' := by
  have OK := Lib.hid (fun w' p (hb : Below w.heap.size w w') hp => l15Ok_any x s0 s1 c0 c1 p hL hV w' hp (h.below hb (Nat.le_refl _)))
  unfold devN
  clear h hV hL
  obtain ⟨q, hq⟩ : ∃ q, devB x = q := ⟨_, rfl⟩
  rw [hq] at OK ⊢
  clear hq
  cases q
  all_goals
    first | rw [if_pos rfl] | rw [if_neg (by simp)]
    go_enter Try.func16, Try.ntmps16
    go_wp2_with fail
    refine (OK.out _ _ (by go_grown) (BoxAt.new w _ 34 _ rfl)).mono ?_
    rintro e w1 ⟨rfl, hb1⟩
    have FB := Lib.hid (show Below w.heap.size w w1 from Below.trans (by go_grown) (hb1.mono (by simp)))
    have q7 := ((BoxAt.new w #[.int .i64 x.f0.f0, .int .i64 x.f0.f1, .int .i64 x.f0.f2, .int .i64 x.f0.f3, .slice s0 x.f0.f4.length c0, .int .i64 x.f1, .int .i64 x.f2, .slice s1 x.f3.length c1] 34 _ rfl).below hb1 (by simp)) 7 _ rfl
    clear hb1
    go_wp2
    go_ret
    exact ⟨rfl, FB.out⟩
set_option maxHeartbeats 2000000 in
theorem l15Ask_any (x : DeviceV) (s0 s1 : Option Addr) (c0 c1 p : Nat) (k : Int) (hL : LenDevice 1048576 x) (hV : StrDevice 1048576 x) (w : World) (hp : BoxAt w p #[.int .i64 x.f0.f0, .int .i64 x.f0.f1, .int .i64 x.f0.f2, .int .i64 x.f0.f3, .slice s0 x.f0.f4.length c0, .int .i64 x.f1, .int .i64 x.f2, .slice s1 x.f3.length c1]) (h : SlDevice w s0 s1 x) :
    Calls Try.prog 53 #[.pointer (some ⟨p, 0, none⟩), .int .i64 k] w fun e w' => e = .returned (.int .i64 (secC x k)) ∧ Below w.heap.size w w' := by
  have OK := Lib.hid (l15Ok_any x s0 s1 c0 c1 p hL hV w hp h)
  have LI := Lib.hid (fun w => l00In_any k 0 ((x.f3.length : Int) - 1) w)
  have hl1 : x.f3.length ≤ 1048576 := hL.2
  have hw1 : wrap64 ((x.f3.length : Int) - 1) = (x.f3.length : Int) - 1 := by unfold wrap64; omega
  have hw2 : IntKind.i64.wrap ((x.f3.length : Int) - 1) = (x.f3.length : Int) - 1 := IntWalk.i64_in _ (by omega)
  have hplt := hp.lt (by simp)
  have BX := Lib.hid hp
  unfold secC
  clear h hV hL hp
  obtain ⟨q, hq⟩ : ∃ q, devB x = q := ⟨_, rfl⟩
  rw [hq] at OK ⊢
  clear hq
  cases q with
  | false =>
    rw [if_neg (by simp)]
    go_enter Try.func53, Try.ntmps53
    go_wp2_with fail
    refine OK.out.mono ?_
    rintro e w1 ⟨rfl, hb1⟩
    go_wp2
    go_ret
    exact ⟨rfl, hb1⟩
  | true =>
    rw [if_pos rfl]
    obtain ⟨q, hq⟩ : ∃ q, inB 0 ((x.f3.length : Int) - 1) k = q := ⟨_, rfl⟩
    rw [hq] at LI ⊢
    clear hq
    cases q
    all_goals
      first | rw [if_pos rfl] | rw [if_neg (by simp)]
      go_enter Try.func53, Try.ntmps53
      go_wp2_with fail
      refine OK.out.mono ?_
      rintro e w1 ⟨rfl, hb1⟩
      have q7 := (BX.out.below hb1 hplt) 7 _ rfl
      go_wp2_with fail
      refine (LI.out _).mono ?_
      rintro e _ ⟨rfl, rfl⟩
      go_wp2
      go_ret
      exact ⟨rfl, hb1⟩
set_option maxHeartbeats 2000000 in
theorem specSectorOf_any (x : DeviceV) (s0 s1 : Option Addr) (c0 c1 : Nat) (k : Int) (hL : LenDevice 1048576 x) (hV : StrDevice 1048576 x) (w : World) (h : SlDevice w s0 s1 x) :
    Calls Try.prog 18 #[.agg #[.int .i64 x.f0.f0, .int .i64 x.f0.f1, .int .i64 x.f0.f2, .int .i64 x.f0.f3, .slice s0 x.f0.f4.length c0, .int .i64 x.f1, .int .i64 x.f2, .slice s1 x.f3.length c1], .int .i64 k] w fun e w' => e = .returned (.tuple #[.int .i64 (secV x k), .int .i64 (secC x k)]) ∧ Below w.heap.size w w' := by
  have AK := Lib.hid (fun w' p (hb : Below w.heap.size w w') hp => l15Ask_any x s0 s1 c0 c1 p k hL hV w' hp (h.below hb (Nat.le_refl _)))
  by_cases hc : secC x k = 0
  case neg =>
    have hv : secV x k = 0 := by unfold secV; rw [if_neg hc]
    rw [hv]
    have hcb : (secC x k != 0) = true := by simp [hc]
    clear hv hc h hL hV
    go_enter Try.func18, Try.ntmps18
    go_wp2_with fail
    refine (AK.out _ _ (by go_grown) (BoxAt.new w _ 34 _ rfl)).mono ?_
    rintro e w1 ⟨rfl, hb1⟩
    have FB := Lib.hid (show Below w.heap.size w w1 from Below.trans (by go_grown) (hb1.mono (by simp))); clear hb1
    go_wp2
    go_ret2
    exact ⟨rfl, FB.out⟩
  case pos =>
    obtain ⟨j, i, rfl, hx, hv, _⟩ := secV_at hc
    rw [hc, hv]
    rw [hc] at AK
    have HZ := Lib.hid (fun w' (hb : Below w.heap.size w w') => (h.2.below hb (Nat.le_refl _)).cell hx)
    have hj : j < x.f3.length := (List.getElem?_eq_some_iff.1 hx).1
    have ej : (j : Int) < (x.f3.length : Int) := by omega
    clear hc hv hx h hL hV
    go_enter Try.func18, Try.ntmps18
    go_wp2_with fail
    refine (AK.out _ _ (by go_grown) (BoxAt.new w _ 34 _ rfl)).mono ?_
    rintro e w1 ⟨rfl, hb1⟩
    have FB := Lib.hid (show Below w.heap.size w w1 from Below.trans (by go_grown) (hb1.mono (by simp)))
    have q7 := ((BoxAt.new w #[.int .i64 x.f0.f0, .int .i64 x.f0.f1, .int .i64 x.f0.f2, .int .i64 x.f0.f3, .slice s0 x.f0.f4.length c0, .int .i64 x.f1, .int .i64 x.f2, .slice s1 x.f3.length c1] 34 _ rfl).below hb1 (by simp)) 7 _ rfl
    obtain ⟨b, off, hb, hcx⟩ := HZ.out _ FB.out
    rw [hb] at q7
    clear hb1 hb
    go_wp2
    go_ret2
    exact ⟨rfl, FB.out⟩
set_option maxHeartbeats 2000000 in
theorem l15Readable_any (e : SectorV) (w : World) :
    Calls Try.prog 55 #[.agg #[.string e.f0, .int .i64 e.f1]] w fun x w' => x = .returned (.bool (goodS e)) ∧ Below w.heap.size w w' := by
  obtain ⟨d, st⟩ := e
  unfold goodS
  dsimp only
  by_cases h1 : st = 1
  · subst h1
    go_enter Try.func55, Try.ntmps55
    go_wp2
    go_ret
    exact ⟨rfl, by go_grown⟩
  have e1 : (st == 1) = false := by simp [h1]
  rw [decide_eq_false h1, Bool.false_or]
  have e4 : (st == 4) = decide (st = 4) := by rfl
  clear h1
  go_enter Try.func55, Try.ntmps55
  go_wp2
  go_ret
  exact ⟨rfl, by go_grown⟩
set_option maxHeartbeats 4000000 in
theorem specReadDeviceBlock_any (x : DeviceV) (s0 s1 : Option Addr) (c0 c1 : Nat) (k : Int) (hL : LenDevice 1048576 x) (hV : StrDevice 1048576 x) (w : World) (h : SlDevice w s0 s1 x) :
    Calls Try.prog 20 #[.agg #[.int .i64 x.f0.f0, .int .i64 x.f0.f1, .int .i64 x.f0.f2, .int .i64 x.f0.f3, .slice s0 x.f0.f4.length c0, .int .i64 x.f1, .int .i64 x.f2, .slice s1 x.f3.length c1], .int .i64 k] w fun e w' => e = .returned (.tuple #[.string (rdV x k), .int .i64 (rdC x k)]) ∧ Below w.heap.size w w' := by
  have AK := Lib.hid (fun w' p (hb : Below w.heap.size w w') hp => l15Ask_any x s0 s1 c0 c1 p k hL hV w' hp (h.below hb (Nat.le_refl _)))
  by_cases hc : secC x k = 0
  case neg =>
    have hr : rdC x k = secC x k := by unfold rdC; rw [if_neg hc]
    have hv : rdV x k = ByteArray.empty := by unfold rdV; rw [hr, if_neg hc]
    rw [hr, hv]
    have hcb : (secC x k != 0) = true := by simp [hc]
    clear hr hv hc h hL hV
    go_enter Try.func20, Try.ntmps20
    go_wp2_with fail
    refine (AK.out _ _ (by go_grown) (BoxAt.new w _ 34 _ rfl)).mono ?_
    rintro e w1 ⟨rfl, hb1⟩
    have FB := Lib.hid (show Below w.heap.size w w1 from Below.trans (by go_grown) (hb1.mono (by simp))); clear hb1
    go_wp2
    go_ret2
    exact ⟨rfl, FB.out⟩
  case pos =>
    obtain ⟨j, i, rfl, hx, hv, e, he, hse⟩ := secV_at hc
    have hr : rdC x (j : Int) = if goodS e = true then 0 else 10 := by unfold rdC; rw [if_pos hc, hse]
    have hw : rdV x (j : Int) = if goodS e = true then e.f0 else ByteArray.empty := by
      unfold rdV
      rw [hr, hse]
      by_cases hg : goodS e = true
      · simp [hg]
      · simp [hg]
    rw [hr, hw]
    rw [hc] at AK
    have RD := Lib.hid (fun w => l15Readable_any e w)
    have HA := Lib.hid (fun w' (hb : Below w.heap.size w w') => (h.1.below hb (Nat.le_refl _)).at rowSector_len he)
    have HZ := Lib.hid (fun w' (hb : Below w.heap.size w w') => (h.2.below hb (Nat.le_refl _)).cell hx)
    have hil : i < x.f0.f4.length := (List.getElem?_eq_some_iff.1 he).1
    have hj : j < x.f3.length := (List.getElem?_eq_some_iff.1 hx).1
    have ej : (j : Int) < (x.f3.length : Int) := by omega
    have ei : (i : Int) < (x.f0.f4.length : Int) := by omega
    clear hr hw hv hc hx hse he h hL hV
    obtain ⟨g, hg⟩ : ∃ g, goodS e = g := ⟨_, rfl⟩
    rw [hg] at RD ⊢
    clear hg
    cases g
    all_goals
      first | rw [if_pos rfl, if_pos rfl] | rw [if_neg (by simp), if_neg (by simp)]
      go_enter Try.func20, Try.ntmps20
      go_wp2_with fail
      refine (AK.out _ _ (by go_grown) (BoxAt.new w _ 34 _ rfl)).mono ?_
      rintro e_ w1 ⟨rfl, hb1⟩
      have FB := Lib.hid (show Below w.heap.size w w1 from Below.trans (by go_grown) (hb1.mono (by simp)))
      have q := (BoxAt.new w #[.int .i64 x.f0.f0, .int .i64 x.f0.f1, .int .i64 x.f0.f2, .int .i64 x.f0.f3, .slice s0 x.f0.f4.length c0, .int .i64 x.f1, .int .i64 x.f2, .slice s1 x.f3.length c1] 34 _ rfl).below hb1 (by simp)
      have hlt : w.heap.size < w1.heap.size := Nat.lt_of_lt_of_le (by simp) hb1.size
      have q4 := q 4 _ rfl
      have q7 := q 7 _ rfl
      obtain ⟨b, off, hb, hbl, hcs⟩ := HA.out _ FB.out
      obtain ⟨b2, off2, hb2, hcx⟩ := HZ.out _ FB.out
      have d0 : w1.cell? ⟨b, off + i * 2, none⟩ = some (.string e.f0) := hcs 0 _ rfl
      have d1 : w1.cell? ⟨b, off + i * 2 + 1, none⟩ = some (.int .i64 e.f1) := hcs 1 _ rfl
      rw [hb] at q4
      rw [hb2] at q7
      have hbl2 : b2 < w1.heap.size := World.block_lt_of_cell? w1 _ hcx
      have KX := Lib.hid (fun w' (hb : Below w1.heap.size w1 w') => (show w'.cell? ⟨w.heap.size, 4, none⟩ = some (.slice (some ⟨b, off, none⟩) x.f0.f4.length c0) ∧ w'.cell? ⟨w.heap.size, 7, none⟩ = some (.slice (some ⟨b2, off2, none⟩) x.f3.length c1) ∧ w'.cell? ⟨b2, off2 + j, none⟩ = some (.int .i64 (i : Int)) ∧ w'.cell? ⟨b, off + i * 2, none⟩ = some (.string e.f0) ∧ w'.cell? ⟨b, off + i * 2 + 1, none⟩ = some (.int .i64 e.f1) from ⟨by rw [hb.cell (p := ⟨w.heap.size, 4, none⟩) hlt]; exact q4, by rw [hb.cell (p := ⟨w.heap.size, 7, none⟩) hlt]; exact q7, by rw [hb.cell (p := ⟨b2, off2 + j, none⟩) hbl2]; exact hcx, by rw [hb.cell (p := ⟨b, off + i * 2, none⟩) hbl]; exact d0, by rw [hb.cell (p := ⟨b, off + i * 2 + 1, none⟩) hbl]; exact d1⟩))
      clear hb1 hb hcs q hb2
      go_upto_region 4 with (fail)
      have HC := Lib.hid (show Below w1.heap.size w1 w1.drew from (Below.refl _ _).drew)
      refine wp_region_held_drew (S := (fun w' => w'.cell? ⟨w.heap.size, 4, none⟩ = some (.slice (some ⟨b, off, none⟩) x.f0.f4.length c0) ∧ w'.cell? ⟨w.heap.size, 7, none⟩ = some (.slice (some ⟨b2, off2, none⟩) x.f3.length c1) ∧ w'.cell? ⟨b2, off2 + j, none⟩ = some (.int .i64 (i : Int)) ∧ w'.cell? ⟨b, off + i * 2, none⟩ = some (.string e.f0) ∧ w'.cell? ⟨b, off + i * 2 + 1, none⟩ = some (.int .i64 e.f1))) (by kernel_rfl) (KX.out _ HC.out) (fun hHeld => ?_)
      refine wpAnyH_take (i := 0) (oi := { dst := some 13, op := Op.fieldAddr 34 (Operand.tmp 2) 0, type := 0, pos := "l15_blocks.go:79", after := #[], guard := none }) (v := ?_) rfl (by kernel_rfl) (by kernel_rfl) (by kernel_rfl) (fun _ _ _ h => h) (Or.inl ⟨by rfl, ?hy⟩) hHeld ?_
      case hy => (intro w' hSw; (try dsimp only at hSw); go_simp; try with_reducible rfl)
      simp only [Act.put, List.setIfInBounds_toArray, List.set_cons_zero, List.set_cons_succ]
      refine wpAnyH_take (i := 1) (oi := { dst := some 14, op := Op.fieldAddr 32 (Operand.tmp 13) 4, type := 0, pos := "l15_blocks.go:79", after := #[{ on := 0, ground := Ground.data }], guard := none }) (v := ?_) rfl (by kernel_rfl) (by kernel_rfl) (by kernel_rfl) (fun _ _ _ h => h) (Or.inl ⟨by rfl, ?hy⟩) hHeld ?_
      case hy => (intro w' hSw; (try dsimp only at hSw); go_simp; try with_reducible rfl)
      simp only [Act.put, List.setIfInBounds_toArray, List.set_cons_zero, List.set_cons_succ]
      refine wpAnyH_take (i := 2) (oi := { dst := some 15, op := Op.load 30 (Operand.tmp 14), type := 30, pos := "l15_blocks.go:79", after := #[{ on := 1, ground := Ground.data }], guard := none }) (v := ?_) rfl (by kernel_rfl) (by kernel_rfl) (by kernel_rfl) (fun _ _ _ h => h) (Or.inl ⟨by rfl, ?hy⟩) hHeld ?_
      case hy => (intro w' hSw; (try dsimp only at hSw); go_simp; try with_reducible rfl)
      simp only [Act.put, List.setIfInBounds_toArray, List.set_cons_zero, List.set_cons_succ]
      refine wpAnyH_take (i := 3) (oi := { dst := some 16, op := Op.fieldAddr 34 (Operand.tmp 2) 3, type := 0, pos := "l15_blocks.go:79", after := #[], guard := none }) (v := ?_) rfl (by kernel_rfl) (by kernel_rfl) (by kernel_rfl) (fun _ _ _ h => h) (Or.inl ⟨by rfl, ?hy⟩) hHeld ?_
      case hy => (intro w' hSw; (try dsimp only at hSw); go_simp; try with_reducible rfl)
      simp only [Act.put, List.setIfInBounds_toArray, List.set_cons_zero, List.set_cons_succ]
      refine wpAnyH_take (i := 4) (oi := { dst := some 17, op := Op.load 25 (Operand.tmp 16), type := 25, pos := "l15_blocks.go:79", after := #[{ on := 3, ground := Ground.data }], guard := none }) (v := ?_) rfl (by kernel_rfl) (by kernel_rfl) (by kernel_rfl) (fun _ _ _ h => h) (Or.inl ⟨by rfl, ?hy⟩) hHeld ?_
      case hy => (intro w' hSw; (try dsimp only at hSw); go_simp; try with_reducible rfl)
      simp only [Act.put, List.setIfInBounds_toArray, List.set_cons_zero, List.set_cons_succ]
      refine wpAnyH_take (i := 5) (oi := { dst := some 18, op := Op.move (Operand.tmp 1), type := 2, pos := "l15_blocks.go:79", after := #[], guard := none }) (v := ?_) rfl (by kernel_rfl) (by kernel_rfl) (by kernel_rfl) (fun _ _ _ h => h) (Or.inl ⟨by rfl, ?hy⟩) hHeld ?_
      case hy => (intro w' hSw; (try dsimp only at hSw); go_simp; try with_reducible rfl)
      simp only [Act.put, List.setIfInBounds_toArray, List.set_cons_zero, List.set_cons_succ]
      refine wpAnyH_take (i := 6) (oi := { dst := some 19, op := Op.indexAddr 25 (Operand.tmp 17) (Operand.tmp 18), type := 0, pos := "l15_blocks.go:79", after := #[{ on := 4, ground := Ground.data }, { on := 5, ground := Ground.data }], guard := none }) (v := ?_) rfl (by kernel_rfl) (by kernel_rfl) (by kernel_rfl) (fun _ _ _ h => h) (Or.inl ⟨by rfl, ?hy⟩) hHeld ?_
      case hy => (intro w' hSw; (try dsimp only at hSw); go_simp; try with_reducible rfl)
      simp only [Act.put, List.setIfInBounds_toArray, List.set_cons_zero, List.set_cons_succ]
      refine wpAnyH_take (i := 7) (oi := { dst := some 20, op := Op.load 2 (Operand.tmp 19), type := 2, pos := "l15_blocks.go:79", after := #[{ on := 6, ground := Ground.data }], guard := none }) (v := ?_) rfl (by kernel_rfl) (by kernel_rfl) (by kernel_rfl) (fun _ _ _ h => h) (Or.inl ⟨by rfl, ?hy⟩) hHeld ?_
      case hy => (intro w' hSw; (try dsimp only at hSw); go_simp; try with_reducible rfl)
      simp only [Act.put, List.setIfInBounds_toArray, List.set_cons_zero, List.set_cons_succ]
      refine wpAnyH_take (i := 8) (oi := { dst := some 21, op := Op.indexAddr 30 (Operand.tmp 15) (Operand.tmp 20), type := 0, pos := "l15_blocks.go:79", after := #[{ on := 2, ground := Ground.data }, { on := 7, ground := Ground.data }], guard := none }) (v := ?_) rfl (by kernel_rfl) (by kernel_rfl) (by kernel_rfl) (fun _ _ _ h => h) (Or.inl ⟨by rfl, ?hy⟩) hHeld ?_
      case hy => (intro w' hSw; (try dsimp only at hSw); go_simp; try with_reducible rfl)
      simp only [Act.put, List.setIfInBounds_toArray, List.set_cons_zero, List.set_cons_succ]
      refine wpAnyH_take (i := 9) (oi := { dst := some 22, op := Op.load 84 (Operand.tmp 21), type := 84, pos := "l15_blocks.go:79", after := #[{ on := 8, ground := Ground.data }], guard := none }) (v := ?_) rfl (by kernel_rfl) (by kernel_rfl) (by kernel_rfl) (fun _ _ _ h => h) (Or.inl ⟨by rfl, ?hy⟩) hHeld ?_
      case hy => (intro w' hSw; (try dsimp only at hSw); go_simp; try with_reducible rfl)
      simp only [Act.put, List.setIfInBounds_toArray, List.set_cons_zero, List.set_cons_succ]
      refine wpAnyH_ready (rs := [10]) (by kernel_rfl) (by simp) ?_
      refine AllReadyH.cons (o := { dst := some 7, op := Op.alloc 84, type := 0, pos := "l15_blocks.go:79", after := #[], guard := none }) rfl (fun K hK => ?_) AllReadyH.nil
      go_simp
      refine hK.out _ _ (KX.out _ (HC.out.alloc HC.out.size _)) (fun hHeld => ?_)
      clear hK K
      try simp only [Act.put, List.setIfInBounds_toArray, List.set_cons_zero, List.set_cons_succ]
      refine wpAnyH_ready (rs := [11]) (by kernel_rfl) (by simp) ?_
      refine AllReadyH.cons (o := { dst := none, op := Op.store 84 (Operand.tmp 7) (Operand.tmp 22), type := 0, pos := "l15_blocks.go:79", after := #[{ on := 10, ground := Ground.data }, { on := 9, ground := Ground.data }, { on := 0, ground := Ground.phase }, { on := 1, ground := Ground.phase }, { on := 2, ground := Ground.phase }, { on := 3, ground := Ground.phase }, { on := 4, ground := Ground.phase }, { on := 5, ground := Ground.phase }, { on := 6, ground := Ground.phase }, { on := 7, ground := Ground.phase }, { on := 8, ground := Ground.phase }, { on := 9, ground := Ground.phase }, { on := 10, ground := Ground.phase }], guard := none }) rfl (fun K hK => ?_) AllReadyH.nil
      go_simp
      refine hK.out _ _ (KX.out _ (HC.out.alloc HC.out.size _)) (fun hHeld => ?_)
      clear hK K
      try simp only [Act.put, List.setIfInBounds_toArray, List.set_cons_zero, List.set_cons_succ]
      refine wpAnyH_done (by kernel_rfl) ?_ _
      have FB3 := Lib.hid (show Below w1.heap.size w1 (w1.alloc (.cells #[.string e.f0, .int .i64 e.f1] 84)).drew from HC.out.alloc HC.out.size _)
      go_wp2_with fail
      refine (RD.out _).mono ?_
      rintro e_ w2 ⟨rfl, hb2⟩
      have q0 : w2.cell? ⟨w1.heap.size, 0, none⟩ = some (.string e.f0) := by rw [hb2.cell (p := ⟨w1.heap.size, 0, none⟩) (by show w1.heap.size < (w1.alloc _).heap.size; simp)]; simp [go_sem]
      have FB4 := Lib.hid (FB.out.trans ((FB3.out.trans (hb2.mono FB3.out.size)).mono FB.out.size)); clear hb2
      go_wp2
      go_ret2
      exact ⟨rfl, FB4.out⟩
end Go.Proofs.Ytjnabncfkogigaa
