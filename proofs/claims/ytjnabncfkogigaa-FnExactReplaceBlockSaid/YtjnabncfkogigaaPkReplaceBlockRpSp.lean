/- spec.ReplaceBlock -/
import Derived.Test.YtjnabncfkogigaaPkReplaceBlockRpIm
import Derived.Test.YtjnabncfkogigaaPkReplaceBlockOrdSp
import Derived.Test.YtjnabncfkogigaaPkReplaceBlockDevBlkSp
import Derived.Test.YtjnabncfkogigaaPkReplaceBlockHasI
namespace Go.Proofs.Ytjnabncfkogigaa
open Go.RowKit
set_option linter.unusedVariables false
set_option linter.unusedSimpArgs false
set_option maxRecDepth 20000
theorem box85 {w : World} {p : Nat} {a b c d e f g h : Value} (hp : BoxAt w p #[a, b, c, d, e, f, g, h]) : BoxAt w p #[a, b, c, d, e] := by
  intro i v hv
  match i, hv with
  | 0, hv => exact hp 0 v hv
  | 1, hv => exact hp 1 v hv
  | 2, hv => exact hp 2 v hv
  | 3, hv => exact hp 3 v hv
  | 4, hv => exact hp 4 v hv
  | i + 5, hv => simp at hv
set_option maxHeartbeats 8000000 in
theorem specReplaceBlock_any (x : DeviceV) (s0 s1 : Option Addr) (c0 c1 : Nat) (k : Int) (hL : LenDevice 1048576 x) (hV : StrDevice 1048576 x) (w : World) (h : SlDevice w s0 s1 x) :
    Calls Try.prog 32 #[.agg #[.int .i64 x.f0.f0, .int .i64 x.f0.f1, .int .i64 x.f0.f2, .int .i64 x.f0.f3, .slice s0 x.f0.f4.length c0, .int .i64 x.f1, .int .i64 x.f2, .slice s1 x.f3.length c1], .int .i64 k] w (DevRes (rpV x k) (rpC x k) w) := by
  have AK := Lib.hid (fun w' p (hb : Below w.heap.size w w') hp => l15Ask_any x s0 s1 c0 c1 p k hL hV w' hp (h.below hb (Nat.le_refl _)))
  have HA0 : BoxF ((w.alloc (.cells #[.int .i64 x.f0.f0, .int .i64 x.f0.f1, .int .i64 x.f0.f2, .int .i64 x.f0.f3, .slice s0 x.f0.f4.length c0, .int .i64 x.f1, .int .i64 x.f2, .slice s1 x.f3.length c1] 34)).alloc (.cells #[.int .i64 0, .int .i64 0, .int .i64 0, .int .i64 0, .slice none 0 0, .int .i64 0, .int .i64 0, .slice none 0 0] 34)) w.heap.size #[.int .i64 x.f0.f0, .int .i64 x.f0.f1, .int .i64 x.f0.f2, .int .i64 x.f0.f3, .slice s0 x.f0.f4.length c0, .int .i64 x.f1, .int .i64 x.f2, .slice s1 x.f3.length c1] := (BoxF.new w #[.int .i64 x.f0.f0, .int .i64 x.f0.f1, .int .i64 x.f0.f2, .int .i64 x.f0.f3, .slice s0 x.f0.f4.length c0, .int .i64 x.f1, .int .i64 x.f2, .slice s1 x.f3.length c1] 34 _ rfl).below ((Below.refl _ _).alloc (Nat.le_refl _) _) (by simp)
  have HR0 : BoxF ((w.alloc (.cells #[.int .i64 x.f0.f0, .int .i64 x.f0.f1, .int .i64 x.f0.f2, .int .i64 x.f0.f3, .slice s0 x.f0.f4.length c0, .int .i64 x.f1, .int .i64 x.f2, .slice s1 x.f3.length c1] 34)).alloc (.cells #[.int .i64 0, .int .i64 0, .int .i64 0, .int .i64 0, .slice none 0 0, .int .i64 0, .int .i64 0, .slice none 0 0] 34)) (w.heap.size + 1) #[.int .i64 0, .int .i64 0, .int .i64 0, .int .i64 0, .slice none 0 0, .int .i64 0, .int .i64 0, .slice none 0 0] := BoxF.new _ _ _ _ (by simp)
  replace HA0 := Lib.hid HA0; replace HR0 := Lib.hid HR0
  by_cases hs : secC x k = 0
  case neg =>
    have hc : rpC x k = secC x k := by unfold rpC; rw [if_neg hs]
    have hv : rpV x k = devZ := by unfold rpV; rw [if_neg hs]
    rw [hc, hv]
    have hsb : (secC x k != 0) = true := by simp [hs]
    clear hc hv hs h hL hV
    go_enter Try.func32, Try.ntmps32
    go_wp2_with fail
    refine (AK.out _ _ (by go_grown) HA0.out.box).mono ?_
    rintro e w1 ⟨rfl, hb1⟩
    have R := Lib.hid (HR0.out.below hb1 (by simp))
    have FB := Lib.hid (show Below w.heap.size w w1 from Below.trans (by go_grown) (hb1.mono (by simp <;> omega)))
    clear hb1
    obtain ⟨r0, y0⟩ := R.out 0 _ rfl; obtain ⟨r1, y1⟩ := R.out 1 _ rfl; obtain ⟨r2, y2⟩ := R.out 2 _ rfl; obtain ⟨r3, y3⟩ := R.out 3 _ rfl; obtain ⟨r4, y4⟩ := R.out 4 _ rfl; obtain ⟨r5, y5⟩ := R.out 5 _ rfl; obtain ⟨r6, y6⟩ := R.out 6 _ rfl; obtain ⟨r7, y7⟩ := R.out 7 _ rfl
    go_wp2
    exact bodyPost_ret (v := .tuple #[.agg #[.int .i64 0, .int .i64 0, .int .i64 0, .int .i64 0, .slice none 0 0, .int .i64 0, .int .i64 0, .slice none 0 0], .int .i64 (secC x k)]) (by simp [results, Try.results32, go_sem, r0, y0, r1, y1, r2, y2, r3, y3, r4, y4, r5, y5, r6, y6, r7, y7]) rfl ⟨none, none, 0, 0, rfl, devZ_own _ _ _, ((((((((FB.out).setCell (by simp <;> omega) _).setCell (by simp <;> omega) _).setCell (by simp <;> omega) _).setCell (by simp <;> omega) _).setCell (by simp <;> omega) _).setCell (by simp <;> omega) _).setCell (by simp <;> omega) _).setCell (by simp <;> omega) _⟩
  obtain ⟨hdv, _⟩ := secC_cases hs
  rw [hs] at AK
  obtain ⟨hn0, hn1⟩ := devB_ne hdv
  obtain ⟨f1', f2', f3', f4', f5', f6', f7', f8'⟩ := devB_facts hdv
  have hsk : inB 0 7 x.f1 = true := by
    have hdv2 := hdv
    unfold devB at hdv2
    simp only [Bool.and_eq_true] at hdv2
    exact hdv2.2.1
  obtain ⟨sk0, sk1⟩ := inB_iff.1 hsk
  obtain ⟨j, i, rfl, hx, hv, e, he, hse⟩ := secV_at hs
  obtain ⟨n, hnn1, hnn2, hnn3, hall⟩ := devB_size hdv
  have hgz := (geoB_iff.1 f2').2.2.2
  obtain ⟨⟨f0, f1, f2, f3, es⟩, sk, sp, zs⟩ := x
  obtain ⟨T, C, hC, hT, hN, hN1, hN8, hg⟩ := disc_nums f1'
  dsimp only at *
  subst hC
  obtain ⟨S, rfl⟩ : ∃ S : Nat, sk = (S : Int) := ⟨sk.toNat, by omega⟩
  have hrp : rpF ⟨⟨f0, f1, (C : Int), f3, es⟩, (S : Int), sp, zs⟩ = freeK C S zs es.length := by unfold rpF; simp
  have hCp : 0 < C := by have := (geoB_iff.1 hg).2.2.1; omega
  have h1 := h.2
  have h0 := h.1
  obtain ⟨b2, off2, hb2e, hcx0⟩ := h1.cell hx
  subst hb2e
  have hbl2 : b2 < w.heap.size := World.block_lt_of_cell? w _ hcx0
  obtain ⟨b, off, hbe, hbl, hcs0⟩ := h0.at rowSector_len he
  subst hbe
  have OD := Lib.hid (fun w' p v hp => l15Order_any f0 f1 f3 T C S es.length p v hg hT hN (by omega) hN1 w' hp)
  have HH := Lib.hid (fun w' z (hb : Below w.heap.size w w') => (l00Has_any (some ⟨b2, off2, none⟩) zs c1 z w' hL.2 (h1.below hb (Nat.le_refl _))).mono (fun e w'' ⟨he, hw⟩ => (show e = Ending.returned (.bool (hasB zs z)) ∧ Below w'.heap.size w' w'' from ⟨he, hw ▸ Below.refl _ _⟩)))
  have OW := Lib.hid (fun w' p (hb : Below w.heap.size w w') hp => l15Own_any ⟨⟨f0, f1, (C : Int), f3, es⟩, (S : Int), sp, zs⟩ (some ⟨b, off, none⟩) (some ⟨b2, off2, none⟩) c0 c1 p w' hL hn0 hn1 hp (h.below hb (Nat.le_refl _)))
  have RD := Lib.hid (fun w => l15Readable_any e w)
  have h02 : inB 0 2 f3 = true := inB_iff.2 hgz
  have BY := Lib.hid (fun w => l12Bytes_any f3 n w h02 hnn1)
  have ZE := Lib.hid (fun w => l01Zeros_any n (by omega) w)
  have hen : e.f0.size = n := (hall e (List.mem_of_getElem? he)).1
  have HEN := Lib.hid hen
  have HCE := Lib.hid hcs0
  have HCX := Lib.hid hcx0
  have HOL := Lib.hid (ordL_len C S es.length)
  have HOG := Lib.hid (fun q (hq : q < es.length) => ordL_get (c := C) (sk := S) hq)
  have HLT := Lib.hid (fun q (hq : q < es.length) => (show ordAt C S q < es.length from by rw [hN]; exact ordAt_lt hCp (by rw [← hN]; exact hq)))
  have hil : i < es.length := (List.getElem?_eq_some_iff.1 he).1
  have ei : (i : Int) < (es.length : Int) := by omega
  have hjl : j < zs.length := (List.getElem?_eq_some_iff.1 hx).1
  have ej : (j : Int) < (zs.length : Int) := by omega
  have HX := Lib.hid hx
  have hcN : freeK C S zs es.length = none → rpC ⟨⟨f0, f1, (C : Int), f3, es⟩, (S : Int), sp, zs⟩ (j : Int) = 5 ∧ rpV ⟨⟨f0, f1, (C : Int), f3, es⟩, (S : Int), sp, zs⟩ (j : Int) = devZ := fun hf => ⟨by unfold rpC; rw [if_pos hs, hrp, hf], by unfold rpV; rw [if_pos hs, hrp, hf]⟩
  have hcS : ∀ z2 : Nat, freeK C S zs es.length = some (z2 : Int) → rpC ⟨⟨f0, f1, (C : Int), f3, es⟩, (S : Int), sp, zs⟩ (j : Int) = 0 ∧ rpV ⟨⟨f0, f1, (C : Int), f3, es⟩, (S : Int), sp, zs⟩ (j : Int) = { setS ⟨⟨f0, f1, (C : Int), f3, es⟩, (S : Int), sp, zs⟩ z2 ⟨contV e, 1⟩ with f3 := zs.set j (z2 : Int) } := fun z2 hf => ⟨by unfold rpC; rw [if_pos hs, hrp, hf], by unfold rpV; rw [if_pos hs, hrp, hf]; simp only [Int.toNat_natCast, hse]⟩
  have HCN := Lib.hid (And.intro hcN hcS)
  clear hcN hcS hs hdv hn0 hn1 f1' f2' f3' f4' f5' f6' f7' f8' hsk sk0 sk1 hx hv he hse hnn1 hnn2 hnn3 hall hgz hT hN hg hL hV h h0 h1 hcx0 hcs0 h02 hen hCp hrp
  go_enter Try.func32, Try.ntmps32
  go_wp2_with fail
  refine (AK.out _ _ (by go_grown) HA0.out.box).mono ?_
  rintro e_ w1 ⟨rfl, hb1⟩
  have R := Lib.hid (HR0.out.below hb1 (by simp))
  have A := Lib.hid (HA0.out.below hb1 (by simp; omega))
  have FB := Lib.hid (show Below w.heap.size w w1 from Below.trans (by go_grown) (hb1.mono (by simp <;> omega)))
  have hz1 : w.heap.size + 1 < w1.heap.size := Nat.lt_of_lt_of_le (by simp) hb1.size
  clear hb1 HA0 HR0
  obtain ⟨a0, z0⟩ := A.out 0 _ rfl; obtain ⟨a1, z1⟩ := A.out 1 _ rfl; obtain ⟨a2, z2⟩ := A.out 2 _ rfl; obtain ⟨a3, z3⟩ := A.out 3 _ rfl; obtain ⟨a4, z4⟩ := A.out 4 _ rfl; obtain ⟨a5, z5⟩ := A.out 5 _ rfl; obtain ⟨a6, z6⟩ := A.out 6 _ rfl; obtain ⟨a7, z7⟩ := A.out 7 _ rfl
  go_wp2_with fail
  refine (OD.out _ _ _ (box85 A.out.box)).mono ?_
  rintro e_ w2 ⟨g, cap, rfl, hcp, hcx, hog, hb2⟩
  clear a0 z0 a1 z1 a2 z2 a3 z3 a4 z4 a5 z5 a6 z6 a7 z7
  replace R := Lib.hid (R.out.below hb2 hz1)
  replace A := Lib.hid (A.out.below hb2 (show w.heap.size < _ by omega))
  replace FB := Lib.hid (FB.out.trans (hb2.mono FB.out.size))
  have hz2 : w.heap.size + 1 < w2.heap.size := Nat.lt_of_lt_of_le hz1 hb2.size
  have hgg : w1.heap.size ≤ g := hog.choose_spec.1
  have hgl := hog.lt
  rw [HOL.out]
  rw [HOL.out] at hcp
  have HOG2 := Lib.hid hog
  have HCP := Lib.hid hcp
  clear hb2 hog hcp hcx
  go_wp2
  go_loopw [8] (fun i wr => ∃ k : Nat, k ≤ es.length ∧ i = .int .i64 (k : Int) ∧ Hid (freeK C S zs k = none) ∧ Below w2.heap.size w2 wr) (fun i _ => es.length - (intOf i).toNat)
  case atStart => exact ⟨0, Nat.zero_le _, rfl, by unfold Hid; rfl, Below.refl _ _⟩
  case round =>
    obtain ⟨k, hk, rfl, hfr, hb⟩ := hrel
    have hzw := hb.size
    have hA := A.out.below hb (show w.heap.size < w2.heap.size by omega)
    have hR := R.out.below hb hz2
    have HB := Lib.hid hb; clear hb
    have HAR := Lib.hid hA; have HRR := Lib.hid hR; clear hA hR
    have FBr := Lib.hid (FB.out.trans (HB.out.mono FB.out.size))
    by_cases hlt : k < es.length
    · have ek : (k : Int) < (es.length : Int) := by omega
      obtain ⟨z2, hz2e⟩ : ∃ z2, ordAt C S k = z2 := ⟨_, rfl⟩
      have hz2l := HLT.out k hlt
      have hok := HOG.out k hlt
      have hsucc := freeK_succ C S zs k hfr.out
      rw [hz2e] at hz2l hok hsucc
      have HSU := Lib.hid hsucc
      have ez2 : (z2 : Int) < (es.length : Int) := by omega
      have hoc : w2.cell? ⟨g, k, none⟩ = some (.int .i64 (z2 : Int)) := HOG2.out.cell hok
      have hA7 := (HAR.out 7 _ rfl).1
      have KX := Lib.hid (fun w' (hb : Below wr.heap.size wr w') => (show w'.cell? ⟨w.heap.size, 7, none⟩ = some (.slice (some ⟨b2, off2, none⟩) zs.length c1) ∧ w'.cell? ⟨g, k, none⟩ = some (.int .i64 (z2 : Int)) from ⟨((HAR.out.below hb (by omega)) 7 _ rfl).1, by rw [hb.cell (p := ⟨g, k, none⟩) (by show g < _; omega), HB.out.cell (p := ⟨g, k, none⟩) hgl]; exact hoc⟩))
      have HZ := Lib.hid (fun w' hb => HH.out w' (z2 : Int) hb)
      obtain ⟨q, hq⟩ : ∃ q, hasB zs (z2 : Int) = q := ⟨_, rfl⟩
      rw [hq] at HZ
      have hqm : q = decide ((z2 : Int) ∈ zs) := by rw [← hq]; unfold hasB; simp
      have HQM := Lib.hid hqm
      have HZE := Lib.hid hz2e
      clear hq hqm hz2e hok hsucc hoc hA7
      go_upto_region 8 with (fail)
      have HC := Lib.hid (show Below wr.heap.size wr wr.drew from (Below.refl _ _).drew)
      refine wp_region_held_drew (S := (fun w' => w'.cell? ⟨w.heap.size, 7, none⟩ = some (.slice (some ⟨b2, off2, none⟩) zs.length c1) ∧ w'.cell? ⟨g, k, none⟩ = some (.int .i64 (z2 : Int)))) (by kernel_rfl) (KX.out _ HC.out) (fun hHeld => ?_)
      refine wpAnyH_take (i := 0) (oi := { dst := some 27, op := Op.fieldAddr 34 (Operand.tmp 2) 3, type := 0, pos := "l15_blocks.go:108", after := #[], guard := none }) (v := ?_) rfl (by kernel_rfl) (by kernel_rfl) (by kernel_rfl) (fun _ _ _ h => h) (Or.inl ⟨by rfl, ?hy⟩) hHeld ?_
      case hy => (intro w' hSw; (try dsimp only at hSw); go_simp; try with_reducible rfl)
      simp only [Act.put, List.setIfInBounds_toArray, List.set_cons_zero, List.set_cons_succ]
      refine wpAnyH_take (i := 1) (oi := { dst := some 28, op := Op.load 25 (Operand.tmp 27), type := 25, pos := "l15_blocks.go:108", after := #[{ on := 0, ground := Ground.data }], guard := none }) (v := ?_) rfl (by kernel_rfl) (by kernel_rfl) (by kernel_rfl) (fun _ _ _ h => h) (Or.inl ⟨by rfl, ?hy⟩) hHeld ?_
      case hy => (intro w' hSw; (try dsimp only at hSw); go_simp; try with_reducible rfl)
      simp only [Act.put, List.setIfInBounds_toArray, List.set_cons_zero, List.set_cons_succ]
      refine wpAnyH_take (i := 2) (oi := { dst := some 29, op := Op.move (Operand.tmp 7), type := 25, pos := "l15_blocks.go:108", after := #[], guard := none }) (v := ?_) rfl (by kernel_rfl) (by kernel_rfl) (by kernel_rfl) (fun _ _ _ h => h) (Or.inl ⟨by rfl, ?hy⟩) hHeld ?_
      case hy => (intro w' hSw; (try dsimp only at hSw); go_simp; try with_reducible rfl)
      simp only [Act.put, List.setIfInBounds_toArray, List.set_cons_zero, List.set_cons_succ]
      refine wpAnyH_take (i := 3) (oi := { dst := some 30, op := Op.move (Operand.tmp 8), type := 3, pos := "l15_blocks.go:108", after := #[], guard := none }) (v := ?_) rfl (by kernel_rfl) (by kernel_rfl) (by kernel_rfl) (fun _ _ _ h => h) (Or.inl ⟨by rfl, ?hy⟩) hHeld ?_
      case hy => (intro w' hSw; (try dsimp only at hSw); go_simp; try with_reducible rfl)
      simp only [Act.put, List.setIfInBounds_toArray, List.set_cons_zero, List.set_cons_succ]
      refine wpAnyH_take (i := 4) (oi := { dst := some 31, op := Op.indexAddr 25 (Operand.tmp 29) (Operand.tmp 30), type := 0, pos := "l15_blocks.go:108", after := #[{ on := 2, ground := Ground.data }, { on := 3, ground := Ground.data }], guard := none }) (v := ?_) rfl (by kernel_rfl) (by kernel_rfl) (by kernel_rfl) (fun _ _ _ h => h) (Or.inl ⟨by rfl, ?hy⟩) hHeld ?_
      case hy => (intro w' hSw; (try dsimp only at hSw); go_simp; try with_reducible rfl)
      simp only [Act.put, List.setIfInBounds_toArray, List.set_cons_zero, List.set_cons_succ]
      refine wpAnyH_take (i := 5) (oi := { dst := some 32, op := Op.load 2 (Operand.tmp 31), type := 2, pos := "l15_blocks.go:108", after := #[{ on := 4, ground := Ground.data }], guard := none }) (v := ?_) rfl (by kernel_rfl) (by kernel_rfl) (by kernel_rfl) (fun _ _ _ h => h) (Or.inl ⟨by rfl, ?hy⟩) hHeld ?_
      case hy => (intro w' hSw; (try dsimp only at hSw); go_simp; try with_reducible rfl)
      simp only [Act.put, List.setIfInBounds_toArray, List.set_cons_zero, List.set_cons_succ]
      refine wpAnyH_ready (rs := [6]) (by kernel_rfl) (by simp) ?_
      refine AllReadyH.cons (o := { dst := some 33, op := Op.call { callee := Callee.value (Operand.func 68), args := #[Operand.tmp 28, Operand.tmp 32], argTypes := #[25, 2] }, type := 4, pos := "l15_blocks.go:108", after := #[{ on := 1, ground := Ground.data }, { on := 5, ground := Ground.data }], guard := none }) rfl (fun K hK => ?_) AllReadyH.nil
      go_simp
      go_at_call 68; refine (HZ.out _ (FBr.out.trans (HC.out.mono FBr.out.size))).mono ?_; rintro e_ w3 ⟨rfl, hb3⟩; replace HC := Lib.hid (HC.out.trans (hb3.mono HC.out.size)); clear hb3
      go_wp2_with fail
      refine hK.out _ _ (KX.out _ HC.out) (fun hHeld => ?_)
      clear hK K
      try simp only [Act.put, List.setIfInBounds_toArray, List.set_cons_zero, List.set_cons_succ]
      refine wpAnyH_done (by kernel_rfl) ?_ _
      replace FBr := Lib.hid (FBr.out.trans (HC.out.mono FBr.out.size))
      have hz3 := HC.out.size
      replace HAR := Lib.hid (HAR.out.below HC.out (by omega))
      replace HRR := Lib.hid (HRR.out.below HC.out (by omega))
      have HB3 := Lib.hid (HB.out.trans (HC.out.mono HB.out.size))
      clear hHeld KX HC HB HZ
      cases q with
      | true =>
        have hmem : (z2 : Int) ∈ zs := of_decide_eq_true HQM.out.symm
        have HN := Lib.hid (show freeK C S zs (k + 1) = none by rw [HSU.out, if_pos hmem])
        clear hmem
        go_wp2
        go_roundw
        case rel => exact ⟨k + 1, by omega, by go_num, HN, HB3.out⟩
        case measure => simp [intOf]; omega
      | false =>
        have hmem : ¬ (z2 : Int) ∈ zs := of_decide_eq_false HQM.out.symm
        have HFS := Lib.hid (freeK_more (m := es.length) (show freeK C S zs (k + 1) = some (z2 : Int) by rw [HSU.out, if_neg hmem]) hlt)
        have HCV := Lib.hid (HCN.out.2 z2 HFS.out)
        have hoc3 : OwnBlkI w3 w1.heap.size g (ordL C S es.length) := HOG2.out.below HB3.out hgl
        have HOC := Lib.hid hoc3
        clear hmem HFS hoc3
        go_wp2_with fail
        refine (OW.out _ _ FBr.out HAR.out.box).mono ?_
        rintro e_ w4 ⟨g0, g1, d0, d1, rfl, ho0, ho1, hb4⟩
        have hz4 := hb4.size
        have hg0 : w3.heap.size ≤ g0 := ho0.choose_spec.1
        have hg1 : w3.heap.size ≤ g1 := ho1.choose_spec.1
        have hl0 := ho0.lt
        have hl1 := ho1.lt
        have hne : g0 ≠ g1 := by
          intro e
          subst e
          obtain ⟨_, _, h1⟩ := ho0
          obtain ⟨_, _, h2⟩ := ho1
          rw [h1] at h2
          simp at h2
        replace HAR := Lib.hid (HAR.out.below hb4 (by omega))
        replace HRR := Lib.hid (HRR.out.below hb4 (by omega))
        replace FBr := Lib.hid (FBr.out.trans (hb4.mono FBr.out.size))
        replace HOC := Lib.hid (HOC.out.below hb4 (by omega))
        have HO0 := Lib.hid ho0
        have HO1 := Lib.hid ho1
        clear ho0 ho1 hb4 HB3
        go_upto_region 10 with (fail)
        have B := Lib.hid (BoxF.new w4 #[.int .i64 f0, .int .i64 f1, .int .i64 (C : Int), .int .i64 f3, .slice (some ⟨g0, 0, none⟩) es.length d0, .int .i64 (S : Int), .int .i64 sp, .slice (some ⟨g1, 0, none⟩) zs.length d1] 34 _ rfl)
        have hnb := Lib.hid ((Below.refl w4.heap.size w4).alloc (Nat.le_refl _) (.cells #[.int .i64 f0, .int .i64 f1, .int .i64 (C : Int), .int .i64 f3, .slice (some ⟨g0, 0, none⟩) es.length d0, .int .i64 (S : Int), .int .i64 sp, .slice (some ⟨g1, 0, none⟩) zs.length d1] 34))
        replace HAR := Lib.hid (HAR.out.below hnb.out (by omega))
        replace HRR := Lib.hid (HRR.out.below hnb.out (by omega))
        replace HO0 := Lib.hid (HO0.out.below hnb.out hl0)
        replace HO1 := Lib.hid (HO1.out.below hnb.out hl1)
        replace HOC := Lib.hid (HOC.out.below hnb.out (by omega))
        replace FBr := Lib.hid (FBr.out.alloc FBr.out.size (.cells #[.int .i64 f0, .int .i64 f1, .int .i64 (C : Int), .int .i64 f3, .slice (some ⟨g0, 0, none⟩) es.length d0, .int .i64 (S : Int), .int .i64 sp, .slice (some ⟨g1, 0, none⟩) zs.length d1] 34))
        have HS := Lib.hid (show (w4.alloc (.cells #[.int .i64 f0, .int .i64 f1, .int .i64 (C : Int), .int .i64 f3, .slice (some ⟨g0, 0, none⟩) es.length d0, .int .i64 (S : Int), .int .i64 sp, .slice (some ⟨g1, 0, none⟩) zs.length d1] 34)).heap.size = w4.heap.size + 1 by simp)
        clear hnb
        generalize w4.alloc (.cells #[.int .i64 f0, .int .i64 f1, .int .i64 (C : Int), .int .i64 f3, .slice (some ⟨g0, 0, none⟩) es.length d0, .int .i64 (S : Int), .int .i64 sp, .slice (some ⟨g1, 0, none⟩) zs.length d1] 34) = W at *
        have hW1 : w4.heap.size < W.heap.size := by have := HS.out; omega
        have hbW : b < W.heap.size := by omega
        have hbW2 : b2 < W.heap.size := by omega
        have KX := Lib.hid (fun w' (hb : Below W.heap.size W w') => (show w'.cell? ⟨w.heap.size, 4, none⟩ = some (.slice (some ⟨b, off, none⟩) es.length c0) ∧ w'.cell? ⟨w.heap.size, 7, none⟩ = some (.slice (some ⟨b2, off2, none⟩) zs.length c1) ∧ w'.cell? ⟨b2, off2 + j, none⟩ = some (.int .i64 (i : Int)) ∧ w'.cell? ⟨b, off + i * 2, none⟩ = some (.string e.f0) ∧ w'.cell? ⟨b, off + i * 2 + 1, none⟩ = some (.int .i64 e.f1) from ⟨((HAR.out.below hb (by omega)) 4 _ rfl).1, ((HAR.out.below hb (by omega)) 7 _ rfl).1, by rw [hb.cell (p := ⟨b2, off2 + j, none⟩) hbW2, FBr.out.cell (p := ⟨b2, off2 + j, none⟩) hbl2]; exact HCX.out, by rw [hb.cell (p := ⟨b, off + i * 2, none⟩) hbW, FBr.out.cell (p := ⟨b, off + i * 2, none⟩) hbl]; exact HCE.out 0 _ rfl, by rw [hb.cell (p := ⟨b, off + i * 2 + 1, none⟩) hbW, FBr.out.cell (p := ⟨b, off + i * 2 + 1, none⟩) hbl]; exact HCE.out 1 _ rfl⟩))
        have HC := Lib.hid (show Below W.heap.size W W.drew from (Below.refl _ _).drew)
        refine wp_region_held_drew (S := (fun w' => w'.cell? ⟨w.heap.size, 4, none⟩ = some (.slice (some ⟨b, off, none⟩) es.length c0) ∧ w'.cell? ⟨w.heap.size, 7, none⟩ = some (.slice (some ⟨b2, off2, none⟩) zs.length c1) ∧ w'.cell? ⟨b2, off2 + j, none⟩ = some (.int .i64 (i : Int)) ∧ w'.cell? ⟨b, off + i * 2, none⟩ = some (.string e.f0) ∧ w'.cell? ⟨b, off + i * 2 + 1, none⟩ = some (.int .i64 e.f1))) (by kernel_rfl) (KX.out _ HC.out) (fun hHeld => ?_)
        refine wpAnyH_take (i := 0) (oi := { dst := some 35, op := Op.fieldAddr 34 (Operand.tmp 2) 0, type := 0, pos := "l15_blocks.go:112", after := #[], guard := none }) (v := ?_) rfl (by kernel_rfl) (by kernel_rfl) (by kernel_rfl) (fun _ _ _ h => h) (Or.inl ⟨by rfl, ?hy⟩) hHeld ?_
        case hy => (intro w' hSw; (try dsimp only at hSw); go_simp; try with_reducible rfl)
        simp only [Act.put, List.setIfInBounds_toArray, List.set_cons_zero, List.set_cons_succ]
        refine wpAnyH_take (i := 1) (oi := { dst := some 36, op := Op.fieldAddr 32 (Operand.tmp 35) 4, type := 0, pos := "l15_blocks.go:112", after := #[{ on := 0, ground := Ground.data }], guard := none }) (v := ?_) rfl (by kernel_rfl) (by kernel_rfl) (by kernel_rfl) (fun _ _ _ h => h) (Or.inl ⟨by rfl, ?hy⟩) hHeld ?_
        case hy => (intro w' hSw; (try dsimp only at hSw); go_simp; try with_reducible rfl)
        simp only [Act.put, List.setIfInBounds_toArray, List.set_cons_zero, List.set_cons_succ]
        refine wpAnyH_take (i := 2) (oi := { dst := some 37, op := Op.load 30 (Operand.tmp 36), type := 30, pos := "l15_blocks.go:112", after := #[{ on := 1, ground := Ground.data }], guard := none }) (v := ?_) rfl (by kernel_rfl) (by kernel_rfl) (by kernel_rfl) (fun _ _ _ h => h) (Or.inl ⟨by rfl, ?hy⟩) hHeld ?_
        case hy => (intro w' hSw; (try dsimp only at hSw); go_simp; try with_reducible rfl)
        simp only [Act.put, List.setIfInBounds_toArray, List.set_cons_zero, List.set_cons_succ]
        refine wpAnyH_take (i := 3) (oi := { dst := some 38, op := Op.fieldAddr 34 (Operand.tmp 2) 3, type := 0, pos := "l15_blocks.go:112", after := #[], guard := none }) (v := ?_) rfl (by kernel_rfl) (by kernel_rfl) (by kernel_rfl) (fun _ _ _ h => h) (Or.inl ⟨by rfl, ?hy⟩) hHeld ?_
        case hy => (intro w' hSw; (try dsimp only at hSw); go_simp; try with_reducible rfl)
        simp only [Act.put, List.setIfInBounds_toArray, List.set_cons_zero, List.set_cons_succ]
        refine wpAnyH_take (i := 4) (oi := { dst := some 39, op := Op.load 25 (Operand.tmp 38), type := 25, pos := "l15_blocks.go:112", after := #[{ on := 3, ground := Ground.data }], guard := none }) (v := ?_) rfl (by kernel_rfl) (by kernel_rfl) (by kernel_rfl) (fun _ _ _ h => h) (Or.inl ⟨by rfl, ?hy⟩) hHeld ?_
        case hy => (intro w' hSw; (try dsimp only at hSw); go_simp; try with_reducible rfl)
        simp only [Act.put, List.setIfInBounds_toArray, List.set_cons_zero, List.set_cons_succ]
        refine wpAnyH_take (i := 5) (oi := { dst := some 40, op := Op.move (Operand.tmp 1), type := 2, pos := "l15_blocks.go:112", after := #[], guard := none }) (v := ?_) rfl (by kernel_rfl) (by kernel_rfl) (by kernel_rfl) (fun _ _ _ h => h) (Or.inl ⟨by rfl, ?hy⟩) hHeld ?_
        case hy => (intro w' hSw; (try dsimp only at hSw); go_simp; try with_reducible rfl)
        simp only [Act.put, List.setIfInBounds_toArray, List.set_cons_zero, List.set_cons_succ]
        refine wpAnyH_take (i := 6) (oi := { dst := some 41, op := Op.indexAddr 25 (Operand.tmp 39) (Operand.tmp 40), type := 0, pos := "l15_blocks.go:112", after := #[{ on := 4, ground := Ground.data }, { on := 5, ground := Ground.data }], guard := none }) (v := ?_) rfl (by kernel_rfl) (by kernel_rfl) (by kernel_rfl) (fun _ _ _ h => h) (Or.inl ⟨by rfl, ?hy⟩) hHeld ?_
        case hy => (intro w' hSw; (try dsimp only at hSw); go_simp; try with_reducible rfl)
        simp only [Act.put, List.setIfInBounds_toArray, List.set_cons_zero, List.set_cons_succ]
        refine wpAnyH_take (i := 7) (oi := { dst := some 42, op := Op.load 2 (Operand.tmp 41), type := 2, pos := "l15_blocks.go:112", after := #[{ on := 6, ground := Ground.data }], guard := none }) (v := ?_) rfl (by kernel_rfl) (by kernel_rfl) (by kernel_rfl) (fun _ _ _ h => h) (Or.inl ⟨by rfl, ?hy⟩) hHeld ?_
        case hy => (intro w' hSw; (try dsimp only at hSw); go_simp; try with_reducible rfl)
        simp only [Act.put, List.setIfInBounds_toArray, List.set_cons_zero, List.set_cons_succ]
        refine wpAnyH_take (i := 8) (oi := { dst := some 43, op := Op.indexAddr 30 (Operand.tmp 37) (Operand.tmp 42), type := 0, pos := "l15_blocks.go:112", after := #[{ on := 2, ground := Ground.data }, { on := 7, ground := Ground.data }], guard := none }) (v := ?_) rfl (by kernel_rfl) (by kernel_rfl) (by kernel_rfl) (fun _ _ _ h => h) (Or.inl ⟨by rfl, ?hy⟩) hHeld ?_
        case hy => (intro w' hSw; (try dsimp only at hSw); go_simp; try with_reducible rfl)
        simp only [Act.put, List.setIfInBounds_toArray, List.set_cons_zero, List.set_cons_succ]
        refine wpAnyH_take (i := 9) (oi := { dst := some 44, op := Op.load 84 (Operand.tmp 43), type := 84, pos := "l15_blocks.go:112", after := #[{ on := 8, ground := Ground.data }], guard := none }) (v := ?_) rfl (by kernel_rfl) (by kernel_rfl) (by kernel_rfl) (fun _ _ _ h => h) (Or.inl ⟨by rfl, ?hy⟩) hHeld ?_
        case hy => (intro w' hSw; (try dsimp only at hSw); go_simp; try with_reducible rfl)
        simp only [Act.put, List.setIfInBounds_toArray, List.set_cons_zero, List.set_cons_succ]
        refine wpAnyH_ready (rs := [10]) (by kernel_rfl) (by simp) ?_
        refine AllReadyH.cons (o := { dst := some 10, op := Op.alloc 84, type := 0, pos := "l15_blocks.go:112", after := #[], guard := none }) rfl (fun K hK => ?_) AllReadyH.nil
        go_simp
        refine hK.out _ _ (KX.out _ (HC.out.alloc HC.out.size _)) (fun hHeld => ?_)
        clear hK K
        try simp only [Act.put, List.setIfInBounds_toArray, List.set_cons_zero, List.set_cons_succ]
        refine wpAnyH_ready (rs := [11]) (by kernel_rfl) (by simp) ?_
        refine AllReadyH.cons (o := { dst := none, op := Op.store 84 (Operand.tmp 10) (Operand.tmp 44), type := 0, pos := "l15_blocks.go:112", after := #[{ on := 10, ground := Ground.data }, { on := 9, ground := Ground.data }, { on := 0, ground := Ground.phase }, { on := 1, ground := Ground.phase }, { on := 2, ground := Ground.phase }, { on := 3, ground := Ground.phase }, { on := 4, ground := Ground.phase }, { on := 5, ground := Ground.phase }, { on := 6, ground := Ground.phase }, { on := 7, ground := Ground.phase }, { on := 8, ground := Ground.phase }, { on := 9, ground := Ground.phase }, { on := 10, ground := Ground.phase }], guard := none }) rfl (fun K hK => ?_) AllReadyH.nil
        go_simp
        refine hK.out _ _ (KX.out _ (HC.out.alloc HC.out.size _)) (fun hHeld => ?_)
        clear hK K
        try simp only [Act.put, List.setIfInBounds_toArray, List.set_cons_zero, List.set_cons_succ]
        refine wpAnyH_done (by kernel_rfl) ?_ _
        have FB3 := Lib.hid (show Below W.heap.size W (W.alloc (.cells #[.string e.f0, .int .i64 e.f1] 84)).drew from HC.out.alloc HC.out.size _)
        have BS := Lib.hid (show BoxF (W.alloc (.cells #[.string e.f0, .int .i64 e.f1] 84)).drew W.heap.size #[.string e.f0, .int .i64 e.f1] from (BoxF.new W #[.string e.f0, .int .i64 e.f1] 84 _ rfl).drew)
        have hzn : W.heap.size < (W.alloc (.cells #[.string e.f0, .int .i64 e.f1] 84)).drew.heap.size := by show W.heap.size < (W.alloc _).heap.size; simp
        generalize (W.alloc (.cells #[.string e.f0, .int .i64 e.f1] 84)).drew = wq at *
        replace HAR := Lib.hid (HAR.out.below FB3.out (by omega))
        replace HRR := Lib.hid (HRR.out.below FB3.out (by omega))
        replace B := Lib.hid (B.out.below FB3.out hW1)
        replace HO0 := Lib.hid (HO0.out.below FB3.out (by omega))
        replace HO1 := Lib.hid (HO1.out.below FB3.out (by omega))
        replace HOC := Lib.hid (HOC.out.below FB3.out (by omega))
        replace FBr := Lib.hid (FBr.out.trans (FB3.out.mono FBr.out.size))
        obtain ⟨t0, v0⟩ := BS.out 0 _ rfl
        obtain ⟨t1, v1⟩ := BS.out 1 _ rfl
        clear hHeld KX HC FB3
        go_wp2_with fail
        refine (RD.out _).mono ?_
        rintro e_ w5 ⟨rfl, hb5⟩
        clear t0 v0 t1 v1
        have hz5 := hb5.size
        replace HAR := Lib.hid (HAR.out.below hb5 (by omega))
        replace HRR := Lib.hid (HRR.out.below hb5 (by omega))
        replace B := Lib.hid (B.out.below hb5 (by omega))
        replace BS := Lib.hid (BS.out.below hb5 hzn)
        replace HO0 := Lib.hid (HO0.out.below hb5 (by omega))
        replace HO1 := Lib.hid (HO1.out.below hb5 (by omega))
        replace HOC := Lib.hid (HOC.out.below hb5 (by omega))
        replace FBr := Lib.hid (FBr.out.trans (hb5.mono FBr.out.size))
        clear hb5
        obtain ⟨q2, hq2⟩ : ∃ q, goodS e = q := ⟨_, rfl⟩
        have HQ2 := Lib.hid hq2
        rw [hq2]
        clear hq2
        cases q2 with
        | true =>
          have hcv : contV e = e.f0 := by unfold contV; rw [if_pos HQ2.out]
          obtain ⟨t0, v0⟩ := BS.out 0 _ rfl
          obtain ⟨t1, v1⟩ := BS.out 1 _ rfl
          go_upto_region 14 with (fail)
          have hBS : BoxF (w5.setCell ⟨W.heap.size, 1, none⟩ (.int .i64 1)) W.heap.size #[.string (contV e), .int .i64 1] := by rw [hcv]; exact BS.out.putAt 1 (.int .i64 1) (by simp)
          have hkp : ∀ q, q ≠ W.heap.size → (w5.setCell ⟨W.heap.size, 1, none⟩ (.int .i64 1)).heap[q]? = w5.heap[q]? := fun q hq => Below.heap_setCell _ _ _ _ hq
          have hFB := FBr.out.setCell (p := ⟨W.heap.size, 1, none⟩) (show w.heap.size ≤ W.heap.size by omega) (.int .i64 1)
          have hsz : (w5.setCell ⟨W.heap.size, 1, none⟩ (.int .i64 1)).heap.size = w5.heap.size := by simp [World.setCell]
          clear t0 v0 t1 v1 BS
          generalize w5.setCell ⟨W.heap.size, 1, none⟩ (.int .i64 1) = wy at *
          replace HAR := Lib.hid (HAR.out.keep (hkp _ (by omega)))
          replace HRR := Lib.hid (HRR.out.keep (hkp _ (by omega)))
          replace B := Lib.hid (B.out.keep (hkp _ (by omega)))
          replace HO0 := Lib.hid (HO0.out.keep (hkp _ (by omega)))
          replace HO1 := Lib.hid (HO1.out.keep (hkp _ (by omega)))
          replace HOC := Lib.hid (HOC.out.keep (hkp _ (by omega)))
          have BS := Lib.hid hBS
          replace FBr := Lib.hid hFB
          have HSZ := Lib.hid hsz
          clear hkp hBS hFB hsz hcv
          obtain ⟨u4, x4⟩ := B.out 4 _ rfl
          have hok := HOG.out k hlt
          obtain ⟨s0', y0'⟩ := BS.out 0 _ rfl
          obtain ⟨s1', y1'⟩ := BS.out 1 _ rfl
          obtain ⟨es2, hes2⟩ : ∃ e2, es[z2]? = some e2 := ⟨es[z2], by simp [hz2l]⟩
          obtain ⟨m0, m1⟩ := HO0.out.cell hes2
          have m2 := HO0.out.free (z2 * 2)
          have m3 := HO0.out.free (z2 * 2 + 1)
          have hoc5 : wy.cell? ⟨g, k, none⟩ = some (.int .i64 (z2 : Int)) := by rw [← HZE.out]; exact HOC.out.cell hok
          go_upto_region 14 with (fail)
          refine wp_region_held_drew (S := (fun w' => w'.cell? ⟨w4.heap.size, 4, none⟩ = some (.slice (some ⟨g0, 0, none⟩) es.length d0) ∧ w'.cell? ⟨g, k, none⟩ = some (.int .i64 (z2 : Int)) ∧ w'.cell? ⟨W.heap.size, 0, none⟩ = some (.string (contV e)) ∧ w'.cell? ⟨W.heap.size, 1, none⟩ = some (.int .i64 1))) (by kernel_rfl) ⟨u4, hoc5, s0', s1'⟩ (fun hHeld => ?_)
          refine wpAnyH_take (i := 0) (oi := { dst := some 55, op := Op.fieldAddr 34 (Operand.tmp 9) 0, type := 0, pos := "l15_blocks.go:117", after := #[], guard := none }) (v := ?_) rfl (by kernel_rfl) (by kernel_rfl) (by kernel_rfl) (fun _ _ _ h => h) (Or.inl ⟨by rfl, ?hy⟩) hHeld ?_
          case hy => (intro w' hSw; (try dsimp only at hSw); go_simp; try with_reducible rfl)
          simp only [Act.put, List.setIfInBounds_toArray, List.set_cons_zero, List.set_cons_succ]
          refine wpAnyH_take (i := 1) (oi := { dst := some 56, op := Op.fieldAddr 32 (Operand.tmp 55) 4, type := 0, pos := "l15_blocks.go:117", after := #[{ on := 0, ground := Ground.data }], guard := none }) (v := ?_) rfl (by kernel_rfl) (by kernel_rfl) (by kernel_rfl) (fun _ _ _ h => h) (Or.inl ⟨by rfl, ?hy⟩) hHeld ?_
          case hy => (intro w' hSw; (try dsimp only at hSw); go_simp; try with_reducible rfl)
          simp only [Act.put, List.setIfInBounds_toArray, List.set_cons_zero, List.set_cons_succ]
          refine wpAnyH_take (i := 2) (oi := { dst := some 57, op := Op.load 30 (Operand.tmp 56), type := 30, pos := "l15_blocks.go:117", after := #[{ on := 1, ground := Ground.data }], guard := none }) (v := ?_) rfl (by kernel_rfl) (by kernel_rfl) (by kernel_rfl) (fun _ _ _ h => h) (Or.inl ⟨by rfl, ?hy⟩) hHeld ?_
          case hy => (intro w' hSw; (try dsimp only at hSw); go_simp; try with_reducible rfl)
          simp only [Act.put, List.setIfInBounds_toArray, List.set_cons_zero, List.set_cons_succ]
          refine wpAnyH_take (i := 3) (oi := { dst := some 58, op := Op.move (Operand.tmp 7), type := 25, pos := "l15_blocks.go:117", after := #[], guard := none }) (v := ?_) rfl (by kernel_rfl) (by kernel_rfl) (by kernel_rfl) (fun _ _ _ h => h) (Or.inl ⟨by rfl, ?hy⟩) hHeld ?_
          case hy => (intro w' hSw; (try dsimp only at hSw); go_simp; try with_reducible rfl)
          simp only [Act.put, List.setIfInBounds_toArray, List.set_cons_zero, List.set_cons_succ]
          refine wpAnyH_take (i := 4) (oi := { dst := some 59, op := Op.move (Operand.tmp 8), type := 3, pos := "l15_blocks.go:117", after := #[], guard := none }) (v := ?_) rfl (by kernel_rfl) (by kernel_rfl) (by kernel_rfl) (fun _ _ _ h => h) (Or.inl ⟨by rfl, ?hy⟩) hHeld ?_
          case hy => (intro w' hSw; (try dsimp only at hSw); go_simp; try with_reducible rfl)
          simp only [Act.put, List.setIfInBounds_toArray, List.set_cons_zero, List.set_cons_succ]
          refine wpAnyH_take (i := 5) (oi := { dst := some 60, op := Op.indexAddr 25 (Operand.tmp 58) (Operand.tmp 59), type := 0, pos := "l15_blocks.go:117", after := #[{ on := 3, ground := Ground.data }, { on := 4, ground := Ground.data }], guard := none }) (v := ?_) rfl (by kernel_rfl) (by kernel_rfl) (by kernel_rfl) (fun _ _ _ h => h) (Or.inl ⟨by rfl, ?hy⟩) hHeld ?_
          case hy => (intro w' hSw; (try dsimp only at hSw); go_simp; try with_reducible rfl)
          simp only [Act.put, List.setIfInBounds_toArray, List.set_cons_zero, List.set_cons_succ]
          refine wpAnyH_take (i := 6) (oi := { dst := some 61, op := Op.load 2 (Operand.tmp 60), type := 2, pos := "l15_blocks.go:117", after := #[{ on := 5, ground := Ground.data }], guard := none }) (v := ?_) rfl (by kernel_rfl) (by kernel_rfl) (by kernel_rfl) (fun _ _ _ h => h) (Or.inl ⟨by rfl, ?hy⟩) hHeld ?_
          case hy => (intro w' hSw; (try dsimp only at hSw); go_simp; try with_reducible rfl)
          simp only [Act.put, List.setIfInBounds_toArray, List.set_cons_zero, List.set_cons_succ]
          refine wpAnyH_take (i := 7) (oi := { dst := some 62, op := Op.load 84 (Operand.tmp 10), type := 84, pos := "l15_blocks.go:117", after := #[], guard := none }) (v := ?_) rfl (by kernel_rfl) (by kernel_rfl) (by kernel_rfl) (fun _ _ _ h => h) (Or.inl ⟨by rfl, ?hy⟩) hHeld ?_
          case hy => (intro w' hSw; (try dsimp only at hSw); go_simp; try with_reducible rfl)
          simp only [Act.put, List.setIfInBounds_toArray, List.set_cons_zero, List.set_cons_succ]
          refine wpAnyH_take (i := 8) (oi := { dst := some 63, op := Op.indexAddr 30 (Operand.tmp 57) (Operand.tmp 61), type := 0, pos := "l15_blocks.go:117", after := #[{ on := 2, ground := Ground.data }, { on := 6, ground := Ground.data }, { on := 0, ground := Ground.phase }, { on := 1, ground := Ground.phase }, { on := 2, ground := Ground.phase }, { on := 3, ground := Ground.phase }, { on := 4, ground := Ground.phase }, { on := 5, ground := Ground.phase }, { on := 6, ground := Ground.phase }, { on := 7, ground := Ground.phase }], guard := none }) (v := ?_) rfl (by kernel_rfl) (by kernel_rfl) (by kernel_rfl) (fun _ _ _ h => h) (Or.inl ⟨by rfl, ?hy⟩) hHeld ?_
          case hy => (intro w' hSw; (try dsimp only at hSw); go_simp; try with_reducible rfl)
          simp only [Act.put, List.setIfInBounds_toArray, List.set_cons_zero, List.set_cons_succ]
          refine wpAnyH_ready (rs := [9]) (by kernel_rfl) (by simp) ?_
          refine AllReadyH.cons (o := { dst := none, op := Op.store 84 (Operand.tmp 63) (Operand.tmp 62), type := 0, pos := "l15_blocks.go:117", after := #[{ on := 8, ground := Ground.data }, { on := 7, ground := Ground.data }, { on := 0, ground := Ground.phase }, { on := 1, ground := Ground.phase }, { on := 2, ground := Ground.phase }, { on := 3, ground := Ground.phase }, { on := 4, ground := Ground.phase }, { on := 5, ground := Ground.phase }, { on := 6, ground := Ground.phase }, { on := 7, ground := Ground.phase }], guard := none }) rfl (fun K hK => ?_) AllReadyH.nil
          go_simp
          refine hK.out _ _ (⟨(put_cellD _ _ _ _ _ _ _ _ (by omega)).trans u4, (put_cellD _ _ _ _ _ _ _ _ (by omega)).trans hoc5, (put_cellD _ _ _ _ _ _ _ _ (by omega)).trans s0', (put_cellD _ _ _ _ _ _ _ _ (by omega)).trans s1'⟩) (fun hHeld => ?_)
          clear hK K
          try simp only [Act.put, List.setIfInBounds_toArray, List.set_cons_zero, List.set_cons_succ]
          refine wpAnyH_done (by kernel_rfl) ?_ _
          have PUT := HO0.out.put z2 ⟨contV e, 1⟩ hz2l
          dsimp only at PUT
          replace PUT : OwnBlk ((wy.setCell ⟨g0, z2 * 2, none⟩ (.string (contV e))).setCell ⟨g0, z2 * 2 + 1, none⟩ (.int .i64 1)).drew w3.heap.size g0 (es.set z2 ⟨contV e, 1⟩) := PUT
          replace HRR := Lib.hid (HRR.out.keep (put_otherD wy g0 (z2 * 2) (z2 * 2 + 1) (.string (contV e)) (.int .i64 1) _ (by omega)))
          replace B := Lib.hid (B.out.keep (put_otherD wy g0 (z2 * 2) (z2 * 2 + 1) (.string (contV e)) (.int .i64 1) _ (by omega)))
          replace HO1 := Lib.hid (HO1.out.keep (put_otherD wy g0 (z2 * 2) (z2 * 2 + 1) (.string (contV e)) (.int .i64 1) _ (fun e => hne e.symm)))
          replace HOC := Lib.hid (HOC.out.keep (put_otherD wy g0 (z2 * 2) (z2 * 2 + 1) (.string (contV e)) (.int .i64 1) _ (by omega)))
          replace FBr := Lib.hid ((FBr.out.setCell (p := ⟨g0, z2 * 2, none⟩) (show w.heap.size ≤ g0 by omega) (.string (contV e))).setCell (p := ⟨g0, z2 * 2 + 1, none⟩) (show w.heap.size ≤ g0 by omega) (.int .i64 1)).drew
          have hz7 : wy.heap.size = ((wy.setCell ⟨g0, z2 * 2, none⟩ (.string (contV e))).setCell ⟨g0, z2 * 2 + 1, none⟩ (.int .i64 1)).drew.heap.size := by show wy.heap.size = ((wy.setCell _ _).setCell _ _).heap.size; simp [World.setCell]
          have HP := Lib.hid PUT
          have HZ7 := Lib.hid hz7
          clear hHeld u4 x4 s0' y0' s1' y1' m0 m1 m2 m3 hoc5 hok PUT HO0 HAR BS hz7 hes2
          change Exit.then _ _ _ _ ((wy.setCell ⟨g0, z2 * 2, none⟩ (.string (contV e))).setCell ⟨g0, z2 * 2 + 1, none⟩ (.int .i64 1)).drew
          generalize ((wy.setCell ⟨g0, z2 * 2, none⟩ (.string (contV e))).setCell ⟨g0, z2 * 2 + 1, none⟩ (.int .i64 1)).drew = W2 at *
          obtain ⟨u7, x7⟩ := B.out 7 _ rfl
          have hok := HOG.out k hlt
          have hoc6 : W2.cell? ⟨g, k, none⟩ = some (.int .i64 (z2 : Int)) := by rw [← HZE.out]; exact HOC.out.cell hok
          have m0 := HO1.out.cell HX.out
          have m1 := HO1.out.free j
          have hn4 : g1 ≠ w4.heap.size := by omega
          have hn5 : g1 ≠ g := by omega
          go_upto_region 15 with (fail)
          refine wp_region_held_drew (S := (fun w' => w'.cell? ⟨w4.heap.size, 7, none⟩ = some (.slice (some ⟨g1, 0, none⟩) zs.length d1) ∧ w'.cell? ⟨g, k, none⟩ = some (.int .i64 (z2 : Int)))) (by kernel_rfl) ⟨u7, hoc6⟩ (fun hHeld => ?_)
          refine wpAnyH_take (i := 0) (oi := { dst := some 64, op := Op.fieldAddr 34 (Operand.tmp 9) 3, type := 0, pos := "l15_blocks.go:118", after := #[], guard := none }) (v := ?_) rfl (by kernel_rfl) (by kernel_rfl) (by kernel_rfl) (fun _ _ _ h => h) (Or.inl ⟨by rfl, ?hy⟩) hHeld ?_
          case hy => (intro w' hSw; (try dsimp only at hSw); go_simp; try with_reducible rfl)
          simp only [Act.put, List.setIfInBounds_toArray, List.set_cons_zero, List.set_cons_succ]
          refine wpAnyH_take (i := 1) (oi := { dst := some 65, op := Op.load 25 (Operand.tmp 64), type := 25, pos := "l15_blocks.go:118", after := #[{ on := 0, ground := Ground.data }], guard := none }) (v := ?_) rfl (by kernel_rfl) (by kernel_rfl) (by kernel_rfl) (fun _ _ _ h => h) (Or.inl ⟨by rfl, ?hy⟩) hHeld ?_
          case hy => (intro w' hSw; (try dsimp only at hSw); go_simp; try with_reducible rfl)
          simp only [Act.put, List.setIfInBounds_toArray, List.set_cons_zero, List.set_cons_succ]
          refine wpAnyH_take (i := 2) (oi := { dst := some 66, op := Op.move (Operand.tmp 1), type := 2, pos := "l15_blocks.go:118", after := #[], guard := none }) (v := ?_) rfl (by kernel_rfl) (by kernel_rfl) (by kernel_rfl) (fun _ _ _ h => h) (Or.inl ⟨by rfl, ?hy⟩) hHeld ?_
          case hy => (intro w' hSw; (try dsimp only at hSw); go_simp; try with_reducible rfl)
          simp only [Act.put, List.setIfInBounds_toArray, List.set_cons_zero, List.set_cons_succ]
          refine wpAnyH_take (i := 3) (oi := { dst := some 67, op := Op.move (Operand.tmp 7), type := 25, pos := "l15_blocks.go:118", after := #[], guard := none }) (v := ?_) rfl (by kernel_rfl) (by kernel_rfl) (by kernel_rfl) (fun _ _ _ h => h) (Or.inl ⟨by rfl, ?hy⟩) hHeld ?_
          case hy => (intro w' hSw; (try dsimp only at hSw); go_simp; try with_reducible rfl)
          simp only [Act.put, List.setIfInBounds_toArray, List.set_cons_zero, List.set_cons_succ]
          refine wpAnyH_take (i := 4) (oi := { dst := some 68, op := Op.move (Operand.tmp 8), type := 3, pos := "l15_blocks.go:118", after := #[], guard := none }) (v := ?_) rfl (by kernel_rfl) (by kernel_rfl) (by kernel_rfl) (fun _ _ _ h => h) (Or.inl ⟨by rfl, ?hy⟩) hHeld ?_
          case hy => (intro w' hSw; (try dsimp only at hSw); go_simp; try with_reducible rfl)
          simp only [Act.put, List.setIfInBounds_toArray, List.set_cons_zero, List.set_cons_succ]
          refine wpAnyH_take (i := 5) (oi := { dst := some 69, op := Op.indexAddr 25 (Operand.tmp 67) (Operand.tmp 68), type := 0, pos := "l15_blocks.go:118", after := #[{ on := 3, ground := Ground.data }, { on := 4, ground := Ground.data }], guard := none }) (v := ?_) rfl (by kernel_rfl) (by kernel_rfl) (by kernel_rfl) (fun _ _ _ h => h) (Or.inl ⟨by rfl, ?hy⟩) hHeld ?_
          case hy => (intro w' hSw; (try dsimp only at hSw); go_simp; try with_reducible rfl)
          simp only [Act.put, List.setIfInBounds_toArray, List.set_cons_zero, List.set_cons_succ]
          refine wpAnyH_take (i := 6) (oi := { dst := some 70, op := Op.load 2 (Operand.tmp 69), type := 2, pos := "l15_blocks.go:118", after := #[{ on := 5, ground := Ground.data }], guard := none }) (v := ?_) rfl (by kernel_rfl) (by kernel_rfl) (by kernel_rfl) (fun _ _ _ h => h) (Or.inl ⟨by rfl, ?hy⟩) hHeld ?_
          case hy => (intro w' hSw; (try dsimp only at hSw); go_simp; try with_reducible rfl)
          simp only [Act.put, List.setIfInBounds_toArray, List.set_cons_zero, List.set_cons_succ]
          refine wpAnyH_take (i := 7) (oi := { dst := some 71, op := Op.indexAddr 25 (Operand.tmp 65) (Operand.tmp 66), type := 0, pos := "l15_blocks.go:118", after := #[{ on := 1, ground := Ground.data }, { on := 2, ground := Ground.data }, { on := 0, ground := Ground.phase }, { on := 1, ground := Ground.phase }, { on := 2, ground := Ground.phase }, { on := 3, ground := Ground.phase }, { on := 4, ground := Ground.phase }, { on := 5, ground := Ground.phase }, { on := 6, ground := Ground.phase }], guard := none }) (v := ?_) rfl (by kernel_rfl) (by kernel_rfl) (by kernel_rfl) (fun _ _ _ h => h) (Or.inl ⟨by rfl, ?hy⟩) hHeld ?_
          case hy => (intro w' hSw; (try dsimp only at hSw); go_simp; try with_reducible rfl)
          simp only [Act.put, List.setIfInBounds_toArray, List.set_cons_zero, List.set_cons_succ]
          refine wpAnyH_ready (rs := [8]) (by kernel_rfl) (by simp) ?_
          refine AllReadyH.cons (o := { dst := none, op := Op.store 2 (Operand.tmp 71) (Operand.tmp 70), type := 0, pos := "l15_blocks.go:118", after := #[{ on := 7, ground := Ground.data }, { on := 6, ground := Ground.data }, { on := 0, ground := Ground.phase }, { on := 1, ground := Ground.phase }, { on := 2, ground := Ground.phase }, { on := 3, ground := Ground.phase }, { on := 4, ground := Ground.phase }, { on := 5, ground := Ground.phase }, { on := 6, ground := Ground.phase }], guard := none }) rfl (fun K hK => ?_) AllReadyH.nil
          go_simp
          refine hK.out _ _ (⟨(World.cell?_of_block (show (W2.setCell ⟨g1, j, none⟩ (.int .i64 (z2 : Int))).drew.heap[w4.heap.size]? = W2.heap[w4.heap.size]? from Below.heap_setCell _ _ _ _ hn4.symm)).trans u7, (World.cell?_of_block (show (W2.setCell ⟨g1, j, none⟩ (.int .i64 (z2 : Int))).drew.heap[g]? = W2.heap[g]? from Below.heap_setCell _ _ _ _ hn5.symm)).trans hoc6⟩) (fun hHeld => ?_)
          clear hK K
          try simp only [Act.put, List.setIfInBounds_toArray, List.set_cons_zero, List.set_cons_succ]
          refine wpAnyH_done (by kernel_rfl) ?_ _
          have hB3 : BoxF (W2.setCell ⟨g1, j, none⟩ (.int .i64 (z2 : Int))).drew w4.heap.size #[.int .i64 f0, .int .i64 f1, .int .i64 (C : Int), .int .i64 f3, .slice (some ⟨g0, 0, none⟩) es.length d0, .int .i64 (S : Int), .int .i64 sp, .slice (some ⟨g1, 0, none⟩) zs.length d1] := B.out.keep (show (W2.setCell ⟨g1, j, none⟩ (.int .i64 (z2 : Int))).drew.heap[_]? = _ from Below.heap_setCell _ _ _ _ (by simp; omega))
          have hR3 : BoxF (W2.setCell ⟨g1, j, none⟩ (.int .i64 (z2 : Int))).drew (w.heap.size + 1) #[.int .i64 0, .int .i64 0, .int .i64 0, .int .i64 0, .slice none 0 0, .int .i64 0, .int .i64 0, .slice none 0 0] := HRR.out.keep (show (W2.setCell ⟨g1, j, none⟩ (.int .i64 (z2 : Int))).drew.heap[_]? = _ from Below.heap_setCell _ _ _ _ (by simp; omega))
          have hP3 : OwnBlk (W2.setCell ⟨g1, j, none⟩ (.int .i64 (z2 : Int))).drew w3.heap.size g0 (es.set z2 ⟨contV e, 1⟩) := HP.out.keep (show (W2.setCell ⟨g1, j, none⟩ (.int .i64 (z2 : Int))).drew.heap[_]? = _ from Below.heap_setCell _ _ _ _ (by simp; omega))
          have hQ3 : OwnBlkI (W2.setCell ⟨g1, j, none⟩ (.int .i64 (z2 : Int))).drew w3.heap.size g1 (zs.set j (z2 : Int)) := HO1.out.put j (z2 : Int) hjl
          replace FB := Lib.hid ((FBr.out.setCell (p := ⟨g1, j, none⟩) (show w.heap.size ≤ g1 by omega) (.int .i64 (z2 : Int))).drew)
          have hz8 : (W2.setCell ⟨g1, j, none⟩ (.int .i64 (z2 : Int))).drew.heap.size = W2.heap.size := by show (W2.setCell _ _).heap.size = _; simp [World.setCell]
          have B3 := Lib.hid hB3
          have R := Lib.hid hR3
          have HP3 := Lib.hid hP3
          have HQ3 := Lib.hid hQ3
          have HZ8 := Lib.hid hz8
          clear hB3 hR3 hP3 hQ3 hz8 u7 x7 hok hoc6 m0 m1 hHeld B HRR HP HO1 FBr
          change Exit.then _ _ _ _ (W2.setCell ⟨g1, j, none⟩ (.int .i64 (z2 : Int))).drew
          generalize (W2.setCell ⟨g1, j, none⟩ (.int .i64 (z2 : Int))).drew = W3 at *
          obtain ⟨b0, q0⟩ := B3.out 0 _ rfl; obtain ⟨b1, q1⟩ := B3.out 1 _ rfl; obtain ⟨b2', q2'⟩ := B3.out 2 _ rfl; obtain ⟨b3, q3⟩ := B3.out 3 _ rfl; obtain ⟨b4, q4⟩ := B3.out 4 _ rfl; obtain ⟨b5, q5⟩ := B3.out 5 _ rfl; obtain ⟨b6, q6⟩ := B3.out 6 _ rfl; obtain ⟨b7, q7⟩ := B3.out 7 _ rfl
          obtain ⟨r0, y0⟩ := R.out 0 _ rfl; obtain ⟨r1, y1⟩ := R.out 1 _ rfl; obtain ⟨r2, y2⟩ := R.out 2 _ rfl; obtain ⟨r3, y3⟩ := R.out 3 _ rfl; obtain ⟨r4, y4⟩ := R.out 4 _ rfl; obtain ⟨r5, y5⟩ := R.out 5 _ rfl; obtain ⟨r6, y6⟩ := R.out 6 _ rfl; obtain ⟨r7, y7⟩ := R.out 7 _ rfl
          go_wp2
          refine bodyPost_ret (v := .tuple #[.agg #[.int .i64 f0, .int .i64 f1, .int .i64 (C : Int), .int .i64 f3, .slice (some ⟨g0, 0, none⟩) es.length d0, .int .i64 (S : Int), .int .i64 sp, .slice (some ⟨g1, 0, none⟩) zs.length d1], .int .i64 0]) (by simp [results, Try.results32, go_sem, r0, y0, r1, y1, r2, y2, r3, y3, r4, y4, r5, y5, r6, y6, r7, y7]) rfl ?_
          rw [HCV.out.1, HCV.out.2]
          refine ⟨some ⟨g0, 0, none⟩, some ⟨g1, 0, none⟩, d0, d1, by simp [setS], ⟨?_, ?_⟩, ((((((((FB.out).setCell (by simp <;> omega) _).setCell (by simp <;> omega) _).setCell (by simp <;> omega) _).setCell (by simp <;> omega) _).setCell (by simp <;> omega) _).setCell (by simp <;> omega) _).setCell (by simp <;> omega) _).setCell (by simp <;> omega) _⟩
          · refine SlSI.mono (OwnBlk.sli (g := g0) (B := w3.heap.size) (HP3.out.keep ?_)) (by have := FB.out.size; omega) (Nat.le_refl _)
            simp only [World.setCell, Array.getElem?_modify]
            rw [if_neg (by omega), if_neg (by omega), if_neg (by omega), if_neg (by omega), if_neg (by omega), if_neg (by omega), if_neg (by omega), if_neg (by omega)]
          · refine SlI.mono (OwnBlkI.sli (g := g1) (B := w3.heap.size) (HQ3.out.keep ?_)) (by have := FB.out.size; omega) (Nat.le_refl _)
            simp only [World.setCell, Array.getElem?_modify]
            rw [if_neg (by omega), if_neg (by omega), if_neg (by omega), if_neg (by omega), if_neg (by omega), if_neg (by omega), if_neg (by omega), if_neg (by omega)]
        | false =>
          have hcv : contV e = zerosS n := by unfold contV; rw [if_neg (by rw [HQ2.out]; simp), HEN.out]
          have t3 := (HAR.out 3 _ rfl).1
          go_wp2_with fail
          refine (BY.out _).mono ?_
          rintro e_ w6 ⟨rfl, rfl⟩
          go_wp2_with fail
          refine (ZE.out _).mono ?_
          rintro e_ w6 ⟨rfl, hb6⟩
          clear t3
          have hz6 := hb6.size
          replace HAR := Lib.hid (HAR.out.below hb6 (by omega))
          replace HRR := Lib.hid (HRR.out.below hb6 (by omega))
          replace B := Lib.hid (B.out.below hb6 (by omega))
          replace BS := Lib.hid (BS.out.below hb6 (by omega))
          replace HO0 := Lib.hid (HO0.out.below hb6 (by omega))
          replace HO1 := Lib.hid (HO1.out.below hb6 (by omega))
          replace HOC := Lib.hid (HOC.out.below hb6 (by omega))
          replace FBr := Lib.hid (FBr.out.trans (hb6.mono FBr.out.size))
          clear hb6
          obtain ⟨t0, v0⟩ := BS.out 0 _ rfl
          obtain ⟨t1, v1⟩ := BS.out 1 _ rfl
          go_upto_region 14 with (fail)
          have hBS : BoxF ((w6.setCell ⟨W.heap.size, 0, none⟩ (.string (zerosS n))).setCell ⟨W.heap.size, 1, none⟩ (.int .i64 1)) W.heap.size #[.string (contV e), .int .i64 1] := by rw [hcv]; exact (BS.out.putAt 0 (.string (zerosS n)) (by simp)).putAt 1 (.int .i64 1) (by simp)
          have hkp : ∀ q, q ≠ W.heap.size → ((w6.setCell ⟨W.heap.size, 0, none⟩ (.string (zerosS n))).setCell ⟨W.heap.size, 1, none⟩ (.int .i64 1)).heap[q]? = w6.heap[q]? := fun q hq => put_other _ _ _ _ _ _ _ hq
          have hFB := (FBr.out.setCell (p := ⟨W.heap.size, 0, none⟩) (show w.heap.size ≤ W.heap.size by omega) (.string (zerosS n))).setCell (p := ⟨W.heap.size, 1, none⟩) (show w.heap.size ≤ W.heap.size by omega) (.int .i64 1)
          have hsz : ((w6.setCell ⟨W.heap.size, 0, none⟩ (.string (zerosS n))).setCell ⟨W.heap.size, 1, none⟩ (.int .i64 1)).heap.size = w6.heap.size := by simp [World.setCell]
          clear t0 v0 t1 v1 BS
          generalize (w6.setCell ⟨W.heap.size, 0, none⟩ (.string (zerosS n))).setCell ⟨W.heap.size, 1, none⟩ (.int .i64 1) = wy at *
          replace HAR := Lib.hid (HAR.out.keep (hkp _ (by omega)))
          replace HRR := Lib.hid (HRR.out.keep (hkp _ (by omega)))
          replace B := Lib.hid (B.out.keep (hkp _ (by omega)))
          replace HO0 := Lib.hid (HO0.out.keep (hkp _ (by omega)))
          replace HO1 := Lib.hid (HO1.out.keep (hkp _ (by omega)))
          replace HOC := Lib.hid (HOC.out.keep (hkp _ (by omega)))
          have BS := Lib.hid hBS
          replace FBr := Lib.hid hFB
          have HSZ := Lib.hid hsz
          clear hkp hBS hFB hsz hcv
          obtain ⟨u4, x4⟩ := B.out 4 _ rfl
          have hok := HOG.out k hlt
          obtain ⟨s0', y0'⟩ := BS.out 0 _ rfl
          obtain ⟨s1', y1'⟩ := BS.out 1 _ rfl
          obtain ⟨es2, hes2⟩ : ∃ e2, es[z2]? = some e2 := ⟨es[z2], by simp [hz2l]⟩
          obtain ⟨m0, m1⟩ := HO0.out.cell hes2
          have m2 := HO0.out.free (z2 * 2)
          have m3 := HO0.out.free (z2 * 2 + 1)
          have hoc5 : wy.cell? ⟨g, k, none⟩ = some (.int .i64 (z2 : Int)) := by rw [← HZE.out]; exact HOC.out.cell hok
          go_upto_region 14 with (fail)
          refine wp_region_held_drew (S := (fun w' => w'.cell? ⟨w4.heap.size, 4, none⟩ = some (.slice (some ⟨g0, 0, none⟩) es.length d0) ∧ w'.cell? ⟨g, k, none⟩ = some (.int .i64 (z2 : Int)) ∧ w'.cell? ⟨W.heap.size, 0, none⟩ = some (.string (contV e)) ∧ w'.cell? ⟨W.heap.size, 1, none⟩ = some (.int .i64 1))) (by kernel_rfl) ⟨u4, hoc5, s0', s1'⟩ (fun hHeld => ?_)
          refine wpAnyH_take (i := 0) (oi := { dst := some 55, op := Op.fieldAddr 34 (Operand.tmp 9) 0, type := 0, pos := "l15_blocks.go:117", after := #[], guard := none }) (v := ?_) rfl (by kernel_rfl) (by kernel_rfl) (by kernel_rfl) (fun _ _ _ h => h) (Or.inl ⟨by rfl, ?hy⟩) hHeld ?_
          case hy => (intro w' hSw; (try dsimp only at hSw); go_simp; try with_reducible rfl)
          simp only [Act.put, List.setIfInBounds_toArray, List.set_cons_zero, List.set_cons_succ]
          refine wpAnyH_take (i := 1) (oi := { dst := some 56, op := Op.fieldAddr 32 (Operand.tmp 55) 4, type := 0, pos := "l15_blocks.go:117", after := #[{ on := 0, ground := Ground.data }], guard := none }) (v := ?_) rfl (by kernel_rfl) (by kernel_rfl) (by kernel_rfl) (fun _ _ _ h => h) (Or.inl ⟨by rfl, ?hy⟩) hHeld ?_
          case hy => (intro w' hSw; (try dsimp only at hSw); go_simp; try with_reducible rfl)
          simp only [Act.put, List.setIfInBounds_toArray, List.set_cons_zero, List.set_cons_succ]
          refine wpAnyH_take (i := 2) (oi := { dst := some 57, op := Op.load 30 (Operand.tmp 56), type := 30, pos := "l15_blocks.go:117", after := #[{ on := 1, ground := Ground.data }], guard := none }) (v := ?_) rfl (by kernel_rfl) (by kernel_rfl) (by kernel_rfl) (fun _ _ _ h => h) (Or.inl ⟨by rfl, ?hy⟩) hHeld ?_
          case hy => (intro w' hSw; (try dsimp only at hSw); go_simp; try with_reducible rfl)
          simp only [Act.put, List.setIfInBounds_toArray, List.set_cons_zero, List.set_cons_succ]
          refine wpAnyH_take (i := 3) (oi := { dst := some 58, op := Op.move (Operand.tmp 7), type := 25, pos := "l15_blocks.go:117", after := #[], guard := none }) (v := ?_) rfl (by kernel_rfl) (by kernel_rfl) (by kernel_rfl) (fun _ _ _ h => h) (Or.inl ⟨by rfl, ?hy⟩) hHeld ?_
          case hy => (intro w' hSw; (try dsimp only at hSw); go_simp; try with_reducible rfl)
          simp only [Act.put, List.setIfInBounds_toArray, List.set_cons_zero, List.set_cons_succ]
          refine wpAnyH_take (i := 4) (oi := { dst := some 59, op := Op.move (Operand.tmp 8), type := 3, pos := "l15_blocks.go:117", after := #[], guard := none }) (v := ?_) rfl (by kernel_rfl) (by kernel_rfl) (by kernel_rfl) (fun _ _ _ h => h) (Or.inl ⟨by rfl, ?hy⟩) hHeld ?_
          case hy => (intro w' hSw; (try dsimp only at hSw); go_simp; try with_reducible rfl)
          simp only [Act.put, List.setIfInBounds_toArray, List.set_cons_zero, List.set_cons_succ]
          refine wpAnyH_take (i := 5) (oi := { dst := some 60, op := Op.indexAddr 25 (Operand.tmp 58) (Operand.tmp 59), type := 0, pos := "l15_blocks.go:117", after := #[{ on := 3, ground := Ground.data }, { on := 4, ground := Ground.data }], guard := none }) (v := ?_) rfl (by kernel_rfl) (by kernel_rfl) (by kernel_rfl) (fun _ _ _ h => h) (Or.inl ⟨by rfl, ?hy⟩) hHeld ?_
          case hy => (intro w' hSw; (try dsimp only at hSw); go_simp; try with_reducible rfl)
          simp only [Act.put, List.setIfInBounds_toArray, List.set_cons_zero, List.set_cons_succ]
          refine wpAnyH_take (i := 6) (oi := { dst := some 61, op := Op.load 2 (Operand.tmp 60), type := 2, pos := "l15_blocks.go:117", after := #[{ on := 5, ground := Ground.data }], guard := none }) (v := ?_) rfl (by kernel_rfl) (by kernel_rfl) (by kernel_rfl) (fun _ _ _ h => h) (Or.inl ⟨by rfl, ?hy⟩) hHeld ?_
          case hy => (intro w' hSw; (try dsimp only at hSw); go_simp; try with_reducible rfl)
          simp only [Act.put, List.setIfInBounds_toArray, List.set_cons_zero, List.set_cons_succ]
          refine wpAnyH_take (i := 7) (oi := { dst := some 62, op := Op.load 84 (Operand.tmp 10), type := 84, pos := "l15_blocks.go:117", after := #[], guard := none }) (v := ?_) rfl (by kernel_rfl) (by kernel_rfl) (by kernel_rfl) (fun _ _ _ h => h) (Or.inl ⟨by rfl, ?hy⟩) hHeld ?_
          case hy => (intro w' hSw; (try dsimp only at hSw); go_simp; try with_reducible rfl)
          simp only [Act.put, List.setIfInBounds_toArray, List.set_cons_zero, List.set_cons_succ]
          refine wpAnyH_take (i := 8) (oi := { dst := some 63, op := Op.indexAddr 30 (Operand.tmp 57) (Operand.tmp 61), type := 0, pos := "l15_blocks.go:117", after := #[{ on := 2, ground := Ground.data }, { on := 6, ground := Ground.data }, { on := 0, ground := Ground.phase }, { on := 1, ground := Ground.phase }, { on := 2, ground := Ground.phase }, { on := 3, ground := Ground.phase }, { on := 4, ground := Ground.phase }, { on := 5, ground := Ground.phase }, { on := 6, ground := Ground.phase }, { on := 7, ground := Ground.phase }], guard := none }) (v := ?_) rfl (by kernel_rfl) (by kernel_rfl) (by kernel_rfl) (fun _ _ _ h => h) (Or.inl ⟨by rfl, ?hy⟩) hHeld ?_
          case hy => (intro w' hSw; (try dsimp only at hSw); go_simp; try with_reducible rfl)
          simp only [Act.put, List.setIfInBounds_toArray, List.set_cons_zero, List.set_cons_succ]
          refine wpAnyH_ready (rs := [9]) (by kernel_rfl) (by simp) ?_
          refine AllReadyH.cons (o := { dst := none, op := Op.store 84 (Operand.tmp 63) (Operand.tmp 62), type := 0, pos := "l15_blocks.go:117", after := #[{ on := 8, ground := Ground.data }, { on := 7, ground := Ground.data }, { on := 0, ground := Ground.phase }, { on := 1, ground := Ground.phase }, { on := 2, ground := Ground.phase }, { on := 3, ground := Ground.phase }, { on := 4, ground := Ground.phase }, { on := 5, ground := Ground.phase }, { on := 6, ground := Ground.phase }, { on := 7, ground := Ground.phase }], guard := none }) rfl (fun K hK => ?_) AllReadyH.nil
          go_simp
          refine hK.out _ _ (⟨(put_cellD _ _ _ _ _ _ _ _ (by omega)).trans u4, (put_cellD _ _ _ _ _ _ _ _ (by omega)).trans hoc5, (put_cellD _ _ _ _ _ _ _ _ (by omega)).trans s0', (put_cellD _ _ _ _ _ _ _ _ (by omega)).trans s1'⟩) (fun hHeld => ?_)
          clear hK K
          try simp only [Act.put, List.setIfInBounds_toArray, List.set_cons_zero, List.set_cons_succ]
          refine wpAnyH_done (by kernel_rfl) ?_ _
          have PUT := HO0.out.put z2 ⟨contV e, 1⟩ hz2l
          dsimp only at PUT
          replace PUT : OwnBlk ((wy.setCell ⟨g0, z2 * 2, none⟩ (.string (contV e))).setCell ⟨g0, z2 * 2 + 1, none⟩ (.int .i64 1)).drew w3.heap.size g0 (es.set z2 ⟨contV e, 1⟩) := PUT
          replace HRR := Lib.hid (HRR.out.keep (put_otherD wy g0 (z2 * 2) (z2 * 2 + 1) (.string (contV e)) (.int .i64 1) _ (by omega)))
          replace B := Lib.hid (B.out.keep (put_otherD wy g0 (z2 * 2) (z2 * 2 + 1) (.string (contV e)) (.int .i64 1) _ (by omega)))
          replace HO1 := Lib.hid (HO1.out.keep (put_otherD wy g0 (z2 * 2) (z2 * 2 + 1) (.string (contV e)) (.int .i64 1) _ (fun e => hne e.symm)))
          replace HOC := Lib.hid (HOC.out.keep (put_otherD wy g0 (z2 * 2) (z2 * 2 + 1) (.string (contV e)) (.int .i64 1) _ (by omega)))
          replace FBr := Lib.hid ((FBr.out.setCell (p := ⟨g0, z2 * 2, none⟩) (show w.heap.size ≤ g0 by omega) (.string (contV e))).setCell (p := ⟨g0, z2 * 2 + 1, none⟩) (show w.heap.size ≤ g0 by omega) (.int .i64 1)).drew
          have hz7 : wy.heap.size = ((wy.setCell ⟨g0, z2 * 2, none⟩ (.string (contV e))).setCell ⟨g0, z2 * 2 + 1, none⟩ (.int .i64 1)).drew.heap.size := by show wy.heap.size = ((wy.setCell _ _).setCell _ _).heap.size; simp [World.setCell]
          have HP := Lib.hid PUT
          have HZ7 := Lib.hid hz7
          clear hHeld u4 x4 s0' y0' s1' y1' m0 m1 m2 m3 hoc5 hok PUT HO0 HAR BS hz7 hes2
          change Exit.then _ _ _ _ ((wy.setCell ⟨g0, z2 * 2, none⟩ (.string (contV e))).setCell ⟨g0, z2 * 2 + 1, none⟩ (.int .i64 1)).drew
          generalize ((wy.setCell ⟨g0, z2 * 2, none⟩ (.string (contV e))).setCell ⟨g0, z2 * 2 + 1, none⟩ (.int .i64 1)).drew = W2 at *
          obtain ⟨u7, x7⟩ := B.out 7 _ rfl
          have hok := HOG.out k hlt
          have hoc6 : W2.cell? ⟨g, k, none⟩ = some (.int .i64 (z2 : Int)) := by rw [← HZE.out]; exact HOC.out.cell hok
          have m0 := HO1.out.cell HX.out
          have m1 := HO1.out.free j
          have hn4 : g1 ≠ w4.heap.size := by omega
          have hn5 : g1 ≠ g := by omega
          go_upto_region 15 with (fail)
          refine wp_region_held_drew (S := (fun w' => w'.cell? ⟨w4.heap.size, 7, none⟩ = some (.slice (some ⟨g1, 0, none⟩) zs.length d1) ∧ w'.cell? ⟨g, k, none⟩ = some (.int .i64 (z2 : Int)))) (by kernel_rfl) ⟨u7, hoc6⟩ (fun hHeld => ?_)
          refine wpAnyH_take (i := 0) (oi := { dst := some 64, op := Op.fieldAddr 34 (Operand.tmp 9) 3, type := 0, pos := "l15_blocks.go:118", after := #[], guard := none }) (v := ?_) rfl (by kernel_rfl) (by kernel_rfl) (by kernel_rfl) (fun _ _ _ h => h) (Or.inl ⟨by rfl, ?hy⟩) hHeld ?_
          case hy => (intro w' hSw; (try dsimp only at hSw); go_simp; try with_reducible rfl)
          simp only [Act.put, List.setIfInBounds_toArray, List.set_cons_zero, List.set_cons_succ]
          refine wpAnyH_take (i := 1) (oi := { dst := some 65, op := Op.load 25 (Operand.tmp 64), type := 25, pos := "l15_blocks.go:118", after := #[{ on := 0, ground := Ground.data }], guard := none }) (v := ?_) rfl (by kernel_rfl) (by kernel_rfl) (by kernel_rfl) (fun _ _ _ h => h) (Or.inl ⟨by rfl, ?hy⟩) hHeld ?_
          case hy => (intro w' hSw; (try dsimp only at hSw); go_simp; try with_reducible rfl)
          simp only [Act.put, List.setIfInBounds_toArray, List.set_cons_zero, List.set_cons_succ]
          refine wpAnyH_take (i := 2) (oi := { dst := some 66, op := Op.move (Operand.tmp 1), type := 2, pos := "l15_blocks.go:118", after := #[], guard := none }) (v := ?_) rfl (by kernel_rfl) (by kernel_rfl) (by kernel_rfl) (fun _ _ _ h => h) (Or.inl ⟨by rfl, ?hy⟩) hHeld ?_
          case hy => (intro w' hSw; (try dsimp only at hSw); go_simp; try with_reducible rfl)
          simp only [Act.put, List.setIfInBounds_toArray, List.set_cons_zero, List.set_cons_succ]
          refine wpAnyH_take (i := 3) (oi := { dst := some 67, op := Op.move (Operand.tmp 7), type := 25, pos := "l15_blocks.go:118", after := #[], guard := none }) (v := ?_) rfl (by kernel_rfl) (by kernel_rfl) (by kernel_rfl) (fun _ _ _ h => h) (Or.inl ⟨by rfl, ?hy⟩) hHeld ?_
          case hy => (intro w' hSw; (try dsimp only at hSw); go_simp; try with_reducible rfl)
          simp only [Act.put, List.setIfInBounds_toArray, List.set_cons_zero, List.set_cons_succ]
          refine wpAnyH_take (i := 4) (oi := { dst := some 68, op := Op.move (Operand.tmp 8), type := 3, pos := "l15_blocks.go:118", after := #[], guard := none }) (v := ?_) rfl (by kernel_rfl) (by kernel_rfl) (by kernel_rfl) (fun _ _ _ h => h) (Or.inl ⟨by rfl, ?hy⟩) hHeld ?_
          case hy => (intro w' hSw; (try dsimp only at hSw); go_simp; try with_reducible rfl)
          simp only [Act.put, List.setIfInBounds_toArray, List.set_cons_zero, List.set_cons_succ]
          refine wpAnyH_take (i := 5) (oi := { dst := some 69, op := Op.indexAddr 25 (Operand.tmp 67) (Operand.tmp 68), type := 0, pos := "l15_blocks.go:118", after := #[{ on := 3, ground := Ground.data }, { on := 4, ground := Ground.data }], guard := none }) (v := ?_) rfl (by kernel_rfl) (by kernel_rfl) (by kernel_rfl) (fun _ _ _ h => h) (Or.inl ⟨by rfl, ?hy⟩) hHeld ?_
          case hy => (intro w' hSw; (try dsimp only at hSw); go_simp; try with_reducible rfl)
          simp only [Act.put, List.setIfInBounds_toArray, List.set_cons_zero, List.set_cons_succ]
          refine wpAnyH_take (i := 6) (oi := { dst := some 70, op := Op.load 2 (Operand.tmp 69), type := 2, pos := "l15_blocks.go:118", after := #[{ on := 5, ground := Ground.data }], guard := none }) (v := ?_) rfl (by kernel_rfl) (by kernel_rfl) (by kernel_rfl) (fun _ _ _ h => h) (Or.inl ⟨by rfl, ?hy⟩) hHeld ?_
          case hy => (intro w' hSw; (try dsimp only at hSw); go_simp; try with_reducible rfl)
          simp only [Act.put, List.setIfInBounds_toArray, List.set_cons_zero, List.set_cons_succ]
          refine wpAnyH_take (i := 7) (oi := { dst := some 71, op := Op.indexAddr 25 (Operand.tmp 65) (Operand.tmp 66), type := 0, pos := "l15_blocks.go:118", after := #[{ on := 1, ground := Ground.data }, { on := 2, ground := Ground.data }, { on := 0, ground := Ground.phase }, { on := 1, ground := Ground.phase }, { on := 2, ground := Ground.phase }, { on := 3, ground := Ground.phase }, { on := 4, ground := Ground.phase }, { on := 5, ground := Ground.phase }, { on := 6, ground := Ground.phase }], guard := none }) (v := ?_) rfl (by kernel_rfl) (by kernel_rfl) (by kernel_rfl) (fun _ _ _ h => h) (Or.inl ⟨by rfl, ?hy⟩) hHeld ?_
          case hy => (intro w' hSw; (try dsimp only at hSw); go_simp; try with_reducible rfl)
          simp only [Act.put, List.setIfInBounds_toArray, List.set_cons_zero, List.set_cons_succ]
          refine wpAnyH_ready (rs := [8]) (by kernel_rfl) (by simp) ?_
          refine AllReadyH.cons (o := { dst := none, op := Op.store 2 (Operand.tmp 71) (Operand.tmp 70), type := 0, pos := "l15_blocks.go:118", after := #[{ on := 7, ground := Ground.data }, { on := 6, ground := Ground.data }, { on := 0, ground := Ground.phase }, { on := 1, ground := Ground.phase }, { on := 2, ground := Ground.phase }, { on := 3, ground := Ground.phase }, { on := 4, ground := Ground.phase }, { on := 5, ground := Ground.phase }, { on := 6, ground := Ground.phase }], guard := none }) rfl (fun K hK => ?_) AllReadyH.nil
          go_simp
          refine hK.out _ _ (⟨(World.cell?_of_block (show (W2.setCell ⟨g1, j, none⟩ (.int .i64 (z2 : Int))).drew.heap[w4.heap.size]? = W2.heap[w4.heap.size]? from Below.heap_setCell _ _ _ _ hn4.symm)).trans u7, (World.cell?_of_block (show (W2.setCell ⟨g1, j, none⟩ (.int .i64 (z2 : Int))).drew.heap[g]? = W2.heap[g]? from Below.heap_setCell _ _ _ _ hn5.symm)).trans hoc6⟩) (fun hHeld => ?_)
          clear hK K
          try simp only [Act.put, List.setIfInBounds_toArray, List.set_cons_zero, List.set_cons_succ]
          refine wpAnyH_done (by kernel_rfl) ?_ _
          have hB3 : BoxF (W2.setCell ⟨g1, j, none⟩ (.int .i64 (z2 : Int))).drew w4.heap.size #[.int .i64 f0, .int .i64 f1, .int .i64 (C : Int), .int .i64 f3, .slice (some ⟨g0, 0, none⟩) es.length d0, .int .i64 (S : Int), .int .i64 sp, .slice (some ⟨g1, 0, none⟩) zs.length d1] := B.out.keep (show (W2.setCell ⟨g1, j, none⟩ (.int .i64 (z2 : Int))).drew.heap[_]? = _ from Below.heap_setCell _ _ _ _ (by simp; omega))
          have hR3 : BoxF (W2.setCell ⟨g1, j, none⟩ (.int .i64 (z2 : Int))).drew (w.heap.size + 1) #[.int .i64 0, .int .i64 0, .int .i64 0, .int .i64 0, .slice none 0 0, .int .i64 0, .int .i64 0, .slice none 0 0] := HRR.out.keep (show (W2.setCell ⟨g1, j, none⟩ (.int .i64 (z2 : Int))).drew.heap[_]? = _ from Below.heap_setCell _ _ _ _ (by simp; omega))
          have hP3 : OwnBlk (W2.setCell ⟨g1, j, none⟩ (.int .i64 (z2 : Int))).drew w3.heap.size g0 (es.set z2 ⟨contV e, 1⟩) := HP.out.keep (show (W2.setCell ⟨g1, j, none⟩ (.int .i64 (z2 : Int))).drew.heap[_]? = _ from Below.heap_setCell _ _ _ _ (by simp; omega))
          have hQ3 : OwnBlkI (W2.setCell ⟨g1, j, none⟩ (.int .i64 (z2 : Int))).drew w3.heap.size g1 (zs.set j (z2 : Int)) := HO1.out.put j (z2 : Int) hjl
          replace FB := Lib.hid ((FBr.out.setCell (p := ⟨g1, j, none⟩) (show w.heap.size ≤ g1 by omega) (.int .i64 (z2 : Int))).drew)
          have hz8 : (W2.setCell ⟨g1, j, none⟩ (.int .i64 (z2 : Int))).drew.heap.size = W2.heap.size := by show (W2.setCell _ _).heap.size = _; simp [World.setCell]
          have B3 := Lib.hid hB3
          have R := Lib.hid hR3
          have HP3 := Lib.hid hP3
          have HQ3 := Lib.hid hQ3
          have HZ8 := Lib.hid hz8
          clear hB3 hR3 hP3 hQ3 hz8 u7 x7 hok hoc6 m0 m1 hHeld B HRR HP HO1 FBr
          change Exit.then _ _ _ _ (W2.setCell ⟨g1, j, none⟩ (.int .i64 (z2 : Int))).drew
          generalize (W2.setCell ⟨g1, j, none⟩ (.int .i64 (z2 : Int))).drew = W3 at *
          obtain ⟨b0, q0⟩ := B3.out 0 _ rfl; obtain ⟨b1, q1⟩ := B3.out 1 _ rfl; obtain ⟨b2', q2'⟩ := B3.out 2 _ rfl; obtain ⟨b3, q3⟩ := B3.out 3 _ rfl; obtain ⟨b4, q4⟩ := B3.out 4 _ rfl; obtain ⟨b5, q5⟩ := B3.out 5 _ rfl; obtain ⟨b6, q6⟩ := B3.out 6 _ rfl; obtain ⟨b7, q7⟩ := B3.out 7 _ rfl
          obtain ⟨r0, y0⟩ := R.out 0 _ rfl; obtain ⟨r1, y1⟩ := R.out 1 _ rfl; obtain ⟨r2, y2⟩ := R.out 2 _ rfl; obtain ⟨r3, y3⟩ := R.out 3 _ rfl; obtain ⟨r4, y4⟩ := R.out 4 _ rfl; obtain ⟨r5, y5⟩ := R.out 5 _ rfl; obtain ⟨r6, y6⟩ := R.out 6 _ rfl; obtain ⟨r7, y7⟩ := R.out 7 _ rfl
          go_wp2
          refine bodyPost_ret (v := .tuple #[.agg #[.int .i64 f0, .int .i64 f1, .int .i64 (C : Int), .int .i64 f3, .slice (some ⟨g0, 0, none⟩) es.length d0, .int .i64 (S : Int), .int .i64 sp, .slice (some ⟨g1, 0, none⟩) zs.length d1], .int .i64 0]) (by simp [results, Try.results32, go_sem, r0, y0, r1, y1, r2, y2, r3, y3, r4, y4, r5, y5, r6, y6, r7, y7]) rfl ?_
          rw [HCV.out.1, HCV.out.2]
          refine ⟨some ⟨g0, 0, none⟩, some ⟨g1, 0, none⟩, d0, d1, by simp [setS], ⟨?_, ?_⟩, ((((((((FB.out).setCell (by simp <;> omega) _).setCell (by simp <;> omega) _).setCell (by simp <;> omega) _).setCell (by simp <;> omega) _).setCell (by simp <;> omega) _).setCell (by simp <;> omega) _).setCell (by simp <;> omega) _).setCell (by simp <;> omega) _⟩
          · refine SlSI.mono (OwnBlk.sli (g := g0) (B := w3.heap.size) (HP3.out.keep ?_)) (by have := FB.out.size; omega) (Nat.le_refl _)
            simp only [World.setCell, Array.getElem?_modify]
            rw [if_neg (by omega), if_neg (by omega), if_neg (by omega), if_neg (by omega), if_neg (by omega), if_neg (by omega), if_neg (by omega), if_neg (by omega)]
          · refine SlI.mono (OwnBlkI.sli (g := g1) (B := w3.heap.size) (HQ3.out.keep ?_)) (by have := FB.out.size; omega) (Nat.le_refl _)
            simp only [World.setCell, Array.getElem?_modify]
            rw [if_neg (by omega), if_neg (by omega), if_neg (by omega), if_neg (by omega), if_neg (by omega), if_neg (by omega), if_neg (by omega), if_neg (by omega)]
    · obtain rfl : k = es.length := by omega
      obtain ⟨hc, hv⟩ := HCN.out.1 hfr.out
      have HCV := Lib.hid (And.intro hc hv)
      have R := HRR; have FB := FBr
      clear hc hv
      obtain ⟨r0, y0⟩ := R.out 0 _ rfl; obtain ⟨r1, y1⟩ := R.out 1 _ rfl; obtain ⟨r2, y2⟩ := R.out 2 _ rfl; obtain ⟨r3, y3⟩ := R.out 3 _ rfl; obtain ⟨r4, y4⟩ := R.out 4 _ rfl; obtain ⟨r5, y5⟩ := R.out 5 _ rfl; obtain ⟨r6, y6⟩ := R.out 6 _ rfl; obtain ⟨r7, y7⟩ := R.out 7 _ rfl
      go_wp2
      exact bodyPost_ret (v := .tuple #[.agg #[.int .i64 0, .int .i64 0, .int .i64 0, .int .i64 0, .slice none 0 0, .int .i64 0, .int .i64 0, .slice none 0 0], .int .i64 5]) (by simp [results, Try.results32, go_sem, r0, y0, r1, y1, r2, y2, r3, y3, r4, y4, r5, y5, r6, y6, r7, y7]) rfl (by rw [HCV.out.1, HCV.out.2]; exact ⟨none, none, 0, 0, rfl, devZ_own _ _ _, ((((((((FB.out).setCell (by simp <;> omega) _).setCell (by simp <;> omega) _).setCell (by simp <;> omega) _).setCell (by simp <;> omega) _).setCell (by simp <;> omega) _).setCell (by simp <;> omega) _).setCell (by simp <;> omega) _).setCell (by simp <;> omega) _⟩)
end Go.Proofs.Ytjnabncfkogigaa
