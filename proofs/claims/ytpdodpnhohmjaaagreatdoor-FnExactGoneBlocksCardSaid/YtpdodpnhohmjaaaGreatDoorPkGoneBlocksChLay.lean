/- impl.LayoutOf -/
import Derived.Test.YtpdodpnhohmjaaaGreatDoorPkGoneBlocksF
namespace Go.Proofs.YtpdodpnhohmjaaaGreatDoor
open Go.RowKit
set_option maxRecDepth 20000
set_option linter.unusedVariables false
set_option linter.unusedSimpArgs false
set_option maxRecDepth 20000
/-- The answer of LayoutOf. -/
def ChRes (l : ChainLayoutV) (c : Int) (w : World) (e : Ending) (w' : World) : Prop :=
  e = .returned (.tuple #[.agg #[.int .i64 l.f0, .int .i64 l.f1, .int .i64 l.f2, .int .i64 l.f3, .int .i64 l.f4], .int .i64 c]) ∧ Below w.heap.size w w'
set_option maxHeartbeats 4000000 in
theorem layoutOf_any (a : Option Addr) (c : Nat) (es : List StringV) (hm : es.length ≤ 1048576) (hs : ∀ e ∈ es, e.f0.size ≤ 1048576) (w : World) (h : SlS rowString w a es) :
    Calls Tryz.prog 36 #[.slice a es.length c] w (ChRes (chL es) (chCode es) w) := by
  have ID := Lib.hid (fun w' (hb : Below w.heap.size w w') => isDisk_any a es c w' hm (fun e he => by have := hs e he; unfold maxLen; omega) (h.below hb (Nat.le_refl _)))
  unfold ChRes
  by_cases hd : diskB es = true
  case neg =>
    have hd0 : diskB es = false := by simpa using hd
    have hC : chCode es = 1 := by unfold chCode; rw [hd0]; rfl
    have hL : chL es = ⟨0, 0, 0, 0, 0⟩ := by unfold chL; rw [hC]; rfl
    rw [hL, hC]
    dsimp only
    rw [hd0] at ID
    clear hd hd0 hL hC h hs
    go_enter Tryz.func36, Tryz.ntmps36
    have R0 := BoxF.new w #[.int .i64 0, .int .i64 0, .int .i64 0, .int .i64 0, .int .i64 0] 40 _ rfl
    go_wp2_with fail
    refine (ID.out _ (by go_grown)).mono ?_
    rintro e w1 ⟨rfl, hb1⟩
    obtain ⟨a0, z0⟩ := (R0.below hb1 (by simp)) 0 _ rfl
    obtain ⟨a1, z1⟩ := (R0.below hb1 (by simp)) 1 _ rfl
    obtain ⟨a2, z2⟩ := (R0.below hb1 (by simp)) 2 _ rfl
    obtain ⟨a3, z3⟩ := (R0.below hb1 (by simp)) 3 _ rfl
    obtain ⟨a4, z4⟩ := (R0.below hb1 (by simp)) 4 _ rfl
    have FB := Lib.hid (show Below w.heap.size w w1 from Below.trans (by go_grown) (hb1.mono (by simp)))
    clear hb1 R0
    go_wp2
    refine bodyPost_ret (v := .tuple #[.agg #[.int .i64 0, .int .i64 0, .int .i64 0, .int .i64 0, .int .i64 0], .int .i64 1]) (by simp [results, Tryz.results36, go_sem, a0, a1, a2, a3, a4]) rfl ⟨rfl, ?_⟩
    exact ((((FB.out.setCell (by simp) _).setCell (by simp) _).setCell (by simp) _).setCell (by simp) _).setCell (by simp) _
  obtain ⟨hn, hall, hz⟩ := diskB_facts hd
  obtain ⟨e0, hx0⟩ : ∃ e, es[0]? = some e := ⟨es[0], by simp⟩
  have hl0 : len0 es = e0.f0.size := by unfold len0; rw [hx0]; rfl
  rw [hl0] at hz
  have EL := Lib.hid (fun w => chainLayout_any es.length e0.f0.size w (by omega) (by omega) (by omega))
  have EH := Lib.hid (fun w => chHeader_any es.length e0.f0.size (chDir es.length e0.f0.size : Int) (chData es.length e0.f0.size : Int) w hz hn.2)
  have hc0 : chCode es = if e0.f0 = chHead es.length e0.f0.size then 0 else 7 := by unfold chCode; rw [hd, blkAt_of hx0, hl0]; rfl
  obtain ⟨b, off, rfl, hbl, hc⟩ := h.at rowString_len hx0
  have C0 := Lib.hid (fun w' (hb : Below w.heap.size w w') => show w'.cell? ⟨b, off, none⟩ = some (.string e0.f0) by rw [hb.cell (p := ⟨b, off, none⟩) hbl]; simpa using hc 0 _ rfl)
  rw [hd] at ID
  have hpos : 0 < es.length := by omega
  have HL0 := Lib.hid hl0
  have hsz : e0.f0.size ≤ 32 := by omega
  clear hd hall hl0 hx0 hc h hs
  by_cases heq : e0.f0 = chHead es.length e0.f0.size
  all_goals
    first
    | rw [if_pos heq] at hc0
    | rw [if_neg heq] at hc0
    have hL : chL es = if chCode es = 0 then ⟨(es.length : Int), (e0.f0.size : Int), ((es.length / 8 : Nat) : Int), (chDir es.length e0.f0.size : Int), (chData es.length e0.f0.size : Int)⟩ else ⟨0, 0, 0, 0, 0⟩ := by unfold chL chLay; rw [HL0.out]
    rw [hc0] at hL
    rw [hL, hc0]
    try (rw [if_neg (show ¬ (7 : Int) = 0 by omega)])
    simp only [if_true]
    first
    | have hne : ((e0.f0).toList == (chHead es.length e0.f0.size).toList) = true := by rw [← heq]; simp
    | have hne : ((e0.f0).toList == (chHead es.length e0.f0.size).toList) = false := toList_ne2 heq
    have HQ := Lib.hid heq
    clear heq hL hc0
    generalize chHead es.length e0.f0.size = hd at *
    generalize chData es.length e0.f0.size = dd at *
    generalize chDir es.length e0.f0.size = d3 at *
    generalize es.length / 8 = q4 at *
    go_enter Tryz.func36, Tryz.ntmps36
    have R0 := BoxF.new w #[.int .i64 0, .int .i64 0, .int .i64 0, .int .i64 0, .int .i64 0] 40 _ rfl
    go_wp2_with fail
    refine (ID.out _ (by go_grown)).mono ?_
    rintro e w1 ⟨rfl, hb1⟩
    have R1 := Lib.hid (R0.below hb1 (by simp))
    have FB := Lib.hid (show Below w.heap.size w w1 from Below.trans (by go_grown) (hb1.mono (by simp)))
    have hz1 : w.heap.size < w1.heap.size := Nat.lt_of_lt_of_le (by simp) hb1.size
    have c0 := C0.out _ FB.out
    clear hb1 R0
    go_wp2_with fail
    refine (EL.out _).mono ?_
    rintro e w2 ⟨rfl, hb2⟩
    have hz2 := hb2.size
    replace R1 := Lib.hid (R1.out.below hb2 hz1)
    replace FB := Lib.hid (FB.out.trans (hb2.mono FB.out.size))
    clear hb2 c0
    go_upto_region 4 with (fail)
    have B4 := BoxAt.new w2 #[.int .i64 (es.length : Int), .int .i64 (e0.f0.size : Int), .int .i64 (q4 : Int), .int .i64 (d3 : Int), .int .i64 (dd : Int)] 40 _ rfl
    replace R1 := Lib.hid (R1.out.below ((Below.refl w2.heap.size w2).alloc (Nat.le_refl _) (.cells #[.int .i64 (es.length : Int), .int .i64 (e0.f0.size : Int), .int .i64 (q4 : Int), .int .i64 (d3 : Int), .int .i64 (dd : Int)] 40)) (by omega))
    replace FB := Lib.hid (FB.out.alloc FB.out.size (.cells #[.int .i64 (es.length : Int), .int .i64 (e0.f0.size : Int), .int .i64 (q4 : Int), .int .i64 (d3 : Int), .int .i64 (dd : Int)] 40))
    have hlt : w2.heap.size < (w2.alloc (.cells #[.int .i64 (es.length : Int), .int .i64 (e0.f0.size : Int), .int .i64 (q4 : Int), .int .i64 (d3 : Int), .int .i64 (dd : Int)] 40)).heap.size := by simp
    generalize w2.alloc (.cells #[.int .i64 (es.length : Int), .int .i64 (e0.f0.size : Int), .int .i64 (q4 : Int), .int .i64 (d3 : Int), .int .i64 (dd : Int)] 40) = W at *
    have KS := Lib.hid (fun w' (hb : Below W.heap.size W w') => (show w'.cell? ⟨b, off, none⟩ = some (.string e0.f0) ∧ w'.cell? ⟨w2.heap.size, 0, none⟩ = some (.int .i64 (es.length : Int)) ∧ w'.cell? ⟨w2.heap.size, 1, none⟩ = some (.int .i64 (e0.f0.size : Int)) ∧ w'.cell? ⟨w2.heap.size, 2, none⟩ = some (.int .i64 (q4 : Int)) ∧ w'.cell? ⟨w2.heap.size, 3, none⟩ = some (.int .i64 (d3 : Int)) ∧ w'.cell? ⟨w2.heap.size, 4, none⟩ = some (.int .i64 (dd : Int)) from ⟨C0.out _ (FB.out.trans (hb.mono FB.out.size)), (B4.below hb hlt) 0 _ rfl, (B4.below hb hlt) 1 _ rfl, (B4.below hb hlt) 2 _ rfl, (B4.below hb hlt) 3 _ rfl, (B4.below hb hlt) 4 _ rfl⟩))
    have HC := Lib.hid (show Below W.heap.size W W.drew from (Below.refl _ _).drew)
    refine wp_region_held_drew (S := (fun w' => w'.cell? ⟨b, off, none⟩ = some (.string e0.f0) ∧ w'.cell? ⟨w2.heap.size, 0, none⟩ = some (.int .i64 (es.length : Int)) ∧ w'.cell? ⟨w2.heap.size, 1, none⟩ = some (.int .i64 (e0.f0.size : Int)) ∧ w'.cell? ⟨w2.heap.size, 2, none⟩ = some (.int .i64 (q4 : Int)) ∧ w'.cell? ⟨w2.heap.size, 3, none⟩ = some (.int .i64 (d3 : Int)) ∧ w'.cell? ⟨w2.heap.size, 4, none⟩ = some (.int .i64 (dd : Int)))) (by kernel_rfl) (KS.out _ HC.out) (fun hHeld => ?_)
    refine wpAnyH_take (i := 0) (oi := { dst := some 16, op := Op.move (Operand.tmp 0), type := 22, pos := "l16_chains.go:411", after := #[], guard := none }) (v := ?_) rfl (by kernel_rfl) (by kernel_rfl) (by kernel_rfl) (fun _ _ _ h => h) (Or.inl ⟨by rfl, ?hy⟩) hHeld ?_
    case hy => (intro w' hSw; (try dsimp only at hSw); go_simp; try with_reducible rfl)
    simp only [Act.put, List.setIfInBounds_toArray, List.set_cons_zero, List.set_cons_succ]
    refine wpAnyH_take (i := 1) (oi := { dst := some 17, op := Op.indexAddr 22 (Operand.tmp 16) (Operand.const (Value.int IntKind.i64 0)), type := 0, pos := "l16_chains.go:411", after := #[{ on := 0, ground := Ground.data }], guard := none }) (v := ?_) rfl (by kernel_rfl) (by kernel_rfl) (by kernel_rfl) (fun _ _ _ h => h) (Or.inl ⟨by rfl, ?hy⟩) hHeld ?_
    case hy => (intro w' hSw; (try dsimp only at hSw); go_simp; try with_reducible rfl)
    simp only [Act.put, List.setIfInBounds_toArray, List.set_cons_zero, List.set_cons_succ]
    refine wpAnyH_take (i := 2) (oi := { dst := some 18, op := Op.load 9 (Operand.tmp 17), type := 9, pos := "l16_chains.go:411", after := #[{ on := 1, ground := Ground.data }], guard := none }) (v := ?_) rfl (by kernel_rfl) (by kernel_rfl) (by kernel_rfl) (fun _ _ _ h => h) (Or.inl ⟨by rfl, ?hy⟩) hHeld ?_
    case hy => (intro w' hSw; (try dsimp only at hSw); go_simp; try with_reducible rfl)
    simp only [Act.put, List.setIfInBounds_toArray, List.set_cons_zero, List.set_cons_succ]
    refine wpAnyH_take (i := 3) (oi := { dst := some 19, op := Op.load 40 (Operand.tmp 4), type := 40, pos := "l16_chains.go:411", after := #[], guard := none }) (v := ?_) rfl (by kernel_rfl) (by kernel_rfl) (by kernel_rfl) (fun _ _ _ h => h) (Or.inl ⟨by rfl, ?hy⟩) hHeld ?_
    case hy => (intro w' hSw; (try dsimp only at hSw); go_simp; try with_reducible rfl)
    simp only [Act.put, List.setIfInBounds_toArray, List.set_cons_zero, List.set_cons_succ]
    refine wpAnyH_ready (rs := [4]) (by kernel_rfl) (by simp) ?_
    refine AllReadyH.cons (o := { dst := some 20, op := Op.call { callee := Callee.value (Operand.func 56), args := #[Operand.tmp 19], argTypes := #[40] }, type := 9, pos := "l16_chains.go:411", after := #[{ on := 3, ground := Ground.data }], guard := none }) rfl (fun K hK => ?_) AllReadyH.nil
    go_simp
    go_at_call 56; refine (EH.out _).mono ?_; rintro e wk1 ⟨rfl, hb1⟩; replace HC := Lib.hid (HC.out.trans (hb1.mono HC.out.size))
    go_wp2_with fail
    refine hK.out _ _ (KS.out _ HC.out) (fun hHeld => ?_)
    clear hK K
    try simp only [Act.put, List.setIfInBounds_toArray, List.set_cons_zero, List.set_cons_succ]
    refine wpAnyH_take (i := 5) (oi := { dst := some 21, op := Op.binOp BinOp.neq 9 (Operand.tmp 18) (Operand.tmp 20) 9, type := 4, pos := "l16_chains.go:411", after := #[{ on := 2, ground := Ground.data }, { on := 4, ground := Ground.data }], guard := none }) (v := ?_) rfl (by kernel_rfl) (by kernel_rfl) (by kernel_rfl) (fun _ _ _ h => h) (Or.inl ⟨by rfl, ?hy⟩) hHeld ?_
    case hy => (intro w' hSw; (try dsimp only at hSw); go_simp; try with_reducible rfl)
    simp only [Act.put, List.setIfInBounds_toArray, List.set_cons_zero, List.set_cons_succ]
    refine wpAnyH_done (by kernel_rfl) ?_ _
    obtain ⟨x0, x1, x2, x3, x4⟩ := (KS.out _ HC.out).2
    obtain ⟨a0, z0⟩ := (R1.out.below HC.out (by omega)) 0 _ rfl
    obtain ⟨a1, z1⟩ := (R1.out.below HC.out (by omega)) 1 _ rfl
    obtain ⟨a2, z2⟩ := (R1.out.below HC.out (by omega)) 2 _ rfl
    obtain ⟨a3, z3⟩ := (R1.out.below HC.out (by omega)) 3 _ rfl
    obtain ⟨a4, z4⟩ := (R1.out.below HC.out (by omega)) 4 _ rfl
    replace FB := Lib.hid (FB.out.trans (HC.out.mono FB.out.size))
    clear KS HC B4 hHeld
    go_wp2
    first
    | (refine bodyPost_ret (v := .tuple #[.agg #[.int .i64 (es.length : Int), .int .i64 (e0.f0.size : Int), .int .i64 (q4 : Int), .int .i64 (d3 : Int), .int .i64 (dd : Int)], .int .i64 0]) (by simp [results, Tryz.results36, go_sem, a0, a1, a2, a3, a4]) rfl ⟨rfl, ?_⟩; exact ((((FB.out.setCell (by simp) _).setCell (by simp) _).setCell (by simp) _).setCell (by simp) _).setCell (by simp) _)
    | (refine bodyPost_ret (v := .tuple #[.agg #[.int .i64 0, .int .i64 0, .int .i64 0, .int .i64 0, .int .i64 0], .int .i64 7]) (by simp [results, Tryz.results36, go_sem, a0, a1, a2, a3, a4]) rfl ⟨rfl, ?_⟩; exact ((((FB.out.setCell (by simp) _).setCell (by simp) _).setCell (by simp) _).setCell (by simp) _).setCell (by simp) _)
end Go.Proofs.YtpdodpnhohmjaaaGreatDoor
