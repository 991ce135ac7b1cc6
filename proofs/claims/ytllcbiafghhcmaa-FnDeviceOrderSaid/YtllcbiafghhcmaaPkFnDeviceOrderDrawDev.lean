/- spec.DrawNewDevice -/
import Derived.Test.YtllcbiafghhcmaaPkFnDeviceOrderDraw12b
namespace Go.Proofs.Ytllcbiafghhcmaa
open Go.RowKit
set_option linter.unusedVariables false
set_option linter.unusedSimpArgs false
set_option maxRecDepth 20000
set_option maxHeartbeats 8000000 in
theorem drawNewDevice_any (a : Option Addr) (n cap : Nat) (w : World) (hn : n ≤ 1048576) (ha : CodeLt a n w.heap.size) (hc : CodeAt w a n) :
    Calls Try.prog 7 #[.slice a n cap] w fun e w' => ∃ (x : DiscV) (g c : Nat) (sk sp : Int), e = .returned (.tuple #[.agg #[.int .i64 x.f0, .int .i64 x.f1, .int .i64 x.f2, .int .i64 x.f3, .slice (some ⟨g, 0, none⟩) x.f4.length c], .int .i64 sk, .int .i64 sp]) ∧ DrB x ∧ (-1 ≤ sk ∧ sk ≤ 8 ∧ -1 ≤ sp ∧ sp ≤ 8) ∧ OwnBlk w' w.heap.size g x.f4 ∧ Below w.heap.size w w' := by
  go_enter Try.func7, Try.ntmps7
  go_upto_region 1 with (fail)
  have R0 := BoxF.new w #[.int .i64 0, .int .i64 0, .int .i64 0, .int .i64 0, .slice none 0 0] 26 _ rfl
  have hW0 : Below w.heap.size w (w.alloc (.cells #[.int .i64 0, .int .i64 0, .int .i64 0, .int .i64 0, .slice none 0 0] 26)) := (Below.refl _ _).alloc (Nat.le_refl _) _
  have z0 : (w.alloc (.cells #[.int .i64 0, .int .i64 0, .int .i64 0, .int .i64 0, .slice none 0 0] 26)).heap.size = w.heap.size + 1 := by simp
  generalize w.alloc (.cells #[.int .i64 0, .int .i64 0, .int .i64 0, .int .i64 0, .slice none 0 0] 26) = W0 at *
  have ha0 : CodeLt a n W0.heap.size := ha.mono (by omega)
  have SN := src_new W0 a n cap ha0 (hc.below ha hW0)
  have hW1 : Below W0.heap.size W0 (W0.alloc (.cells #[.slice a n cap, .int .i64 0, .int .u64 0] 119)) := (Below.refl _ _).alloc (Nat.le_refl _) _
  have z1 : (W0.alloc (.cells #[.slice a n cap, .int .i64 0, .int .u64 0] 119)).heap.size = w.heap.size + 2 := by simp [z0]
  rw [z0] at SN
  have FR := Lib.hid (show (w.heap.size + 1 = W0.heap.size) from z0.symm)
  have LF := Lib.hid (l00From_any a n cap W0)
  have B01 := Lib.hid (show Below w.heap.size w (W0.alloc (.cells #[.slice a n cap, .int .i64 0, .int .u64 0] 119)) from hW0.trans (hW1.mono (by omega)))
  have R1 := Lib.hid (R0.below hW1 (by omega))
  clear hW0 hW1 R0 hc
  go_wp2_with fail
  refine LF.out.mono ?_
  rintro e w1 ⟨rfl, hw1⟩
  rw [hw1] at SN z1 B01 R1
  rw [z0]
  clear hw1 LF ha0 FR z0
  have ha1 : CodeLt a n w1.heap.size := ha.mono (by omega)
  have BT := Lib.hid (l12Bent_any 9 (by omega) (w.heap.size + 1) a n cap 0 w1 hn (by omega) ha1 SN)
  go_wp2_with fail
  refine BT.out.mono ?_
  rintro e w2 ⟨⟨A, B, C, D, es⟩, g, c, rfl, hdr, hown, k2, q1, q2, S2, G2⟩
  have z2 := G2.2.2.1
  have hg := hown.choose_spec.1
  have hgl := hown.lt
  obtain ⟨L, hL⟩ : ∃ L, es.length = L := ⟨_, rfl⟩
  have HLE := Lib.hid hL
  have HDR := Lib.hid hdr
  dsimp only
  rw [hL]
  have R2 := Lib.hid (R1.out.sf G2 (by omega) (by omega))
  have F2 := Lib.hid G2
  have O2 := Lib.hid hown
  have HS2 := Lib.hid S2
  clear hdr hown S2 G2 BT SN R1
  go_upto_region 3 with (fail)
  have hWW : Below w2.heap.size w2 (w2.alloc (.cells #[.int .i64 A, .int .i64 B, .int .i64 C, .int .i64 D, .slice (some ⟨g, 0, none⟩) L c] 26)) := (Below.refl _ _).alloc (Nat.le_refl _) _
  have p2 : w.heap.size + 1 < w2.heap.size := by omega
  have G3 := Sf.of_below p2 hWW
  have z3 : (w2.alloc (.cells #[.int .i64 A, .int .i64 B, .int .i64 C, .int .i64 D, .slice (some ⟨g, 0, none⟩) L c] 26)).heap.size = w2.heap.size + 1 := by simp
  have HX := Lib.hid (And.intro (O2.out.sf G3 (by omega)) (And.intro (BoxF.new w2 #[.int .i64 A, .int .i64 B, .int .i64 C, .int .i64 D, .slice (some ⟨g, 0, none⟩) L c] 26 _ rfl) (And.intro (R2.out.sf G3 (by omega) (by omega)) (And.intro (HS2.out.below (ha.mono (by omega)) hWW p2) (F2.out.trans G3)))))
  clear hWW G3 O2 R2 HS2 F2
  generalize w2.alloc (.cells #[.int .i64 A, .int .i64 B, .int .i64 C, .int .i64 D, .slice (some ⟨g, 0, none⟩) L c] 26) = W at *
  generalize w2.heap.size = Q at *
  have pW : w.heap.size + 1 < W.heap.size := by omega
  have hQW : Q < W.heap.size := by omega
  clear z3
  have AM := Lib.hid (among_any W.heap.size 6 [0, 1, 2, 7, 8, -1] (w.heap.size + 1) a n cap k2 (W.alloc (.cells #[.int .i64 0, .int .i64 1, .int .i64 2, .int .i64 7, .int .i64 8, .int .i64 (-1)] 2)) (by decide) (by decide) (by omega) (by exact ints_of [0, 1, 2, 7, 8, -1]) hn (by omega) (HX.out.2.2.2.1.below (ha.mono (show w.heap.size ≤ W.heap.size by omega)) ((Below.refl _ _).alloc (Nat.le_refl _) _) pW))
  have HSA := Lib.hid ((Sf.refl pW).alloc (.cells #[.int .i64 0, .int .i64 1, .int .i64 2, .int .i64 7, .int .i64 8, .int .i64 (-1)] 2))
  go_wp2_with fail
  refine AM.out.mono ?_
  rintro e w4 ⟨sk, rfl, hsk, hch⟩
  have hskb : -1 ≤ sk ∧ sk ≤ 8 := by simp at hsk; omega
  obtain ⟨k4, q3, q4, S4, G4⟩ := Chose.f (by simp; omega) hch
  have G5 := HSA.out.trans G4
  have z4 := G5.2.2.1
  have HY := Lib.hid (And.intro (HX.out.1.sf G5 (by omega)) (And.intro (HX.out.2.1.sf G5 (by omega) (by omega)) (And.intro (HX.out.2.2.1.sf G5 (by omega) (by omega)) (And.intro S4 (HX.out.2.2.2.2.trans G5)))))
  clear hch hsk S4 G4 G5 AM HSA HX
  have KY := Lib.hid (fun w' (hb : Sf (w.heap.size + 1) w4 w') => (show w'.cell? ⟨Q, 0, none⟩ = some (.int .i64 A) ∧ w'.cell? ⟨Q, 1, none⟩ = some (.int .i64 B) ∧ w'.cell? ⟨Q, 2, none⟩ = some (.int .i64 C) ∧ w'.cell? ⟨Q, 3, none⟩ = some (.int .i64 D) ∧ w'.cell? ⟨Q, 4, none⟩ = some (.slice (some ⟨g, 0, none⟩) L c) ∧ w'.cell? ⟨w.heap.size, 0, none⟩ = some (.int .i64 0) ∧ w'.cell? ⟨w.heap.size, 1, none⟩ = some (.int .i64 0) ∧ w'.cell? ⟨w.heap.size, 2, none⟩ = some (.int .i64 0) ∧ w'.cell? ⟨w.heap.size, 3, none⟩ = some (.int .i64 0) ∧ w'.cell? ⟨w.heap.size, 4, none⟩ = some (.slice none 0 0) ∧ w'.frozen? ⟨w.heap.size, 0, none⟩ = false ∧ w'.frozen? ⟨w.heap.size, 1, none⟩ = false ∧ w'.frozen? ⟨w.heap.size, 2, none⟩ = false ∧ w'.frozen? ⟨w.heap.size, 3, none⟩ = false ∧ w'.frozen? ⟨w.heap.size, 4, none⟩ = false from by
    have hq := HY.out.2.1.sf hb (by omega) (by omega)
    have hr := HY.out.2.2.1.sf hb (by omega) (by omega)
    exact ⟨(hq 0 _ rfl).1, (hq 1 _ rfl).1, (hq 2 _ rfl).1, (hq 3 _ rfl).1, (hq 4 _ rfl).1, (hr 0 _ rfl).1, (hr 1 _ rfl).1, (hr 2 _ rfl).1, (hr 3 _ rfl).1, (hr 4 _ rfl).1, (hr 0 _ rfl).2, (hr 1 _ rfl).2, (hr 2 _ rfl).2, (hr 3 _ rfl).2, (hr 4 _ rfl).2⟩))
  obtain ⟨y0, _⟩ := HY.out.2.1 0 _ rfl
  obtain ⟨y1, _⟩ := HY.out.2.1 1 _ rfl
  obtain ⟨y2, _⟩ := HY.out.2.1 2 _ rfl
  obtain ⟨y3, _⟩ := HY.out.2.1 3 _ rfl
  obtain ⟨y4, _⟩ := HY.out.2.1 4 _ rfl
  obtain ⟨t0, f0⟩ := HY.out.2.2.1 0 _ rfl
  obtain ⟨t1, f1⟩ := HY.out.2.2.1 1 _ rfl
  obtain ⟨t2, f2⟩ := HY.out.2.2.1 2 _ rfl
  obtain ⟨t3, f3⟩ := HY.out.2.2.1 3 _ rfl
  obtain ⟨t4, f4⟩ := HY.out.2.2.1 4 _ rfl
  have p4 : w.heap.size + 1 < w4.heap.size := by omega
  have PK := Lib.hid (fun W5 (hs : SrcAt W5 (w.heap.size + 1) a n cap k4) => pick_any 9 (w.heap.size + 1) a n cap k4 W5 (by omega) hn (by omega) hs)
  go_upto_region 4 with (fail)
  have hrQ : ¬ w.heap.size = Q := by omega
  have HC := Lib.hid (show Sf (w.heap.size + 1) w4 w4.drew from (Sf.refl p4).drew)
  refine wp_region_held_drew (S := (fun w' => w'.cell? ⟨Q, 0, none⟩ = some (.int .i64 A) ∧ w'.cell? ⟨Q, 1, none⟩ = some (.int .i64 B) ∧ w'.cell? ⟨Q, 2, none⟩ = some (.int .i64 C) ∧ w'.cell? ⟨Q, 3, none⟩ = some (.int .i64 D) ∧ w'.cell? ⟨Q, 4, none⟩ = some (.slice (some ⟨g, 0, none⟩) L c))) (by kernel_rfl) ⟨y0, y1, y2, y3, y4⟩ (fun hHeld => ?_)
  refine wpAnyH_take (i := 0) (oi := { dst := some 15, op := Op.load 26 (Operand.tmp 6), type := 26, pos := "l15_blocks.go:241", after := #[], guard := none }) (v := ?_) rfl (by kernel_rfl) (by kernel_rfl) (by kernel_rfl) (fun _ _ _ h => h) (Or.inl ⟨by rfl, ?hy⟩) hHeld ?_
  case hy => (intro w' hSw; (try dsimp only at hSw); go_simp; try with_reducible rfl)
  simp only [Act.put, List.setIfInBounds_toArray, List.set_cons_zero, List.set_cons_succ]
  refine wpAnyH_take (i := 1) (oi := { dst := some 16, op := Op.move (Operand.tmp 7), type := 2, pos := "l15_blocks.go:241", after := #[{ on := 5, ground := Ground.gcOnly Departure.lateStores }], guard := none }) (v := ?_) rfl (by kernel_rfl) (by kernel_rfl) (by kernel_rfl) (fun _ _ _ h => h) (Or.inl ⟨by rfl, ?hy⟩) hHeld ?_
  case hy => (intro w' hSw; (try dsimp only at hSw); go_simp; try with_reducible rfl)
  simp only [Act.put, List.setIfInBounds_toArray, List.set_cons_zero, List.set_cons_succ]
  refine wpAnyH_take (i := 2) (oi := { dst := some 17, op := Op.move (Operand.tmp 5), type := 64, pos := "l15_blocks.go:241", after := #[], guard := none }) (v := ?_) rfl (by kernel_rfl) (by kernel_rfl) (by kernel_rfl) (fun _ _ _ h => h) (Or.inl ⟨by rfl, ?hy⟩) hHeld ?_
  case hy => (intro w' hSw; (try dsimp only at hSw); go_simp; try with_reducible rfl)
  simp only [Act.put, List.setIfInBounds_toArray, List.set_cons_zero, List.set_cons_succ]
  refine wpAnyH_ready (rs := [3]) (by kernel_rfl) (by simp) ?_
  refine AllReadyH.cons (o := { dst := some 18, op := Op.call { callee := Callee.value (Operand.func 31), args := #[Operand.tmp 17, Operand.const (Value.int IntKind.i64 9)], argTypes := #[64, 2] }, type := 2, pos := "l15_blocks.go:241", after := #[{ on := 2, ground := Ground.data }], guard := none }) rfl (fun K hK => ?_) AllReadyH.nil
  go_simp
  go_at_call 31; refine (PK.out _ (by exact HY.out.2.2.2.1)).mono ?_; rintro e w6 ⟨v, rfl, v0, v1, hch⟩; obtain ⟨k6, u1, u2, S6, G5⟩ := Chose.f (by exact p4) hch; replace HC := Lib.hid (HC.out.trans G5); clear y0 y1 y2 y3 y4 t0 t1 t2 t3 t4 f0 f1 f2 f3 f4; obtain ⟨y0, y1, y2, y3, y4, t0, t1, t2, t3, t4, f0, f1, f2, f3, f4⟩ := KY.out _ HC.out
  go_wp2_with fail
  refine hK.out _ _ ⟨y0, y1, y2, y3, y4⟩ (fun hHeld => ?_)
  clear hK K
  try simp only [Act.put, List.setIfInBounds_toArray, List.set_cons_zero, List.set_cons_succ]
  refine wpAnyH_take (i := 4) (oi := { dst := some 19, op := Op.binOp BinOp.sub 2 (Operand.tmp 18) (Operand.const (Value.int IntKind.i64 1)) 2, type := 2, pos := "l15_blocks.go:241", after := #[{ on := 3, ground := Ground.data }, { on := 6, ground := Ground.gcOnly Departure.lateStores }], guard := none }) (v := ?_) rfl (by kernel_rfl) (by kernel_rfl) (by kernel_rfl) (fun _ _ _ h => h) (Or.inl ⟨by rfl, ?hy⟩) hHeld ?_
  case hy => (intro w' hSw; (try dsimp only at hSw); go_simp; try with_reducible rfl)
  simp only [Act.put, List.setIfInBounds_toArray, List.set_cons_zero, List.set_cons_succ]
  refine wpAnyH_ready (rs := [5]) (by kernel_rfl) (by simp) ?_
  refine AllReadyH.cons (o := { dst := none, op := Op.store 26 (Operand.tmp 2) (Operand.tmp 15), type := 0, pos := "l15_blocks.go:241", after := #[{ on := 0, ground := Ground.data }, { on := 3, ground := Ground.chain }, { on := 0, ground := Ground.phase }, { on := 1, ground := Ground.textOnly Departure.lateStores }, { on := 2, ground := Ground.textOnly Departure.lateStores }, { on := 3, ground := Ground.textOnly Departure.lateStoresUnsure }, { on := 4, ground := Ground.textOnly Departure.lateStores }], guard := none }) rfl (fun K hK => ?_) AllReadyH.nil
  go_simp
  refine hK.out _ _ ⟨by rw [World.cell?_of_block (w := w6) (by simp only [World.setCell, Array.getElem?_modify]; rw [if_neg hrQ, if_neg hrQ, if_neg hrQ, if_neg hrQ, if_neg hrQ])]; exact y0, by rw [World.cell?_of_block (w := w6) (by simp only [World.setCell, Array.getElem?_modify]; rw [if_neg hrQ, if_neg hrQ, if_neg hrQ, if_neg hrQ, if_neg hrQ])]; exact y1, by rw [World.cell?_of_block (w := w6) (by simp only [World.setCell, Array.getElem?_modify]; rw [if_neg hrQ, if_neg hrQ, if_neg hrQ, if_neg hrQ, if_neg hrQ])]; exact y2, by rw [World.cell?_of_block (w := w6) (by simp only [World.setCell, Array.getElem?_modify]; rw [if_neg hrQ, if_neg hrQ, if_neg hrQ, if_neg hrQ, if_neg hrQ])]; exact y3, by rw [World.cell?_of_block (w := w6) (by simp only [World.setCell, Array.getElem?_modify]; rw [if_neg hrQ, if_neg hrQ, if_neg hrQ, if_neg hrQ, if_neg hrQ])]; exact y4⟩ (fun hHeld => ?_)
  clear hK K
  try simp only [Act.put, List.setIfInBounds_toArray, List.set_cons_zero, List.set_cons_succ]
  refine wpAnyH_take (i := 6) (oi := { dst := some 3, op := Op.assign (Operand.tmp 16), type := 2, pos := "l15_blocks.go:241", after := #[{ on := 1, ground := Ground.data }, { on := 5, ground := Ground.chain }, { on := 0, ground := Ground.phase }, { on := 1, ground := Ground.phase }, { on := 2, ground := Ground.textOnly Departure.lateStores }, { on := 3, ground := Ground.textOnly Departure.lateStoresUnsure }, { on := 4, ground := Ground.textOnly Departure.lateStores }, { on := 5, ground := Ground.phase }], guard := none }) (v := ?_) rfl (by kernel_rfl) (by kernel_rfl) (by kernel_rfl) (fun _ _ _ h => h) (Or.inl ⟨by rfl, ?hy⟩) hHeld ?_
  case hy => (intro w' hSw; (try dsimp only at hSw); go_simp; try with_reducible rfl)
  simp only [Act.put, List.setIfInBounds_toArray, List.set_cons_zero, List.set_cons_succ]
  refine wpAnyH_take (i := 7) (oi := { dst := some 4, op := Op.assign (Operand.tmp 19), type := 2, pos := "l15_blocks.go:241", after := #[{ on := 4, ground := Ground.data }, { on := 6, ground := Ground.chain }, { on := 0, ground := Ground.phase }, { on := 1, ground := Ground.phase }, { on := 2, ground := Ground.phase }, { on := 3, ground := Ground.phase }, { on := 4, ground := Ground.phase }, { on := 5, ground := Ground.phase }, { on := 6, ground := Ground.phase }], guard := none }) (v := ?_) rfl (by kernel_rfl) (by kernel_rfl) (by kernel_rfl) (fun _ _ _ h => h) (Or.inl ⟨by rfl, ?hy⟩) hHeld ?_
  case hy => (intro w' hSw; (try dsimp only at hSw); go_simp; try with_reducible rfl)
  simp only [Act.put, List.setIfInBounds_toArray, List.set_cons_zero, List.set_cons_succ]
  refine wpAnyH_done (by kernel_rfl) ?_ _
  have hwv : IntKind.i64.wrap (v - 1) = v - 1 := IntWalk.i64_in _ (by omega)
  have hgr : ¬ w.heap.size = g := by omega
  have HO6 := Lib.hid (show OwnBlk (((((w6.setCell ⟨w.heap.size, 0, none⟩ (.int .i64 A)).setCell ⟨w.heap.size, 1, none⟩ (.int .i64 B)).setCell ⟨w.heap.size, 2, none⟩ (.int .i64 C)).setCell ⟨w.heap.size, 3, none⟩ (.int .i64 D)).setCell ⟨w.heap.size, 4, none⟩ (.slice (some ⟨g, 0, none⟩) L c)) w.heap.size g es from ((HY.out.1.sf HC.out (by omega)).mono (by omega)).keep (by simp only [World.setCell, Array.getElem?_modify]; rw [if_neg hgr, if_neg hgr, if_neg hgr, if_neg hgr, if_neg hgr]))
  have HB6 := Lib.hid (show Below w.heap.size w (((((w6.setCell ⟨w.heap.size, 0, none⟩ (.int .i64 A)).setCell ⟨w.heap.size, 1, none⟩ (.int .i64 B)).setCell ⟨w.heap.size, 2, none⟩ (.int .i64 C)).setCell ⟨w.heap.size, 3, none⟩ (.int .i64 D)).setCell ⟨w.heap.size, 4, none⟩ (.slice (some ⟨g, 0, none⟩) L c)) from ((((((B01.out.trans (((HY.out.2.2.2.2.trans HC.out).2.1).mono (by omega))).setCell (Nat.le_refl _) _).setCell (Nat.le_refl _) _).setCell (Nat.le_refl _) _).setCell (Nat.le_refl _) _).setCell (Nat.le_refl _) _))
  clear hHeld KY HY HC PK S6 G5 hch B01
  rw [hwv]
  go_wp2
  refine bodyPost_ret (v := .tuple #[.agg #[.int .i64 A, .int .i64 B, .int .i64 C, .int .i64 D, .slice (some ⟨g, 0, none⟩) L c], .int .i64 sk, .int .i64 (v - 1)]) (by simp [results, Try.results7, go_sem, t0, t1, t2, t3, t4]) rfl ?_
  have hl9 := HLE.out
  have h9 : -1 ≤ v - 1 ∧ v - 1 ≤ 8 := by omega
  have hL9 := HDR.out
  exact ⟨⟨A, B, C, D, es⟩, g, c, sk, v - 1, by dsimp only; rw [hl9], hL9, ⟨hskb.1, hskb.2, h9.1, h9.2⟩, HO6.out, HB6.out⟩
end Go.Proofs.Ytllcbiafghhcmaa
