/- spec: a disk with chains is formatted -/
import Derived.Test.YthcbekfgkbhpeaaDoorPkFormatChainsFcVal
import Derived.Test.YthcbekfgkbhpeaaDoorPkFormatChainsApplyVal
import Derived.Lib.LazyBuf
namespace Go.Proofs.YthcbekfgkbhpeaaDoor
open Go.RowKit
set_option maxRecDepth 20000
set_option linter.unusedVariables false
set_option linter.unusedSimpArgs false
set_option maxRecDepth 20000
theorem infoU8 : ∃ i, Tryd.prog.info? 5 = some i ∧ i.zero = some (.int .u8 0) ∧ i.size = 1 ∧ i.bytes = 1 := by
  obtain ⟨i, h1, h2⟩ := Option.map_eq_some_iff.1 u8info
  exact ⟨i, h1, by simpa using congrArg (·.1) h2, by simpa using congrArg (·.2.1) h2, by simpa using congrArg (·.2.2) h2⟩
theorem rowZ (n : Nat) (h : n ≤ 100000) : RowB (madeCells #[Value.int .u8 0] n) (List.replicate n (0 : UInt8)) n := by
  refine ⟨by simp [size_madeCells], by simp, ?_⟩
  intro j hj
  simp at hj
  simp [madeCells, hj, Nat.mod_one]
theorem sizeU8c (w : World) : (Go.sizeOf 5).run Tryd.prog w = .ok 1 w := by
  obtain ⟨i0, hi, hz0, hz1, hz2⟩ := info_parts u8info
  simp [Go.sizeOf, typeInfo, hi, hz1]
theorem belowSetc {B b : Nat} {a : World} (hb : B ≤ b) : ∀ (vs : List Value) (o : Nat) (w : World), Below B a w → Below B a (w.setCells b o vs)
  | [], _, _, h => h
  | v :: r, o, w, h => belowSetc hb r (o + 1) _ (h.setCell (by exact hb) v)
theorem heap_setCells_ne (g q : Nat) (h : q ≠ g) : ∀ (l : List Value) (i : Nat) (w : World), (w.setCells g i l).heap[q]? = w.heap[q]?
  | [], i, w => rfl
  | v :: l, i, w => by
    show ((w.setCell ⟨g, i, none⟩ v).setCells g (i + 1) l).heap[q]? = _
    rw [heap_setCells_ne g q h l]
    exact heap_setCell_ne _ _ _ _ _ h
theorem cellSetc {b b' i : Nat} (hne : b' ≠ b) (vs : List Value) (o : Nat) (w : World) : (w.setCells b o vs).cell? ⟨b', i, none⟩ = w.cell? ⟨b', i, none⟩ := World.cell?_of_block (heap_setCells_ne b b' hne vs o w)
theorem dat_new (w : World) (g N n z : Nat) (C : Array Value) (hg : w.heap[g]? = some (.cells C 5 (0, 0))) (hr : RowB C (List.replicate N 0) N) :
    DAt (w.alloc (.cells #[.int .i64 (n : Int), .int .i64 (z : Int), .int .i64 ((n / 8 : Nat) : Int), .int .i64 (chDir n z : Int), .int .i64 (chData n z : Int), .slice (some ⟨g, 0, none⟩) N N] 51)) w.heap.size g N (chLay n z) (List.replicate N 0) := by
  refine ⟨?_, C, by rw [Below.heap_alloc _ _ _ (Array.getElem?_eq_some_iff.1 hg).1]; exact hg, hr⟩
  rw [List.length_replicate]
  exact BoxF.new w _ _ _ rfl
theorem dat_copy {w : World} {p g N n z : Nat} (h : DAt w p g N (chLay n z) (List.replicate N 0)) (hpg : p ≠ g) (h6 : 6 ≤ N) (hN : n * z = N) :
    DAt (w.setCells g 0 ((chTop n).data.toList.map fun x => Value.int .u8 (x.toNat : Int))) p g N (chLay n z) (fcFl n z) := by
  obtain ⟨hb, C, hg, hr⟩ := h
  have e6 : (chTop n).data.toList.length = 6 := by rw [bytes_len]; exact chTop_size n
  obtain ⟨C', h1, h2⟩ := RowB.setCells (chTop n).data.toList 0 C _ w hr hg (by rw [List.length_replicate, e6]; omega)
  refine ⟨?_, C', h1, ?_⟩
  · rw [fcFl_len (by omega), hN]
    rw [List.length_replicate] at hb
    exact hb.kept (heap_setCells_ne _ _ hpg _ _ _)
  · rw [e6, List.take_zero, List.nil_append, List.drop_replicate] at h2
    unfold fcFl
    rw [hN]
    simpa using h2
theorem wp_copyS {P : Program} {o : Oper} {a : Act} {w : World} {K : Act → World → Prop} {Q : Exit → Act → World → Prop}
    (d x : Operand) (dT sT : TypeId) (hop : o.op = Op.call { callee := Callee.builtin Builtin.copy, args := #[d, x], argTypes := #[dT, sT] })
    (elem : TypeId) (hu : P.underlying dT = some (.slice elem)) (hz : ∀ w, (Go.sizeOf elem).run P w = .ok 1 w)
    (b off dLen dCap : Nat) (hd : a.eval d = .slice (some ⟨b, off, none⟩) dLen dCap) (t : ByteArray) (hx : a.eval x = .string t) (hle : t.size ≤ dLen)
    (hc : ∀ j, j < t.size → (w.cell? ⟨b, off + j, none⟩).isSome = true) (hf : ∀ j, j < t.size → w.frozen? ⟨b, off + j, none⟩ = false)
    (hK : K (a.put o.dst (goInt t.size)) (w.setCells b off (t.data.toList.map fun x => Value.int .u8 (x.toNat : Int)))) : o.wp P a w K Q := by
  have hrun := run_copy_string (P := P) w dT sT o.type elem b off dLen dCap t hu hz hle hc hf
  unfold Oper.wp
  simp [execOp, hop, resolve, invoke, builtin, hd, hx, hrun, Result.andThen]
  exact hK
def FmYes (B n z : Nat) (w : World) (e : Ending) (w' : World) : Prop := ∃ p g cap, e = .returned (.pointer (some ⟨p, 0, none⟩)) ∧ DAt w' p g cap (chLay n z) (setsL (fcFl n z) z 253 (chData n z)) ∧ Below B w w'
set_option maxHeartbeats 8000000 in
theorem l16Format_any (n z B : Nat) (w : World) (hB : B ≤ w.heap.size) (hz : z = 8 ∨ z = 16 ∨ z = 32) (hn : 8 ≤ n) (hn2 : n ≤ 128) :
    Calls Tryd.prog 35 #[.int .i64 (n : Int), .int .i64 (z : Int)] w (FmYes B n z w) := by
  have hnz : n * z ≤ 4096 := Nat.le_trans (Nat.mul_le_mul hn2 (show z ≤ 32 by omega)) (by omega)
  have hfit := chData_fit hn hz
  have SZ := Lib.hid (fun w => l16Sizes_any n z w (by omega) (by omega) hn2)
  have HE := Lib.hid (fun d d2 w => l16Head_any n z d d2 w hn2)
  have SL := Lib.hid (fun p g cap k bs w (h : DAt w p g cap (chLay n z) bs) (hpg : p ≠ g) (hk : z + k < bs.length) (hb : bs.length ≤ 100000) => dSetLink_any p g cap k 253 n z bs w h hpg hk hb (by omega))
  have m1 : (n : Int) * (z : Int) = ((n * z : Nat) : Int) := by rw [Int.natCast_mul]
  have m2 : IntKind.i64.wrap ((n * z : Nat) : Int) = ((n * z : Nat) : Int) := (wrap_nat (show n * z ≤ 1000000 by omega)).1
  obtain ⟨N, hN⟩ : ∃ N, n * z = N := ⟨_, rfl⟩
  rw [hN] at m1 m2 hnz hfit
  obtain ⟨i0, hi, hz0, hz1, hz2⟩ := infoU8
  have hmk : ∀ w : World, (Instr.makeSlice 49 (.int .i64 (N : Int)) (.int .i64 (N : Int))).run Tryd.prog w = .ok (.slice (some ⟨w.heap.size, 0, none⟩) N N) (w.alloc (.cells (madeCells #[Value.int .u8 0] N) 5)) := fun w => by
    have h := run_make (P := Tryd.prog) w 49 5 i0 (.int .u8 0) Tryd.underlying49 hi hz0 .i64 .i64 N N (by omega) (by omega) (by rw [hz2]; omega) (by omega)
    rw [hz1] at h
    simp only [Int.toNat_natCast, Nat.mul_one] at h
    exact h
  clear hi hz0 hz1 hz2
  have RZ := rowZ N (by omega)
  have DN := Lib.hid (fun w g C (hg : w.heap[g]? = some (.cells C 5 (0, 0))) (hr : RowB C (List.replicate N 0) N) => dat_new w g N n z C hg hr)
  have DC := Lib.hid (fun (w : World) (p g : Nat) (h : DAt w p g N (chLay n z) (List.replicate N 0)) (hpg : p ≠ g) => dat_copy h hpg hfit.2 hN)
  have FL := Lib.hid (show (fcFl n z).length = N from by rw [fcFl_len (by omega), hN])
  have hts := chTop_size n
  have D4 := Lib.hid (fun (w : World) (p g : Nat) (bs : List UInt8) (h : DAt w p g N (chLay n z) bs) => h.d04)
  have HLY := Lib.hid (fun (w : World) (p g : Nat) (h : DAt w p g N (chLay n z) (List.replicate N 0)) => show w.cell? ⟨p, 0, none⟩ = some (.int .i64 (n : Int)) ∧ w.cell? ⟨p, 1, none⟩ = some (.int .i64 (z : Int)) ∧ w.cell? ⟨p, 2, none⟩ = some (.int .i64 ((n / 8 : Nat) : Int)) ∧ w.cell? ⟨p, 3, none⟩ = some (.int .i64 (chDir n z : Int)) ∧ w.cell? ⟨p, 4, none⟩ = some (.int .i64 (chData n z : Int)) ∧ w.cell? ⟨p, 5, none⟩ = some (.slice (some ⟨g, 0, none⟩) N N) from ⟨(h.1 0 _ rfl).1, (h.1 1 _ rfl).1, (h.1 2 _ rfl).1, (h.1 3 _ rfl).1, (h.1 4 _ rfl).1, by have := (h.1 5 _ rfl).1; rwa [List.length_replicate] at this⟩)
  have HY := Lib.hid (fun (p g : Nat) (w' : World) (h : DAt w' p g N (chLay n z) (setsL (fcFl n z) z 253 (chData n z))) (hb : Below B w w') => show FmYes B n z w (.returned (.pointer (some ⟨p, 0, none⟩))) w' from ⟨p, g, N, rfl, h, hb⟩)
  generalize chLay n z = LY at *
  generalize n / 8 = q8 at *
  generalize chDir n z = d1 at *
  generalize chData n z = d2 at *
  go_enter Tryd.func35, Tryd.ntmps35
  go_upto_region 1 with (fail)
  refine wp_region_held_drew (S := (fun _ => True)) (by kernel_rfl) trivial (fun hHeld => ?_)
  refine wpAnyH_take (i := 0) (oi := { dst := some 7, op := Op.move (Operand.tmp 0), type := 2, pos := "l16_chains.go:190", after := #[], guard := none }) (v := ?_) rfl (by kernel_rfl) (by kernel_rfl) (by kernel_rfl) (fun _ _ _ h => h) (Or.inl ⟨by rfl, ?hy⟩) hHeld ?_
  case hy => (intro w' hSw; (try dsimp only at hSw); go_simp; try with_reducible rfl)
  simp only [Act.put, List.setIfInBounds_toArray, List.set_cons_zero, List.set_cons_succ]
  refine wpAnyH_take (i := 1) (oi := { dst := some 8, op := Op.move (Operand.tmp 1), type := 2, pos := "l16_chains.go:190", after := #[], guard := none }) (v := ?_) rfl (by kernel_rfl) (by kernel_rfl) (by kernel_rfl) (fun _ _ _ h => h) (Or.inl ⟨by rfl, ?hy⟩) hHeld ?_
  case hy => (intro w' hSw; (try dsimp only at hSw); go_simp; try with_reducible rfl)
  simp only [Act.put, List.setIfInBounds_toArray, List.set_cons_zero, List.set_cons_succ]
  refine wpAnyH_take (i := 3) (oi := { dst := some 10, op := Op.move (Operand.tmp 0), type := 2, pos := "l16_chains.go:190", after := #[], guard := none }) (v := ?_) rfl (by kernel_rfl) (by kernel_rfl) (by kernel_rfl) (fun _ _ _ h => h) (Or.inl ⟨by rfl, ?hy⟩) hHeld ?_
  case hy => (intro w' hSw; (try dsimp only at hSw); go_simp; try with_reducible rfl)
  simp only [Act.put, List.setIfInBounds_toArray, List.set_cons_zero, List.set_cons_succ]
  refine wpAnyH_take (i := 4) (oi := { dst := some 11, op := Op.move (Operand.tmp 1), type := 2, pos := "l16_chains.go:190", after := #[], guard := none }) (v := ?_) rfl (by kernel_rfl) (by kernel_rfl) (by kernel_rfl) (fun _ _ _ h => h) (Or.inl ⟨by rfl, ?hy⟩) hHeld ?_
  case hy => (intro w' hSw; (try dsimp only at hSw); go_simp; try with_reducible rfl)
  simp only [Act.put, List.setIfInBounds_toArray, List.set_cons_zero, List.set_cons_succ]
  refine wpAnyH_take (i := 5) (oi := { dst := some 12, op := Op.binOp BinOp.mul 2 (Operand.tmp 10) (Operand.tmp 11) 2, type := 2, pos := "l16_chains.go:190", after := #[{ on := 3, ground := Ground.data }, { on := 4, ground := Ground.data }], guard := none }) (v := ?_) rfl (by kernel_rfl) (by kernel_rfl) (by kernel_rfl) (fun _ _ _ h => h) (Or.inl ⟨by rfl, ?hy⟩) hHeld ?_
  case hy => (intro w' hSw; (try dsimp only at hSw); go_simp; try with_reducible rfl)
  simp only [Act.put, List.setIfInBounds_toArray, List.set_cons_zero, List.set_cons_succ]
  refine wpAnyH_ready (rs := [2, 6]) (by kernel_rfl) (by simp) ?_
  refine AllReadyH.cons (o := { dst := some 9, op := Op.call { callee := Callee.value (Operand.func 59), args := #[Operand.tmp 7, Operand.tmp 8], argTypes := #[2, 2] }, type := 25, pos := "l16_chains.go:190", after := #[{ on := 0, ground := Ground.data }, { on := 1, ground := Ground.data }], guard := none }) rfl (fun K hK => ?_) (AllReadyH.cons (o := { dst := some 13, op := Op.makeSlice 49 (Operand.tmp 12) (Operand.tmp 12), type := 49, pos := "l16_chains.go:190", after := #[{ on := 5, ground := Ground.data }, { on := 5, ground := Ground.data }], guard := none }) rfl (fun K hK => ?_) AllReadyH.nil)
  · go_simp
    go_at_call 59; refine (SZ.out _).mono ?_; rintro e wk0 ⟨rfl, hb0⟩; have CB := Lib.hid hb0; clear hb0
    go_wp2_with fail
    refine hK.out _ _ trivial (fun hHeld => ?_)
    clear hK K
    try simp only [Act.put, List.setIfInBounds_toArray, List.set_cons_zero, List.set_cons_succ]
    refine wpAnyH_ready (rs := [6]) (by kernel_rfl) (by simp) ?_
    refine AllReadyH.cons (o := { dst := some 13, op := Op.makeSlice 49 (Operand.tmp 12) (Operand.tmp 12), type := 49, pos := "l16_chains.go:190", after := #[{ on := 5, ground := Ground.data }, { on := 5, ground := Ground.data }], guard := none }) rfl (fun K hK => ?_) AllReadyH.nil
    go_simp
    refine hK.out _ _ trivial (fun hHeld => ?_)
    clear hK K
    try simp only [Act.put, List.setIfInBounds_toArray, List.set_cons_zero, List.set_cons_succ]
    refine wpAnyH_take (i := 7) (oi := { dst := some 14, op := Op.build 51 #[(0, Operand.tmp 9), (1, Operand.tmp 13)], type := 51, pos := "l16_chains.go:190", after := #[{ on := 2, ground := Ground.data }, { on := 6, ground := Ground.data }], guard := none }) (v := ?_) rfl (by kernel_rfl) (by kernel_rfl) (by kernel_rfl) (fun _ _ _ h => h) (Or.inl ⟨by rfl, ?hy⟩) hHeld ?_
    case hy => (intro w' hSw; (try dsimp only at hSw); go_simp; try with_reducible rfl)
    simp only [Act.put, List.setIfInBounds_toArray, List.set_cons_zero, List.set_cons_succ]
    refine wpAnyH_ready (rs := [8]) (by kernel_rfl) (by simp) ?_
    refine AllReadyH.cons (o := { dst := some 15, op := Op.box 51 (Operand.tmp 14), type := 46, pos := "l16_chains.go:190", after := #[{ on := 7, ground := Ground.data }], guard := none }) rfl (fun K hK => ?_) AllReadyH.nil
    go_simp
    refine hK.out _ _ trivial (fun hHeld => ?_)
    clear hK K
    try simp only [Act.put, List.setIfInBounds_toArray, List.set_cons_zero, List.set_cons_succ]
    refine wpAnyH_take (i := 9) (oi := { dst := some 5, op := Op.assign (Operand.tmp 15), type := 46, pos := "l16_chains.go:190", after := #[{ on := 8, ground := Ground.data }, { on := 2, ground := Ground.chain }, { on := 0, ground := Ground.phase }, { on := 1, ground := Ground.phase }, { on := 2, ground := Ground.phase }, { on := 3, ground := Ground.phase }, { on := 4, ground := Ground.phase }, { on := 5, ground := Ground.phase }, { on := 6, ground := Ground.phase }, { on := 7, ground := Ground.phase }, { on := 8, ground := Ground.phase }], guard := none }) (v := ?_) rfl (by kernel_rfl) (by kernel_rfl) (by kernel_rfl) (fun _ _ _ h => h) (Or.inl ⟨by rfl, ?hy⟩) hHeld ?_
    case hy => (intro w' hSw; (try dsimp only at hSw); go_simp; try with_reducible rfl)
    simp only [Act.put, List.setIfInBounds_toArray, List.set_cons_zero, List.set_cons_succ]
    refine wpAnyH_done (by kernel_rfl) ?_ _
    first
      | have DA : DAt ((wk0.alloc (.cells (madeCells #[Value.int .u8 0] N) 5)).alloc (.cells #[.int .i64 (n : Int), .int .i64 (z : Int), .int .i64 (q8 : Int), .int .i64 (d1 : Int), .int .i64 (d2 : Int), .slice (some ⟨wk0.heap.size, 0, none⟩) N N] 51)) (wk0.heap.size + 1) wk0.heap.size N LY (List.replicate N 0) := by
          have h := DN.out (wk0.alloc (.cells (madeCells #[Value.int .u8 0] N) 5)) wk0.heap.size _ (heap_alloc_new _ _) RZ
          rw [World.size_alloc] at h
          exact h
        have hpg : wk0.heap.size + 1 ≠ wk0.heap.size := by omega
        have hgB : B ≤ wk0.heap.size := Nat.le_trans hB CB.out.size
        have FB := Lib.hid (show Below B w ((wk0.alloc (.cells (madeCells #[Value.int .u8 0] N) 5)).alloc (.cells #[.int .i64 (n : Int), .int .i64 (z : Int), .int .i64 (q8 : Int), .int .i64 (d1 : Int), .int .i64 (d2 : Int), .slice (some ⟨wk0.heap.size, 0, none⟩) N N] 51)) from ((((Below.refl B w).drew.trans (CB.out.mono hB)).alloc hgB _).alloc (by rw [World.size_alloc]; omega) _))
        clear CB
        generalize (wk0.alloc (.cells (madeCells #[Value.int .u8 0] N) 5)).alloc (.cells #[.int .i64 (n : Int), .int .i64 (z : Int), .int .i64 (q8 : Int), .int .i64 (d1 : Int), .int .i64 (d2 : Int), .slice (some ⟨wk0.heap.size, 0, none⟩) N N] 51) = W at *
        generalize wk0.heap.size + 1 = p at *
        generalize wk0.heap.size = g at *
      | have DA : DAt (wk0.alloc (.cells #[.int .i64 (n : Int), .int .i64 (z : Int), .int .i64 (q8 : Int), .int .i64 (d1 : Int), .int .i64 (d2 : Int), .slice (some ⟨w.heap.size, 0, none⟩) N N] 51)) wk0.heap.size w.heap.size N LY (List.replicate N 0) := DN.out wk0 w.heap.size _ (by rw [CB.out.block _ (by simp)]; exact heap_alloc_new _ _) RZ
        have hsz := CB.out.size
        simp only [World.size_alloc, World.size_drew] at hsz
        have hpg : wk0.heap.size ≠ w.heap.size := by omega
        have hgB : B ≤ w.heap.size := hB
        have FB := Lib.hid (show Below B w (wk0.alloc (.cells #[.int .i64 (n : Int), .int .i64 (z : Int), .int .i64 (q8 : Int), .int .i64 (d1 : Int), .int .i64 (d2 : Int), .slice (some ⟨w.heap.size, 0, none⟩) N N] 51)) from (((Below.refl B w).drew.alloc hB _).trans (CB.out.mono (by simp; omega))).alloc (by omega) _)
        clear CB hsz
        generalize wk0.alloc (.cells #[.int .i64 (n : Int), .int .i64 (z : Int), .int .i64 (q8 : Int), .int .i64 (d1 : Int), .int .i64 (d2 : Int), .slice (some ⟨w.heap.size, 0, none⟩) N N] 51) = W at *
        generalize wk0.heap.size = p at *
        obtain ⟨g, hge⟩ : ∃ g, w.heap.size = g := ⟨_, rfl⟩
        rw [hge] at DA hpg hgB
        try simp only [hge]
    have hWB := Nat.le_trans hB FB.out.size
    have hltp := DA.lt
    have KS := Lib.hid (fun w' (hb : Below W.heap.size W w') => HLY.out w' p g (DA.below hb hltp.1 hltp.2))
    have HC := Lib.hid (show Below W.heap.size W W.drew from (Below.refl _ _).drew)
    have HD := Lib.hid (fun w' (hb : Below W.heap.size W w') => DC.out w' p g (DA.below hb hltp.1 hltp.2) hpg)
    have HF9 := Lib.hid (fun w' (hb : Below W.heap.size W w') (j : Nat) (hj : j < N) => show (w'.cell? ⟨g, 0 + j, none⟩).isSome = true ∧ w'.frozen? ⟨g, 0 + j, none⟩ = false from by
      obtain ⟨_, C, hg, hr⟩ := DA.below hb hltp.1 hltp.2
      rw [Nat.zero_add]
      exact ⟨by rw [hr.cell hg j (by simpa using hj)]; rfl, by simp [World.frozen?, hg]⟩)
    have FBW := Lib.hid (fun w' (hb : Below W.heap.size W w') => FB.out.trans (hb.mono hWB))
    clear DA hltp FB
    go_upto_region 2 with (fail)
    refine wp_region_held_drew (S := (fun w' => w'.cell? ⟨p, 0, none⟩ = some (.int .i64 (n : Int)) ∧ w'.cell? ⟨p, 1, none⟩ = some (.int .i64 (z : Int)) ∧ w'.cell? ⟨p, 2, none⟩ = some (.int .i64 (q8 : Int)) ∧ w'.cell? ⟨p, 3, none⟩ = some (.int .i64 (d1 : Int)) ∧ w'.cell? ⟨p, 4, none⟩ = some (.int .i64 (d2 : Int)) ∧ w'.cell? ⟨p, 5, none⟩ = some (.slice (some ⟨g, 0, none⟩) N N))) (by kernel_rfl) (KS.out _ HC.out) (fun hHeld => ?_)
    refine wpAnyH_take (i := 0) (oi := { dst := some 16, op := Op.move (Operand.tmp 5), type := 46, pos := "l16_chains.go:191", after := #[], guard := none }) (v := ?_) rfl (by kernel_rfl) (by kernel_rfl) (by kernel_rfl) (fun _ _ _ h => h) (Or.inl ⟨by rfl, ?hy⟩) hHeld ?_
    case hy => (intro w' hSw; (try dsimp only at hSw); go_simp; try with_reducible rfl)
    simp only [Act.put, List.setIfInBounds_toArray, List.set_cons_zero, List.set_cons_succ]
    refine wpAnyH_take (i := 1) (oi := { dst := some 17, op := Op.nilCheck (Operand.tmp 16), type := 0, pos := "l16_chains.go:191", after := #[{ on := 0, ground := Ground.data }], guard := none }) (v := ?_) rfl (by kernel_rfl) (by kernel_rfl) (by kernel_rfl) (fun _ _ _ h => h) (Or.inl ⟨by rfl, ?hy⟩) hHeld ?_
    case hy => (intro w' hSw; (try dsimp only at hSw); go_simp; try with_reducible rfl)
    simp only [Act.put, List.setIfInBounds_toArray, List.set_cons_zero, List.set_cons_succ]
    refine wpAnyH_take (i := 2) (oi := { dst := some 18, op := Op.fieldAddr 51 (Operand.tmp 17) 1, type := 0, pos := "l16_chains.go:191", after := #[{ on := 1, ground := Ground.data }], guard := none }) (v := ?_) rfl (by kernel_rfl) (by kernel_rfl) (by kernel_rfl) (fun _ _ _ h => h) (Or.inl ⟨by rfl, ?hy⟩) hHeld ?_
    case hy => (intro w' hSw; (try dsimp only at hSw); go_simp; try with_reducible rfl)
    simp only [Act.put, List.setIfInBounds_toArray, List.set_cons_zero, List.set_cons_succ]
    refine wpAnyH_take (i := 3) (oi := { dst := some 19, op := Op.load 49 (Operand.tmp 18), type := 49, pos := "l16_chains.go:191", after := #[{ on := 2, ground := Ground.data }], guard := none }) (v := ?_) rfl (by kernel_rfl) (by kernel_rfl) (by kernel_rfl) (fun _ _ _ h => h) (Or.inl ⟨by rfl, ?hy⟩) hHeld ?_
    case hy => (intro w' hSw; (try dsimp only at hSw); go_simp; try with_reducible rfl)
    simp only [Act.put, List.setIfInBounds_toArray, List.set_cons_zero, List.set_cons_succ]
    refine wpAnyH_take (i := 4) (oi := { dst := some 20, op := Op.move (Operand.tmp 5), type := 46, pos := "l16_chains.go:191", after := #[], guard := none }) (v := ?_) rfl (by kernel_rfl) (by kernel_rfl) (by kernel_rfl) (fun _ _ _ h => h) (Or.inl ⟨by rfl, ?hy⟩) hHeld ?_
    case hy => (intro w' hSw; (try dsimp only at hSw); go_simp; try with_reducible rfl)
    simp only [Act.put, List.setIfInBounds_toArray, List.set_cons_zero, List.set_cons_succ]
    refine wpAnyH_take (i := 5) (oi := { dst := some 21, op := Op.nilCheck (Operand.tmp 20), type := 0, pos := "l16_chains.go:191", after := #[{ on := 4, ground := Ground.data }], guard := none }) (v := ?_) rfl (by kernel_rfl) (by kernel_rfl) (by kernel_rfl) (fun _ _ _ h => h) (Or.inl ⟨by rfl, ?hy⟩) hHeld ?_
    case hy => (intro w' hSw; (try dsimp only at hSw); go_simp; try with_reducible rfl)
    simp only [Act.put, List.setIfInBounds_toArray, List.set_cons_zero, List.set_cons_succ]
    refine wpAnyH_take (i := 6) (oi := { dst := some 22, op := Op.fieldAddr 51 (Operand.tmp 21) 0, type := 0, pos := "l16_chains.go:191", after := #[{ on := 5, ground := Ground.data }], guard := none }) (v := ?_) rfl (by kernel_rfl) (by kernel_rfl) (by kernel_rfl) (fun _ _ _ h => h) (Or.inl ⟨by rfl, ?hy⟩) hHeld ?_
    case hy => (intro w' hSw; (try dsimp only at hSw); go_simp; try with_reducible rfl)
    simp only [Act.put, List.setIfInBounds_toArray, List.set_cons_zero, List.set_cons_succ]
    refine wpAnyH_take (i := 7) (oi := { dst := some 23, op := Op.load 25 (Operand.tmp 22), type := 25, pos := "l16_chains.go:191", after := #[{ on := 6, ground := Ground.data }], guard := none }) (v := ?_) rfl (by kernel_rfl) (by kernel_rfl) (by kernel_rfl) (fun _ _ _ h => h) (Or.inl ⟨by rfl, ?hy⟩) hHeld ?_
    case hy => (intro w' hSw; (try dsimp only at hSw); go_simp; try with_reducible rfl)
    simp only [Act.put, List.setIfInBounds_toArray, List.set_cons_zero, List.set_cons_succ]
    refine wpAnyH_ready (rs := [8]) (by kernel_rfl) (by simp) ?_
    refine AllReadyH.cons (o := { dst := some 24, op := Op.call { callee := Callee.value (Operand.func 60), args := #[Operand.tmp 23], argTypes := #[25] }, type := 9, pos := "l16_chains.go:191", after := #[{ on := 7, ground := Ground.data }], guard := none }) rfl (fun K hK => ?_) AllReadyH.nil
    go_simp
    go_at_call 60; refine (HE.out _ _ _).mono ?_; rintro e wk1 ⟨rfl, hb1⟩; replace HC := Lib.hid (HC.out.trans (hb1.mono HC.out.size))
    go_wp2_with fail
    refine hK.out _ _ (KS.out _ HC.out) (fun hHeld => ?_)
    clear hK K
    try simp only [Act.put, List.setIfInBounds_toArray, List.set_cons_zero, List.set_cons_succ]
    refine wpAnyH_ready (rs := [9]) (by kernel_rfl) (by simp) ?_
    refine AllReadyH.cons (o := { dst := some 25, op := Op.call { callee := Callee.builtin Builtin.copy, args := #[Operand.tmp 19, Operand.tmp 24], argTypes := #[49, 9] }, type := 3, pos := "l16_chains.go:191", after := #[{ on := 3, ground := Ground.data }, { on := 8, ground := Ground.data }, { on := 8, ground := Ground.chain }], guard := none }) rfl (fun K hK => ?_) AllReadyH.nil
    refine wp_copyS _ _ _ _ rfl 5 Tryd.underlying49 sizeU8c g 0 N N rfl (chTop n) rfl (by omega) (fun j hj => (HF9.out _ HC.out j (by omega)).1) (fun j hj => (HF9.out _ HC.out j (by omega)).2) ?_
    go_simp
    skip
    go_wp2_with fail
    refine hK.out _ _ (by obtain ⟨a0, a1, a2, a3, a4, a5⟩ := KS.out _ HC.out; exact ⟨by rw [cellSetc hpg]; exact a0, by rw [cellSetc hpg]; exact a1, by rw [cellSetc hpg]; exact a2, by rw [cellSetc hpg]; exact a3, by rw [cellSetc hpg]; exact a4, by rw [cellSetc hpg]; exact a5⟩) (fun hHeld => ?_)
    clear hK K
    try simp only [Act.put, List.setIfInBounds_toArray, List.set_cons_zero, List.set_cons_succ]
    refine wpAnyH_done (by kernel_rfl) ?_ _
    have DA2 := HD.out _ HC.out
    have FB2 := belowSetc (b := g) hgB ((chTop n).data.toList.map fun x => Value.int .u8 (x.toNat : Int)) 0 _ (FBW.out _ HC.out)
    generalize wk1.setCells g 0 ((chTop n).data.toList.map fun x => Value.int .u8 (x.toNat : Int)) = W2 at *
    clear KS HC HD HF9 FBW m1 m2 hmk
    go_wp2_with fail
    go_loopw [6] (fun i wr => ∃ k : Nat, k ≤ d2 ∧ i = .int .i64 k ∧ DAt wr p g N LY (setsL (fcFl n z) z 253 k) ∧ Below B w wr) (fun i _ => d2 - (intOf i).toNat)
    case atStart => exact ⟨0, Nat.zero_le _, rfl, DA2, FB2⟩
    case round =>
      obtain ⟨k, hk, rfl, hd, hb⟩ := hrel
      have x4 := (D4.out _ _ _ _ hd).2
      have HDA := Lib.hid hd; have HB2 := Lib.hid hb
      clear hd hb DA2 FB2
      by_cases hlt : k < d2
      · have e1 : (k : Int) < (d2 : Int) := by omega
        have hL9 := setsL_len (fcFl n z) z 253 k
        rw [FL.out] at hL9
        have CA := Lib.hid (SL.out p g N k _ _ HDA.out hpg (by rw [hL9]; omega) (by rw [hL9]; omega))
        go_wp2_with fail
        refine CA.out.mono ?_
        rintro e w5 ⟨rfl, hd5, ho5⟩
        have HD5 := Lib.hid (show DAt w5 p g N LY (setsL (fcFl n z) z 253 (k + 1)) from hd5)
        have HB5 := Lib.hid (HB2.out.trans (ho5.2.2.mono hgB))
        clear hd5 ho5 x4
        go_wp2
        go_roundw
        case rel => exact ⟨k + 1, by omega, by go_num, HD5.out, HB5.out⟩
        case measure => simp [intOf]; omega
      · obtain rfl : k = d2 := by omega
        have e1 : ¬ (k : Int) < (k : Int) := by omega
        go_wp2
        go_ret
        exact HY.out p g _ HDA.out HB2.out
  · go_simp
    refine hK.out _ _ trivial (fun hHeld => ?_)
    clear hK K
    try simp only [Act.put, List.setIfInBounds_toArray, List.set_cons_zero, List.set_cons_succ]
    refine wpAnyH_ready (rs := [2]) (by kernel_rfl) (by simp) ?_
    refine AllReadyH.cons (o := { dst := some 9, op := Op.call { callee := Callee.value (Operand.func 59), args := #[Operand.tmp 7, Operand.tmp 8], argTypes := #[2, 2] }, type := 25, pos := "l16_chains.go:190", after := #[{ on := 0, ground := Ground.data }, { on := 1, ground := Ground.data }], guard := none }) rfl (fun K hK => ?_) AllReadyH.nil
    go_simp
    go_at_call 59; refine (SZ.out _).mono ?_; rintro e wk0 ⟨rfl, hb0⟩; have CB := Lib.hid hb0; clear hb0
    go_wp2_with fail
    refine hK.out _ _ trivial (fun hHeld => ?_)
    clear hK K
    try simp only [Act.put, List.setIfInBounds_toArray, List.set_cons_zero, List.set_cons_succ]
    refine wpAnyH_take (i := 7) (oi := { dst := some 14, op := Op.build 51 #[(0, Operand.tmp 9), (1, Operand.tmp 13)], type := 51, pos := "l16_chains.go:190", after := #[{ on := 2, ground := Ground.data }, { on := 6, ground := Ground.data }], guard := none }) (v := ?_) rfl (by kernel_rfl) (by kernel_rfl) (by kernel_rfl) (fun _ _ _ h => h) (Or.inl ⟨by rfl, ?hy⟩) hHeld ?_
    case hy => (intro w' hSw; (try dsimp only at hSw); go_simp; try with_reducible rfl)
    simp only [Act.put, List.setIfInBounds_toArray, List.set_cons_zero, List.set_cons_succ]
    refine wpAnyH_ready (rs := [8]) (by kernel_rfl) (by simp) ?_
    refine AllReadyH.cons (o := { dst := some 15, op := Op.box 51 (Operand.tmp 14), type := 46, pos := "l16_chains.go:190", after := #[{ on := 7, ground := Ground.data }], guard := none }) rfl (fun K hK => ?_) AllReadyH.nil
    go_simp
    refine hK.out _ _ trivial (fun hHeld => ?_)
    clear hK K
    try simp only [Act.put, List.setIfInBounds_toArray, List.set_cons_zero, List.set_cons_succ]
    refine wpAnyH_take (i := 9) (oi := { dst := some 5, op := Op.assign (Operand.tmp 15), type := 46, pos := "l16_chains.go:190", after := #[{ on := 8, ground := Ground.data }, { on := 2, ground := Ground.chain }, { on := 0, ground := Ground.phase }, { on := 1, ground := Ground.phase }, { on := 2, ground := Ground.phase }, { on := 3, ground := Ground.phase }, { on := 4, ground := Ground.phase }, { on := 5, ground := Ground.phase }, { on := 6, ground := Ground.phase }, { on := 7, ground := Ground.phase }, { on := 8, ground := Ground.phase }], guard := none }) (v := ?_) rfl (by kernel_rfl) (by kernel_rfl) (by kernel_rfl) (fun _ _ _ h => h) (Or.inl ⟨by rfl, ?hy⟩) hHeld ?_
    case hy => (intro w' hSw; (try dsimp only at hSw); go_simp; try with_reducible rfl)
    simp only [Act.put, List.setIfInBounds_toArray, List.set_cons_zero, List.set_cons_succ]
    refine wpAnyH_done (by kernel_rfl) ?_ _
    first
      | have DA : DAt ((wk0.alloc (.cells (madeCells #[Value.int .u8 0] N) 5)).alloc (.cells #[.int .i64 (n : Int), .int .i64 (z : Int), .int .i64 (q8 : Int), .int .i64 (d1 : Int), .int .i64 (d2 : Int), .slice (some ⟨wk0.heap.size, 0, none⟩) N N] 51)) (wk0.heap.size + 1) wk0.heap.size N LY (List.replicate N 0) := by
          have h := DN.out (wk0.alloc (.cells (madeCells #[Value.int .u8 0] N) 5)) wk0.heap.size _ (heap_alloc_new _ _) RZ
          rw [World.size_alloc] at h
          exact h
        have hpg : wk0.heap.size + 1 ≠ wk0.heap.size := by omega
        have hgB : B ≤ wk0.heap.size := Nat.le_trans hB CB.out.size
        have FB := Lib.hid (show Below B w ((wk0.alloc (.cells (madeCells #[Value.int .u8 0] N) 5)).alloc (.cells #[.int .i64 (n : Int), .int .i64 (z : Int), .int .i64 (q8 : Int), .int .i64 (d1 : Int), .int .i64 (d2 : Int), .slice (some ⟨wk0.heap.size, 0, none⟩) N N] 51)) from ((((Below.refl B w).drew.trans (CB.out.mono hB)).alloc hgB _).alloc (by rw [World.size_alloc]; omega) _))
        clear CB
        generalize (wk0.alloc (.cells (madeCells #[Value.int .u8 0] N) 5)).alloc (.cells #[.int .i64 (n : Int), .int .i64 (z : Int), .int .i64 (q8 : Int), .int .i64 (d1 : Int), .int .i64 (d2 : Int), .slice (some ⟨wk0.heap.size, 0, none⟩) N N] 51) = W at *
        generalize wk0.heap.size + 1 = p at *
        generalize wk0.heap.size = g at *
      | have DA : DAt (wk0.alloc (.cells #[.int .i64 (n : Int), .int .i64 (z : Int), .int .i64 (q8 : Int), .int .i64 (d1 : Int), .int .i64 (d2 : Int), .slice (some ⟨w.heap.size, 0, none⟩) N N] 51)) wk0.heap.size w.heap.size N LY (List.replicate N 0) := DN.out wk0 w.heap.size _ (by rw [CB.out.block _ (by simp)]; exact heap_alloc_new _ _) RZ
        have hsz := CB.out.size
        simp only [World.size_alloc, World.size_drew] at hsz
        have hpg : wk0.heap.size ≠ w.heap.size := by omega
        have hgB : B ≤ w.heap.size := hB
        have FB := Lib.hid (show Below B w (wk0.alloc (.cells #[.int .i64 (n : Int), .int .i64 (z : Int), .int .i64 (q8 : Int), .int .i64 (d1 : Int), .int .i64 (d2 : Int), .slice (some ⟨w.heap.size, 0, none⟩) N N] 51)) from (((Below.refl B w).drew.alloc hB _).trans (CB.out.mono (by simp; omega))).alloc (by omega) _)
        clear CB hsz
        generalize wk0.alloc (.cells #[.int .i64 (n : Int), .int .i64 (z : Int), .int .i64 (q8 : Int), .int .i64 (d1 : Int), .int .i64 (d2 : Int), .slice (some ⟨w.heap.size, 0, none⟩) N N] 51) = W at *
        generalize wk0.heap.size = p at *
        obtain ⟨g, hge⟩ : ∃ g, w.heap.size = g := ⟨_, rfl⟩
        rw [hge] at DA hpg hgB
        try simp only [hge]
    have hWB := Nat.le_trans hB FB.out.size
    have hltp := DA.lt
    have KS := Lib.hid (fun w' (hb : Below W.heap.size W w') => HLY.out w' p g (DA.below hb hltp.1 hltp.2))
    have HC := Lib.hid (show Below W.heap.size W W.drew from (Below.refl _ _).drew)
    have HD := Lib.hid (fun w' (hb : Below W.heap.size W w') => DC.out w' p g (DA.below hb hltp.1 hltp.2) hpg)
    have HF9 := Lib.hid (fun w' (hb : Below W.heap.size W w') (j : Nat) (hj : j < N) => show (w'.cell? ⟨g, 0 + j, none⟩).isSome = true ∧ w'.frozen? ⟨g, 0 + j, none⟩ = false from by
      obtain ⟨_, C, hg, hr⟩ := DA.below hb hltp.1 hltp.2
      rw [Nat.zero_add]
      exact ⟨by rw [hr.cell hg j (by simpa using hj)]; rfl, by simp [World.frozen?, hg]⟩)
    have FBW := Lib.hid (fun w' (hb : Below W.heap.size W w') => FB.out.trans (hb.mono hWB))
    clear DA hltp FB
    go_upto_region 2 with (fail)
    refine wp_region_held_drew (S := (fun w' => w'.cell? ⟨p, 0, none⟩ = some (.int .i64 (n : Int)) ∧ w'.cell? ⟨p, 1, none⟩ = some (.int .i64 (z : Int)) ∧ w'.cell? ⟨p, 2, none⟩ = some (.int .i64 (q8 : Int)) ∧ w'.cell? ⟨p, 3, none⟩ = some (.int .i64 (d1 : Int)) ∧ w'.cell? ⟨p, 4, none⟩ = some (.int .i64 (d2 : Int)) ∧ w'.cell? ⟨p, 5, none⟩ = some (.slice (some ⟨g, 0, none⟩) N N))) (by kernel_rfl) (KS.out _ HC.out) (fun hHeld => ?_)
    refine wpAnyH_take (i := 0) (oi := { dst := some 16, op := Op.move (Operand.tmp 5), type := 46, pos := "l16_chains.go:191", after := #[], guard := none }) (v := ?_) rfl (by kernel_rfl) (by kernel_rfl) (by kernel_rfl) (fun _ _ _ h => h) (Or.inl ⟨by rfl, ?hy⟩) hHeld ?_
    case hy => (intro w' hSw; (try dsimp only at hSw); go_simp; try with_reducible rfl)
    simp only [Act.put, List.setIfInBounds_toArray, List.set_cons_zero, List.set_cons_succ]
    refine wpAnyH_take (i := 1) (oi := { dst := some 17, op := Op.nilCheck (Operand.tmp 16), type := 0, pos := "l16_chains.go:191", after := #[{ on := 0, ground := Ground.data }], guard := none }) (v := ?_) rfl (by kernel_rfl) (by kernel_rfl) (by kernel_rfl) (fun _ _ _ h => h) (Or.inl ⟨by rfl, ?hy⟩) hHeld ?_
    case hy => (intro w' hSw; (try dsimp only at hSw); go_simp; try with_reducible rfl)
    simp only [Act.put, List.setIfInBounds_toArray, List.set_cons_zero, List.set_cons_succ]
    refine wpAnyH_take (i := 2) (oi := { dst := some 18, op := Op.fieldAddr 51 (Operand.tmp 17) 1, type := 0, pos := "l16_chains.go:191", after := #[{ on := 1, ground := Ground.data }], guard := none }) (v := ?_) rfl (by kernel_rfl) (by kernel_rfl) (by kernel_rfl) (fun _ _ _ h => h) (Or.inl ⟨by rfl, ?hy⟩) hHeld ?_
    case hy => (intro w' hSw; (try dsimp only at hSw); go_simp; try with_reducible rfl)
    simp only [Act.put, List.setIfInBounds_toArray, List.set_cons_zero, List.set_cons_succ]
    refine wpAnyH_take (i := 3) (oi := { dst := some 19, op := Op.load 49 (Operand.tmp 18), type := 49, pos := "l16_chains.go:191", after := #[{ on := 2, ground := Ground.data }], guard := none }) (v := ?_) rfl (by kernel_rfl) (by kernel_rfl) (by kernel_rfl) (fun _ _ _ h => h) (Or.inl ⟨by rfl, ?hy⟩) hHeld ?_
    case hy => (intro w' hSw; (try dsimp only at hSw); go_simp; try with_reducible rfl)
    simp only [Act.put, List.setIfInBounds_toArray, List.set_cons_zero, List.set_cons_succ]
    refine wpAnyH_take (i := 4) (oi := { dst := some 20, op := Op.move (Operand.tmp 5), type := 46, pos := "l16_chains.go:191", after := #[], guard := none }) (v := ?_) rfl (by kernel_rfl) (by kernel_rfl) (by kernel_rfl) (fun _ _ _ h => h) (Or.inl ⟨by rfl, ?hy⟩) hHeld ?_
    case hy => (intro w' hSw; (try dsimp only at hSw); go_simp; try with_reducible rfl)
    simp only [Act.put, List.setIfInBounds_toArray, List.set_cons_zero, List.set_cons_succ]
    refine wpAnyH_take (i := 5) (oi := { dst := some 21, op := Op.nilCheck (Operand.tmp 20), type := 0, pos := "l16_chains.go:191", after := #[{ on := 4, ground := Ground.data }], guard := none }) (v := ?_) rfl (by kernel_rfl) (by kernel_rfl) (by kernel_rfl) (fun _ _ _ h => h) (Or.inl ⟨by rfl, ?hy⟩) hHeld ?_
    case hy => (intro w' hSw; (try dsimp only at hSw); go_simp; try with_reducible rfl)
    simp only [Act.put, List.setIfInBounds_toArray, List.set_cons_zero, List.set_cons_succ]
    refine wpAnyH_take (i := 6) (oi := { dst := some 22, op := Op.fieldAddr 51 (Operand.tmp 21) 0, type := 0, pos := "l16_chains.go:191", after := #[{ on := 5, ground := Ground.data }], guard := none }) (v := ?_) rfl (by kernel_rfl) (by kernel_rfl) (by kernel_rfl) (fun _ _ _ h => h) (Or.inl ⟨by rfl, ?hy⟩) hHeld ?_
    case hy => (intro w' hSw; (try dsimp only at hSw); go_simp; try with_reducible rfl)
    simp only [Act.put, List.setIfInBounds_toArray, List.set_cons_zero, List.set_cons_succ]
    refine wpAnyH_take (i := 7) (oi := { dst := some 23, op := Op.load 25 (Operand.tmp 22), type := 25, pos := "l16_chains.go:191", after := #[{ on := 6, ground := Ground.data }], guard := none }) (v := ?_) rfl (by kernel_rfl) (by kernel_rfl) (by kernel_rfl) (fun _ _ _ h => h) (Or.inl ⟨by rfl, ?hy⟩) hHeld ?_
    case hy => (intro w' hSw; (try dsimp only at hSw); go_simp; try with_reducible rfl)
    simp only [Act.put, List.setIfInBounds_toArray, List.set_cons_zero, List.set_cons_succ]
    refine wpAnyH_ready (rs := [8]) (by kernel_rfl) (by simp) ?_
    refine AllReadyH.cons (o := { dst := some 24, op := Op.call { callee := Callee.value (Operand.func 60), args := #[Operand.tmp 23], argTypes := #[25] }, type := 9, pos := "l16_chains.go:191", after := #[{ on := 7, ground := Ground.data }], guard := none }) rfl (fun K hK => ?_) AllReadyH.nil
    go_simp
    go_at_call 60; refine (HE.out _ _ _).mono ?_; rintro e wk1 ⟨rfl, hb1⟩; replace HC := Lib.hid (HC.out.trans (hb1.mono HC.out.size))
    go_wp2_with fail
    refine hK.out _ _ (KS.out _ HC.out) (fun hHeld => ?_)
    clear hK K
    try simp only [Act.put, List.setIfInBounds_toArray, List.set_cons_zero, List.set_cons_succ]
    refine wpAnyH_ready (rs := [9]) (by kernel_rfl) (by simp) ?_
    refine AllReadyH.cons (o := { dst := some 25, op := Op.call { callee := Callee.builtin Builtin.copy, args := #[Operand.tmp 19, Operand.tmp 24], argTypes := #[49, 9] }, type := 3, pos := "l16_chains.go:191", after := #[{ on := 3, ground := Ground.data }, { on := 8, ground := Ground.data }, { on := 8, ground := Ground.chain }], guard := none }) rfl (fun K hK => ?_) AllReadyH.nil
    refine wp_copyS _ _ _ _ rfl 5 Tryd.underlying49 sizeU8c g 0 N N rfl (chTop n) rfl (by omega) (fun j hj => (HF9.out _ HC.out j (by omega)).1) (fun j hj => (HF9.out _ HC.out j (by omega)).2) ?_
    go_simp
    skip
    go_wp2_with fail
    refine hK.out _ _ (by obtain ⟨a0, a1, a2, a3, a4, a5⟩ := KS.out _ HC.out; exact ⟨by rw [cellSetc hpg]; exact a0, by rw [cellSetc hpg]; exact a1, by rw [cellSetc hpg]; exact a2, by rw [cellSetc hpg]; exact a3, by rw [cellSetc hpg]; exact a4, by rw [cellSetc hpg]; exact a5⟩) (fun hHeld => ?_)
    clear hK K
    try simp only [Act.put, List.setIfInBounds_toArray, List.set_cons_zero, List.set_cons_succ]
    refine wpAnyH_done (by kernel_rfl) ?_ _
    have DA2 := HD.out _ HC.out
    have FB2 := belowSetc (b := g) hgB ((chTop n).data.toList.map fun x => Value.int .u8 (x.toNat : Int)) 0 _ (FBW.out _ HC.out)
    generalize wk1.setCells g 0 ((chTop n).data.toList.map fun x => Value.int .u8 (x.toNat : Int)) = W2 at *
    clear KS HC HD HF9 FBW m1 m2 hmk
    go_wp2_with fail
    go_loopw [6] (fun i wr => ∃ k : Nat, k ≤ d2 ∧ i = .int .i64 k ∧ DAt wr p g N LY (setsL (fcFl n z) z 253 k) ∧ Below B w wr) (fun i _ => d2 - (intOf i).toNat)
    case atStart => exact ⟨0, Nat.zero_le _, rfl, DA2, FB2⟩
    case round =>
      obtain ⟨k, hk, rfl, hd, hb⟩ := hrel
      have x4 := (D4.out _ _ _ _ hd).2
      have HDA := Lib.hid hd; have HB2 := Lib.hid hb
      clear hd hb DA2 FB2
      by_cases hlt : k < d2
      · have e1 : (k : Int) < (d2 : Int) := by omega
        have hL9 := setsL_len (fcFl n z) z 253 k
        rw [FL.out] at hL9
        have CA := Lib.hid (SL.out p g N k _ _ HDA.out hpg (by rw [hL9]; omega) (by rw [hL9]; omega))
        go_wp2_with fail
        refine CA.out.mono ?_
        rintro e w5 ⟨rfl, hd5, ho5⟩
        have HD5 := Lib.hid (show DAt w5 p g N LY (setsL (fcFl n z) z 253 (k + 1)) from hd5)
        have HB5 := Lib.hid (HB2.out.trans (ho5.2.2.mono hgB))
        clear hd5 ho5 x4
        go_wp2
        go_roundw
        case rel => exact ⟨k + 1, by omega, by go_num, HD5.out, HB5.out⟩
        case measure => simp [intOf]; omega
      · obtain rfl : k = d2 := by omega
        have e1 : ¬ (k : Int) < (k : Int) := by omega
        go_wp2
        go_ret
        exact HY.out p g _ HDA.out HB2.out
set_option maxHeartbeats 1000000 in
theorem specFormatChains_any (n z : Int) (w : World) :
    Calls Tryd.prog 15 #[.int .i64 n, .int .i64 z] w (RecRes2 rowString 9 (fcL n z) (fcC n z) w) := by
  have SH := Lib.hid (fun w => l16Shape_any n z w)
  unfold RecRes2
  by_cases h1 : (inB 8 128 n && sizeI z) = true
  case neg =>
    have h1 : (inB 8 128 n && sizeI z) = false := by simpa using h1
    have hC : fcC n z = 2 := by unfold fcC; rw [h1]; rfl
    have hL : fcL n z = [] := by unfold fcL; rw [hC]; rfl
    rw [h1] at SH
    rw [hC, hL]
    clear h1 hC hL
    go_enter Tryd.func15, Tryd.ntmps15
    go_wp2_with fail
    refine (SH.out _).mono ?_
    rintro e w1 ⟨rfl, hb1⟩
    go_wp2
    go_ret2
    exact ⟨none, 0, rfl, .inl rfl, hb1⟩
  have hC : fcC n z = 0 := by unfold fcC; rw [h1]; rfl
  rw [h1] at SH
  simp only [Bool.and_eq_true] at h1
  have hn := inB_iff.1 h1.1
  have hz := sizeI_iff.1 h1.2
  obtain ⟨n, rfl⟩ : ∃ k : Nat, n = (k : Int) := ⟨n.toNat, by omega⟩
  obtain ⟨z, rfl⟩ : ∃ k : Nat, z = (k : Int) := ⟨z.toNat, by omega⟩
  have hz' : z = 8 ∨ z = 16 ∨ z = 32 := by omega
  have hL : fcL (n : Int) (z : Int) = fcL9 n z := by unfold fcL; rw [if_pos hC]; rfl
  have hfit := chData_fit (n := n) (z := z) (by omega) hz'
  have FM := Lib.hid (fun w' (hb : w.heap.size ≤ w'.heap.size) => l16Format_any n z w.heap.size w' hb hz' (by omega) (by omega))
  have DK := Lib.hid (show ∀ p g cap w', DAt w' p g cap (chLay n z) (setsL (fcFl n z) z 253 (chData n z)) → Calls Tryd.prog 36 #[.pointer (some ⟨p, 0, none⟩)] w' (RecRes rowString 9 (fcL9 n z) w') from fun p g cap w' h => dDisk_any p g cap n z _ w' h (by rw [setsL_len]; exact fcFl_len hfit.2) (by omega) (by omega) (by omega))
  have HLN := Lib.hid (show (fcL9 n z).length = n from unflatL_len _ _ _)
  rw [hC, hL]
  clear h1 hC hL hn hz hfit hz'
  generalize fcL9 n z = r9 at *
  go_enter Tryd.func15, Tryd.ntmps15
  go_wp2_with fail
  refine (SH.out _).mono ?_
  rintro e w1 ⟨rfl, hb1⟩
  have HB1 := Lib.hid hb1; clear hb1
  go_wp2_with fail
  refine (FM.out _ HB1.out.size).mono ?_
  rintro e w2 ⟨p, g, cap, rfl, hd, hb2⟩
  have HB2 := Lib.hid (HB1.out.trans hb2)
  have CD := Lib.hid (DK.out p g cap _ hd); clear hb2 hd
  go_wp2_with fail
  refine CD.out.mono ?_
  rintro e w3 ⟨a, c, rfl, hso, hb3⟩
  have HSO := Lib.hid (show SlSO rowString 9 w3 w.heap.size a r9 from SlSO.mono hso HB2.out.size)
  have HB3 := Lib.hid (HB2.out.trans (hb3.mono HB2.out.size))
  clear hso hb3
  go_wp2
  go_ret2
  exact ⟨a, c, rfl, HSO.out, HB3.out⟩
end Go.Proofs.YthcbekfgkbhpeaaDoor
