/- spec.DeltasOf -/
import Derived.Test.YtogoklgppepbjaaDeltaVal
namespace Go.Proofs.Ytogoklgppepbjaa
open Go.RowKit
set_option linter.unusedVariables false
set_option linter.unusedSimpArgs false
set_option maxRecDepth 20000
set_option maxHeartbeats 8000000 in
theorem specDeltasOf_any (a b : ByteArray) (ha : a.size ≤ 1048576) (hb : b.size ≤ 1048576) (w : World) :
    Calls Try.prog 15 #[.string a, .string b] w (RecResB rowDelta 76 (deltaV a b) (deltaB a b) w) := by
  unfold deltaV
  by_cases hs : a.size = b.size
  case neg =>
    have e : deltaB a b = false := by unfold deltaB; simp [hs]
    rw [e, if_neg (by simp)]
    have h1 : ¬ (a.size : Int) = (b.size : Int) := by omega
    have h2 : ((a.size : Int) == (b.size : Int)) = false := by rw [beq_eq_false_iff_ne]; omega
    clear e
    go_enter Try.func15, Try.ntmps15
    go_wp2
    go_ret2
    exact ⟨_, 0, rfl, .inl rfl, (Below.refl _ _).alloc (Nat.le_refl _) _⟩
  have h2 : ((a.size : Int) == (b.size : Int)) = true := by rw [beq_iff_eq]; omega
  by_cases h4 : a.size ≤ 4096
  case neg =>
    have e : deltaB a b = false := by unfold deltaB; simp [h4]
    rw [e, if_neg (by simp)]
    have h1 : (4096 : Int) < (a.size : Int) := by omega
    clear e
    go_enter Try.func15, Try.ntmps15
    go_wp2
    go_ret2
    exact ⟨_, 0, rfl, .inl rfl, (Below.refl _ _).alloc (Nat.le_refl _) _⟩
  have e : deltaB a b = true := by unfold deltaB; rw [decide_eq_true hs, decide_eq_true h4]; rfl
  rw [e, if_pos rfl]
  have h1 : ¬ (4096 : Int) < (a.size : Int) := by omega
  clear e
  go_enter Try.func15, Try.ntmps15
  go_wp2
  go_loopw [6, 7, 8] (fun v i _ wr => ∃ (k : Nat), k ≤ a.size + 1 ∧ i = .int .i64 k ∧ Hid ((dst a b k).2 = k) ∧ OwnR rowDelta 76 2 wr w.heap.size v (dst a b k).1 ∧ Below w.heap.size w wr) (fun _ i _ _ => a.size + 1 - (intOf i).toNat)
  case atStart => exact ⟨0, Nat.zero_le _, rfl, by unfold Hid; rfl, OwnR.empty _ _ (Nat.le_refl _), (Below.refl _ _).alloc (Nat.le_refl _) _⟩
  case round =>
    obtain ⟨k, hk, rfl, hK2, hown0, hb0⟩ := hrel
    have hbd := dst_bd a b k
    by_cases hlt : k < a.size
    · have hi : (k : Int) < (a.size : Int) := by omega
      have hbk := hbd.2
      obtain ⟨L, hL⟩ : ∃ L, (dst a b k).1 = L := ⟨_, rfl⟩
      rw [hL] at hown0 hbk
      have HK := Lib.hid (show dst a b k = (L, k) by rw [← hL, Prod.ext_iff]; exact ⟨rfl, hK2.out⟩)
      clear hL hbd
      go_wp2
      go_loopw [8] (fun i W => ∃ (e : Nat), k ≤ e ∧ e ≤ a.size ∧ i = .int .i64 e ∧ Hid (dst a b e = dst a b k) ∧ Below wr.heap.size wr W) (fun i _ => a.size - (intOf i).toNat)
      case atStart => exact ⟨k, Nat.le_refl _, by omega, rfl, by unfold Hid; rfl, Below.refl _ _⟩
      case round =>
        obtain ⟨e, hke, hea, rfl, hE, hbi⟩ := hrel
        have hown := hown0.below hbi
        have hb1 := hb0.trans (hbi.mono hb0.size)
        have hsz := hb1.size
        by_cases hin : e < a.size
        · have hin' : e < b.size := by omega
          have hki : (e : Int) < (a.size : Int) := by omega
          have hq := diffAt_in hin hin'
          have hx := a[e].toNat_lt
          have hy := b[e].toNat_lt
          cases hd : diffAt a b e with
          | true =>
            rw [hd] at hq
            have hne : ¬ ((a[e].toNat : Int) = (b[e].toNat : Int)) := of_decide_eq_true hq.symm
            have hbq : ((a[e].toNat : Int) == (b[e].toNat : Int)) = false := by simpa using hne
            have HD := Lib.hid (dst_diff hd)
            clear hq hd hne
            go_wp2
            go_region
            all_goals
              go_wp2
              go_roundw
              case rel => exact ⟨e + 1, by omega, by omega, by go_num, by unfold Hid; rw [HD.out]; exact hE.out, hbi.drew⟩
              case measure => simp [intOf]; omega
          | false =>
            rw [hd] at hq
            have heq : (a[e].toNat : Int) = (b[e].toNat : Int) := by have := of_decide_eq_false hq.symm; omega
            have hbq : ((a[e].toNat : Int) == (b[e].toNat : Int)) = true := by rw [beq_iff_eq]; exact heq
            by_cases hf : k < e
            · have HD := Lib.hid (show dst a b (e + 1) = (L ++ [⟨(k : Int), b.extract k e⟩], e + 1) by rw [dst_run hd (by rw [hE.out, HK.out]; exact hf), hE.out, HK.out])
              have hf1 : (k : Int) < (e : Int) := by omega
              have hsl1 : k ≤ e ∧ e ≤ b.size := by omega
              clear hq hd heq hf
              go_wp2
              go_region
              all_goals
                go_wp2_with (at_builtin; refine wpList_appendR 25 76 (.agg zeroDelta.toArray) 24 Try.underlying25 infoDelta rfl (by omega) (by omega) rfl _ _ rfl rfl (hown.alloc _) ⟨(k : Int), b.extract k e⟩ rfl (by simp [rowDelta, Value.oneCell']) ⟨wr.heap.size, 0, none⟩ 1 rfl (World.news_of_block (cs := #[.int .i64 (k : Int), .string (b.extract k e)]) (t := 76) (fr := (0, 0)) (heap_alloc_new wr _)) (by omega) (by simp; omega) ?_; intro g cap w2 hown2 _ hb2)
                go_wp2
                go_roundw
                case rel => exact ⟨e + 1, by omega, by go_num, by unfold Hid; rw [HD.out], by rw [HD.out]; exact hown2, ((hb1.alloc hsz _).drew).trans hb2⟩
                case measure => simp [intOf]; omega
            · have HD := Lib.hid (show dst a b (e + 1) = (L, e + 1) by rw [dst_none hd (by rw [hE.out, HK.out]; exact hf), hE.out, HK.out])
              have hf1 : ¬ (k : Int) < (e : Int) := by omega
              clear hq hd heq hf
              go_wp2
              go_region
              all_goals
                go_wp2
                go_roundw
                case rel => exact ⟨e + 1, by omega, by go_num, by unfold Hid; rw [HD.out], by rw [HD.out]; exact hown, hb1.drew⟩
                case measure => simp [intOf]; omega
        · have hki : ¬ (e : Int) < (a.size : Int) := by omega
          have hd := diffAt_end (b := b) hin
          by_cases hf : k < e
          · have HD := Lib.hid (show dst a b (e + 1) = (L ++ [⟨(k : Int), b.extract k e⟩], e + 1) by rw [dst_run hd (by rw [hE.out, HK.out]; exact hf), hE.out, HK.out])
            have hf1 : (k : Int) < (e : Int) := by omega
            have hsl1 : k ≤ e ∧ e ≤ b.size := by omega
            clear hd hf
            go_wp2
            refine wp_region_held_drew (S := (fun _ => True)) (by kernel_rfl) trivial (fun hHeld => ?_)
            refine wpAnyH_take (i := 0) (oi := { dst := some 26, op := Op.move (Operand.tmp 8), type := 3, pos := "l14_compression.go:153", after := #[], guard := none }) (v := ?_) rfl (by kernel_rfl) (by kernel_rfl) (by kernel_rfl) (fun _ _ _ h => h) (Or.inl ⟨by rfl, ?hy⟩) hHeld ?_
            case hy => (intro w' hSw; (try dsimp only at hSw); go_simp; try with_reducible rfl)
            simp only [Act.put, List.setIfInBounds_toArray, List.set_cons_zero, List.set_cons_succ]
            refine wpAnyH_take (i := 1) (oi := { dst := some 27, op := Op.move (Operand.tmp 0), type := 9, pos := "l14_compression.go:153", after := #[], guard := none }) (v := ?_) rfl (by kernel_rfl) (by kernel_rfl) (by kernel_rfl) (fun _ _ _ h => h) (Or.inl ⟨by rfl, ?hy⟩) hHeld ?_
            case hy => (intro w' hSw; (try dsimp only at hSw); go_simp; try with_reducible rfl)
            simp only [Act.put, List.setIfInBounds_toArray, List.set_cons_zero, List.set_cons_succ]
            refine wpAnyH_take (i := 2) (oi := { dst := some 28, op := Op.call { callee := Callee.builtin Builtin.len, args := #[Operand.tmp 27], argTypes := #[9] }, type := 3, pos := "l14_compression.go:153", after := #[{ on := 1, ground := Ground.data }], guard := none }) (v := ?_) rfl (by kernel_rfl) (by kernel_rfl) (by kernel_rfl) (fun _ _ _ h => h) (Or.inl ⟨by rfl, ?hy⟩) hHeld ?_
            case hy => (intro w' hSw; (try dsimp only at hSw); go_simp; try with_reducible rfl)
            simp only [Act.put, List.setIfInBounds_toArray, List.set_cons_zero, List.set_cons_succ]
            refine wpAnyH_take (i := 3) (oi := { dst := some 29, op := Op.binOp BinOp.lss 3 (Operand.tmp 26) (Operand.tmp 28) 3, type := 4, pos := "l14_compression.go:153", after := #[{ on := 0, ground := Ground.data }, { on := 2, ground := Ground.data }], guard := none }) (v := .bool false) rfl (by kernel_rfl) (by kernel_rfl) (by kernel_rfl) (fun _ _ _ h => h) (Or.inl ⟨by rfl, ?hy⟩) hHeld ?_
            case hy => (intro w' hSw; (try dsimp only at hSw); go_simp; first | done | omega | (simp; omega))
            simp only [Act.put, List.setIfInBounds_toArray, List.set_cons_zero, List.set_cons_succ]
            refine wpAnyH_take (i := 4) (oi := { dst := some 30, op := Op.move (Operand.tmp 29), type := 4, pos := "l14_compression.go:153", after := #[{ on := 3, ground := Ground.data }], guard := none }) (v := .bool false) rfl (by kernel_rfl) (by kernel_rfl) (by kernel_rfl) (fun _ _ _ h => h) (Or.inl ⟨by rfl, ?hy⟩) hHeld ?_
            case hy => (intro w' hSw; (try dsimp only at hSw); go_simp; try with_reducible rfl)
            simp only [Act.put, List.setIfInBounds_toArray, List.set_cons_zero, List.set_cons_succ]
            refine wpAnyH_take (i := 5) (oi := { dst := some 31, op := Op.move (Operand.tmp 0), type := 9, pos := "l14_compression.go:153", after := #[{ on := 4, ground := Ground.guard }], guard := some (4, true) }) (v := undef) rfl (by kernel_rfl) (by kernel_rfl) (by kernel_rfl) (fun _ _ _ h => h) (Or.inr ⟨by rfl, rfl⟩) hHeld ?_
            simp only [Act.put, List.setIfInBounds_toArray, List.set_cons_zero, List.set_cons_succ]
            refine wpAnyH_take (i := 6) (oi := { dst := some 32, op := Op.move (Operand.tmp 8), type := 3, pos := "l14_compression.go:153", after := #[{ on := 4, ground := Ground.guard }], guard := some (4, true) }) (v := undef) rfl (by kernel_rfl) (by kernel_rfl) (by kernel_rfl) (fun _ _ _ h => h) (Or.inr ⟨by rfl, rfl⟩) hHeld ?_
            simp only [Act.put, List.setIfInBounds_toArray, List.set_cons_zero, List.set_cons_succ]
            refine wpAnyH_take (i := 7) (oi := { dst := some 33, op := Op.index 9 (Operand.tmp 31) (Operand.tmp 32), type := 5, pos := "l14_compression.go:153", after := #[{ on := 5, ground := Ground.data }, { on := 6, ground := Ground.data }, { on := 4, ground := Ground.guard }], guard := some (4, true) }) (v := undef) rfl (by kernel_rfl) (by kernel_rfl) (by kernel_rfl) (fun _ _ _ h => h) (Or.inr ⟨by rfl, rfl⟩) hHeld ?_
            simp only [Act.put, List.setIfInBounds_toArray, List.set_cons_zero, List.set_cons_succ]
            refine wpAnyH_take (i := 8) (oi := { dst := some 34, op := Op.move (Operand.tmp 1), type := 9, pos := "l14_compression.go:153", after := #[{ on := 4, ground := Ground.guard }], guard := some (4, true) }) (v := undef) rfl (by kernel_rfl) (by kernel_rfl) (by kernel_rfl) (fun _ _ _ h => h) (Or.inr ⟨by rfl, rfl⟩) hHeld ?_
            simp only [Act.put, List.setIfInBounds_toArray, List.set_cons_zero, List.set_cons_succ]
            refine wpAnyH_take (i := 9) (oi := { dst := some 35, op := Op.move (Operand.tmp 8), type := 3, pos := "l14_compression.go:153", after := #[{ on := 4, ground := Ground.guard }], guard := some (4, true) }) (v := undef) rfl (by kernel_rfl) (by kernel_rfl) (by kernel_rfl) (fun _ _ _ h => h) (Or.inr ⟨by rfl, rfl⟩) hHeld ?_
            simp only [Act.put, List.setIfInBounds_toArray, List.set_cons_zero, List.set_cons_succ]
            refine wpAnyH_take (i := 10) (oi := { dst := some 36, op := Op.index 9 (Operand.tmp 34) (Operand.tmp 35), type := 5, pos := "l14_compression.go:153", after := #[{ on := 8, ground := Ground.data }, { on := 9, ground := Ground.data }, { on := 4, ground := Ground.guard }], guard := some (4, true) }) (v := undef) rfl (by kernel_rfl) (by kernel_rfl) (by kernel_rfl) (fun _ _ _ h => h) (Or.inr ⟨by rfl, rfl⟩) hHeld ?_
            simp only [Act.put, List.setIfInBounds_toArray, List.set_cons_zero, List.set_cons_succ]
            refine wpAnyH_take (i := 11) (oi := { dst := some 37, op := Op.binOp BinOp.neq 5 (Operand.tmp 33) (Operand.tmp 36) 5, type := 4, pos := "l14_compression.go:153", after := #[{ on := 7, ground := Ground.data }, { on := 10, ground := Ground.data }, { on := 4, ground := Ground.guard }], guard := some (4, true) }) (v := undef) rfl (by kernel_rfl) (by kernel_rfl) (by kernel_rfl) (fun _ _ _ h => h) (Or.inr ⟨by rfl, rfl⟩) hHeld ?_
            simp only [Act.put, List.setIfInBounds_toArray, List.set_cons_zero, List.set_cons_succ]
            refine wpAnyH_take (i := 12) (oi := { dst := some 38, op := Op.pick (Operand.tmp 30) (Operand.tmp 37) (Operand.const (Value.bool false)), type := 4, pos := "l14_compression.go:153", after := #[{ on := 4, ground := Ground.data }, { on := 11, ground := Ground.data }], guard := none }) (v := ?_) rfl (by kernel_rfl) (by kernel_rfl) (by kernel_rfl) (fun _ _ _ h => h) (Or.inl ⟨by rfl, ?hy⟩) hHeld ?_
            case hy => (intro w' hSw; (try dsimp only at hSw); go_simp; try with_reducible rfl)
            simp only [Act.put, List.setIfInBounds_toArray, List.set_cons_zero, List.set_cons_succ]
            refine wpAnyH_done (by kernel_rfl) ?_ _
            all_goals
              go_wp2_with (at_builtin; refine wpList_appendR 25 76 (.agg zeroDelta.toArray) 24 Try.underlying25 infoDelta rfl (by omega) (by omega) rfl _ _ rfl rfl (hown.alloc _) ⟨(k : Int), b.extract k e⟩ rfl (by simp [rowDelta, Value.oneCell']) ⟨wr.heap.size, 0, none⟩ 1 rfl (World.news_of_block (cs := #[.int .i64 (k : Int), .string (b.extract k e)]) (t := 76) (fr := (0, 0)) (heap_alloc_new wr _)) (by omega) (by simp; omega) ?_; intro g cap w2 hown2 _ hb2)
              go_wp2
              go_roundw
              case rel => exact ⟨e + 1, by omega, by go_num, by unfold Hid; rw [HD.out], by rw [HD.out]; exact hown2, ((hb1.alloc hsz _).drew).trans hb2⟩
              case measure => simp [intOf]; omega
          · omega
    · have hF : (dst a b (a.size + 1)).1 = (dst a b k).1 := by
        by_cases h9 : k = a.size + 1
        · rw [h9]
        · obtain rfl : k = a.size := by omega
          rw [dst_none (diffAt_end (Nat.lt_irrefl _)) (by rw [hK2.out]; exact Nat.lt_irrefl _)]
      obtain ⟨a9, c9, rfl, hs9⟩ := hown0.slSI
      go_wp2
      go_ret2
      rw [hF]
      exact ⟨a9, c9, rfl, hs9, hb0⟩
end Go.Proofs.Ytogoklgppepbjaa
