/- impl.VotedText -/
import Derived.Test.YtnlbhdlfpnepfaaDoorVotTx
namespace Go.Proofs.YtnlbhdlfpnepfaaDoor
open Go.RowKit
set_option linter.unusedVariables false
set_option linter.unusedSimpArgs false
set_option maxRecDepth 20000
set_option maxHeartbeats 8000000 in
theorem votedText_g (e : VotedV) (a : Option Addr) (cp : Nat) (hm : e.f7.length ≤ 1048576) (hd : e.f4.size ≤ 1048576) (w : World) (hw : 0 < w.heap.size) (ht : PowTab w) (hs : SlA w a e.f7) :
    Calls Tryd.prog 7 #[.agg #[.int .i64 e.f0, .int .i64 e.f1, .int .i64 e.f2, .int .i64 e.f3, .string e.f4, .int .i64 e.f5, .bool e.f6, .slice a e.f7.length cp, .int .i64 e.f8]] w fun x w' => x = .returned (.string (votedT e)) ∧ Below w.heap.size w w' := by
  have VF := Lib.hid (fun W (hb : Below w.heap.size w W) => validVoted_g e a cp hm hd W (hs.below hb (Nat.le_refl _)))
  unfold votedT
  by_cases hp : votedB e = true
  case neg =>
    have hf : votedB e = false := by simpa using hp
    rw [if_neg hp]
    rw [hf] at VF
    clear hp hf
    go_enter Tryd.func7, Tryd.ntmps7
    go_wp2_with fail
    refine (VF.out _ (by go_grown)).mono ?_
    rintro e_ w1 ⟨rfl, hb1⟩
    go_wp2
    go_ret
    exact ⟨rfl, Below.trans (by go_grown) (hb1.mono (by simp))⟩
  case pos =>
    obtain ⟨h0, h1, h2, h3, h5, h7, hxs⟩ := votedB_parts hp
    rw [if_pos hp]
    rw [hp] at VF
    have TX := Lib.hid (fun W (hb : Below w.heap.size w W) => sectorTextV_any e a cp h0 h1 h2 h3 h5 W (ht.below hb))
    have DX := Lib.hid (fun W (hb : Below w.heap.size w W) => decimal_any e.f8 (by omega) (by omega) W (ht.below hb))
    have zt := vsecT_size (st := e.f5) (de := e.f6) h0 h1 h2 h3
    have zd := decT_size (n := e.f8) (by omega) (by omega)
    have TT := Lib.hid (fun W (hb : Below w.heap.size w W) => timesText_any e.f7 a cp hm hxs W (hs.below hb (Nat.le_refl _)) (ht.below hb))
    have hjl := joinK_len hxs e.f7.length
    have hzj : (⟨(joinK e.f7 e.f7.length).toArray⟩ : ByteArray).size ≤ 6 * 1048576 := by show (joinK e.f7 e.f7.length).toArray.size ≤ _; simp; omega
    clear h0 h1 h2 h3 h5 h7 hp hd ht hxs hs
    generalize vsecT e.f0 e.f1 e.f2 e.f3 e.f5 e.f6 = t1 at *
    generalize decT e.f8 = t2 at *
    have HK0 := Lib.hid (show e.f7.length = 0 → (⟨(weakK e.f7 e.f7.length).toArray⟩ : ByteArray) = ⟨#[]⟩ from fun h => by unfold weakK; rw [if_pos h])
    have HK1 := Lib.hid (show e.f7.length ≠ 0 → (⟨(weakK e.f7 e.f7.length).toArray⟩ : ByteArray) = ⟨#[32, 119, 101, 97, 107, 32]⟩ ++ ⟨(joinK e.f7 e.f7.length).toArray⟩ from fun h => by
      unfold weakK
      rw [if_neg h]
      apply ba_ext
      simp [ByteArray.data_append])
    generalize (⟨(weakK e.f7 e.f7.length).toArray⟩ : ByteArray) = tw at *
    generalize (⟨(joinK e.f7 e.f7.length).toArray⟩ : ByteArray) = tj at *
    have g1 : (9223372036854775807 < t1.size + 7) = False := by simp; omega
    have g2 : (9223372036854775807 < t1.size + 7 + t2.size) = False := by simp; omega
    have g3 : (9223372036854775807 < 6 + tj.size) = False := by simp; omega
    have g4 : (9223372036854775807 < t1.size + 7 + t2.size + (6 + tj.size)) = False := by simp; omega
    have G := Lib.hid (And.intro g1 (And.intro g2 (And.intro g3 g4)))
    clear g1 g2 g3 g4
    have KB := Lib.hid (BoxAt.new w #[.int .i64 e.f0, .int .i64 e.f1, .int .i64 e.f2, .int .i64 e.f3, .string e.f4, .int .i64 e.f5, .bool e.f6, .slice a e.f7.length cp, .int .i64 e.f8] 27 w.heap.size rfl)
    go_enter Tryd.func7, Tryd.ntmps7
    go_wp2_with fail
    refine (VF.out _ (by go_grown)).mono ?_
    rintro e_ W ⟨rfl, hb1⟩
    replace KB := Lib.hid (KB.out.below hb1 (by simp))
    have F1 := Lib.hid (show Below w.heap.size w W from Below.trans (by go_grown) (hb1.mono (by simp)))
    have hlt : w.heap.size < W.heap.size := by have := hb1.size; simp at this; omega
    clear hb1
    go_wp2
    obtain ⟨g1, g2, g3, g4⟩ := G.out
    clear hjl
    have KS := Lib.hid (fun w' (hb : Below W.heap.size W w') => (show w'.cell? ⟨w.heap.size, 0, none⟩ = some (.int .i64 e.f0) ∧ w'.cell? ⟨w.heap.size, 1, none⟩ = some (.int .i64 e.f1) ∧ w'.cell? ⟨w.heap.size, 2, none⟩ = some (.int .i64 e.f2) ∧ w'.cell? ⟨w.heap.size, 3, none⟩ = some (.int .i64 e.f3) ∧ w'.cell? ⟨w.heap.size, 4, none⟩ = some (.string e.f4) ∧ w'.cell? ⟨w.heap.size, 5, none⟩ = some (.int .i64 e.f5) ∧ w'.cell? ⟨w.heap.size, 6, none⟩ = some (.bool e.f6) ∧ w'.cell? ⟨w.heap.size, 7, none⟩ = some (.slice a e.f7.length cp) ∧ w'.cell? ⟨w.heap.size, 8, none⟩ = some (.int .i64 e.f8) from ⟨(KB.out.below hb hlt) 0 _ rfl, (KB.out.below hb hlt) 1 _ rfl, (KB.out.below hb hlt) 2 _ rfl, (KB.out.below hb hlt) 3 _ rfl, (KB.out.below hb hlt) 4 _ rfl, (KB.out.below hb hlt) 5 _ rfl, (KB.out.below hb hlt) 6 _ rfl, (KB.out.below hb hlt) 7 _ rfl, (KB.out.below hb hlt) 8 _ rfl⟩))
    have HC := Lib.hid (show Below W.heap.size W W.drew from (Below.refl _ _).drew)
    refine wp_region_held_drew (S := (fun w' => w'.cell? ⟨w.heap.size, 0, none⟩ = some (.int .i64 e.f0) ∧ w'.cell? ⟨w.heap.size, 1, none⟩ = some (.int .i64 e.f1) ∧ w'.cell? ⟨w.heap.size, 2, none⟩ = some (.int .i64 e.f2) ∧ w'.cell? ⟨w.heap.size, 3, none⟩ = some (.int .i64 e.f3) ∧ w'.cell? ⟨w.heap.size, 4, none⟩ = some (.string e.f4) ∧ w'.cell? ⟨w.heap.size, 5, none⟩ = some (.int .i64 e.f5) ∧ w'.cell? ⟨w.heap.size, 6, none⟩ = some (.bool e.f6) ∧ w'.cell? ⟨w.heap.size, 7, none⟩ = some (.slice a e.f7.length cp) ∧ w'.cell? ⟨w.heap.size, 8, none⟩ = some (.int .i64 e.f8))) (by kernel_rfl) (KS.out _ HC.out) (fun hHeld => ?_)
    refine wpAnyH_take (i := 0) (oi := { dst := some 7, op := Op.load 27 (Operand.tmp 1), type := 27, pos := "l10_revolutions.go:289", after := #[], guard := none }) (v := ?_) rfl (by kernel_rfl) (by kernel_rfl) (by kernel_rfl) (fun _ _ _ h => h) (Or.inl ⟨by rfl, ?hy⟩) hHeld ?_
    case hy => (intro w' hSw; (try dsimp only at hSw); go_simp; try with_reducible rfl)
    simp only [Act.put, List.setIfInBounds_toArray, List.set_cons_zero, List.set_cons_succ]
    refine wpAnyH_take (i := 1) (oi := { dst := some 8, op := Op.makeInterface 27 (Operand.tmp 7), type := 52, pos := "l10_revolutions.go:289", after := #[{ on := 0, ground := Ground.data }], guard := none }) (v := ?_) rfl (by kernel_rfl) (by kernel_rfl) (by kernel_rfl) (fun _ _ _ h => h) (Or.inl ⟨by rfl, ?hy⟩) hHeld ?_
    case hy => (intro w' hSw; (try dsimp only at hSw); go_simp; try with_reducible rfl)
    simp only [Act.put, List.setIfInBounds_toArray, List.set_cons_zero, List.set_cons_succ]
    refine wpAnyH_take (i := 4) (oi := { dst := some 11, op := Op.fieldAddr 27 (Operand.tmp 1) 8, type := 0, pos := "l10_revolutions.go:289", after := #[], guard := none }) (v := ?_) rfl (by kernel_rfl) (by kernel_rfl) (by kernel_rfl) (fun _ _ _ h => h) (Or.inl ⟨by rfl, ?hy⟩) hHeld ?_
    case hy => (intro w' hSw; (try dsimp only at hSw); go_simp; try with_reducible rfl)
    simp only [Act.put, List.setIfInBounds_toArray, List.set_cons_zero, List.set_cons_succ]
    refine wpAnyH_take (i := 5) (oi := { dst := some 12, op := Op.load 2 (Operand.tmp 11), type := 2, pos := "l10_revolutions.go:289", after := #[{ on := 4, ground := Ground.data }], guard := none }) (v := ?_) rfl (by kernel_rfl) (by kernel_rfl) (by kernel_rfl) (fun _ _ _ h => h) (Or.inl ⟨by rfl, ?hy⟩) hHeld ?_
    case hy => (intro w' hSw; (try dsimp only at hSw); go_simp; try with_reducible rfl)
    simp only [Act.put, List.setIfInBounds_toArray, List.set_cons_zero, List.set_cons_succ]
    refine wpAnyH_ready (rs := [2]) (by kernel_rfl) (by simp) ?_
    refine AllReadyH.cons (o := { dst := some 9, op := Op.call { callee := Callee.value (Operand.func 14), args := #[Operand.tmp 8], argTypes := #[52] }, type := 9, pos := "l10_revolutions.go:289", after := #[{ on := 1, ground := Ground.data }], guard := none }) rfl (fun K hK => ?_) AllReadyH.nil
    go_simp
    go_at_call 14; refine (TX.out _ (F1.out.trans (HC.out.mono F1.out.size))).mono ?_; rintro e wk1 ⟨rfl, hb1⟩; replace HC := Lib.hid (HC.out.trans (hb1.mono HC.out.size))
    go_wp2_with fail
    refine hK.out _ _ (KS.out _ HC.out) (fun hHeld => ?_)
    clear hK K
    try simp only [Act.put, List.setIfInBounds_toArray, List.set_cons_zero, List.set_cons_succ]
    refine wpAnyH_take (i := 3) (oi := { dst := some 10, op := Op.binOp BinOp.add 9 (Operand.tmp 9) (Operand.const (Value.string { data := #[32, 118, 111, 116, 101, 115, 32] })) 9, type := 9, pos := "l10_revolutions.go:289", after := #[{ on := 2, ground := Ground.data }], guard := none }) (v := ?_) rfl (by kernel_rfl) (by kernel_rfl) (by kernel_rfl) (fun _ _ _ h => h) (Or.inl ⟨by rfl, ?hy⟩) hHeld ?_
    case hy => (intro w' hSw; (try dsimp only at hSw); go_simp; try with_reducible rfl)
    simp only [Act.put, List.setIfInBounds_toArray, List.set_cons_zero, List.set_cons_succ]
    refine wpAnyH_ready (rs := [6]) (by kernel_rfl) (by simp) ?_
    refine AllReadyH.cons (o := { dst := some 13, op := Op.call { callee := Callee.value (Operand.func 15), args := #[Operand.tmp 12], argTypes := #[2] }, type := 9, pos := "l10_revolutions.go:289", after := #[{ on := 5, ground := Ground.data }, { on := 2, ground := Ground.chain }], guard := none }) rfl (fun K hK => ?_) AllReadyH.nil
    go_simp
    go_at_call 15; refine (DX.out _ (F1.out.trans (HC.out.mono F1.out.size))).mono ?_; rintro e wk2 ⟨rfl, hb2⟩; replace HC := Lib.hid (HC.out.trans (hb2.mono HC.out.size))
    go_wp2_with fail
    refine hK.out _ _ (KS.out _ HC.out) (fun hHeld => ?_)
    clear hK K
    try simp only [Act.put, List.setIfInBounds_toArray, List.set_cons_zero, List.set_cons_succ]
    refine wpAnyH_take (i := 7) (oi := { dst := some 14, op := Op.binOp BinOp.add 9 (Operand.tmp 10) (Operand.tmp 13) 9, type := 9, pos := "l10_revolutions.go:289", after := #[{ on := 3, ground := Ground.data }, { on := 6, ground := Ground.data }], guard := none }) (v := ?_) rfl (by kernel_rfl) (by kernel_rfl) (by kernel_rfl) (fun _ _ _ h => h) (Or.inl ⟨by rfl, ?hy⟩) hHeld ?_
    case hy => (intro w' hSw; (try dsimp only at hSw); go_simp; try with_reducible rfl)
    simp only [Act.put, List.setIfInBounds_toArray, List.set_cons_zero, List.set_cons_succ]
    refine wpAnyH_take (i := 8) (oi := { dst := some 3, op := Op.assign (Operand.tmp 14), type := 9, pos := "l10_revolutions.go:289", after := #[{ on := 7, ground := Ground.data }, { on := 6, ground := Ground.chain }, { on := 0, ground := Ground.phase }, { on := 1, ground := Ground.phase }, { on := 2, ground := Ground.phase }, { on := 3, ground := Ground.phase }, { on := 4, ground := Ground.phase }, { on := 5, ground := Ground.phase }, { on := 6, ground := Ground.phase }, { on := 7, ground := Ground.phase }], guard := none }) (v := ?_) rfl (by kernel_rfl) (by kernel_rfl) (by kernel_rfl) (fun _ _ _ h => h) (Or.inl ⟨by rfl, ?hy⟩) hHeld ?_
    case hy => (intro w' hSw; (try dsimp only at hSw); go_simp; try with_reducible rfl)
    simp only [Act.put, List.setIfInBounds_toArray, List.set_cons_zero, List.set_cons_succ]
    refine wpAnyH_done (by kernel_rfl) ?_ _
    have KE := Lib.hid (fun W' (hb : Below W.heap.size W W') => KB.out.below hb hlt)
    have F2 := Lib.hid (F1.out.trans (HC.out.mono F1.out.size))
    by_cases hz : e.f7.length = 0
    · have HK := Lib.hid (HK0.out hz)
      have c7 := (KE.out _ HC.out) 7 _ rfl
      have hzi : ¬ ((0 : Int) < (e.f7.length : Int)) := by omega
      clear hz
      go_wp2
      go_ret
      exact ⟨by rw [HK.out, app_nil]; rfl, F2.out⟩
    · have HK := Lib.hid (HK1.out hz)
      have c7 := (KE.out _ HC.out) 7 _ rfl
      have hzi : (0 : Int) < (e.f7.length : Int) := by omega
      clear hz
      go_wp2_with fail
      refine (TT.out _ F2.out).mono ?_
      rintro e_ w9 ⟨rfl, hb9⟩
      have F9 := Lib.hid (F2.out.trans (hb9.mono F2.out.size))
      clear hb9 c7
      go_wp2
      go_ret
      exact ⟨by rw [HK.out]; first | rfl | (simp only [ByteArray.append_assoc]; rfl), F9.out⟩
end Go.Proofs.YtnlbhdlfpnepfaaDoor
