/- impl.sectorText of a Found, impl.FoundText -/
import Derived.Test.YtccjjlfjbandfaaDoorFoundTx
namespace Go.Proofs.YtccjjlfjbandfaaDoor
open Go.RowKit
set_option linter.unusedVariables false
set_option linter.unusedSimpArgs false
set_option maxRecDepth 20000
set_option maxHeartbeats 8000000 in
theorem sectorTextF_any (e : FoundV) (h0 : 0 ≤ e.f0 ∧ e.f0 ≤ 255) (h1 : 0 ≤ e.f1 ∧ e.f1 ≤ 255) (h2 : 0 ≤ e.f2 ∧ e.f2 ≤ 255) (h3 : 0 ≤ e.f3 ∧ e.f3 ≤ 255) (h5 : 1 ≤ e.f5 ∧ e.f5 ≤ 4) (w : World) (ht : PowTab w) :
    Calls Tryd.prog 19 #[.iface 32 (.agg #[.int .i64 e.f0, .int .i64 e.f1, .int .i64 e.f2, .int .i64 e.f3, .string e.f4, .int .i64 e.f5, .bool e.f6, .int .i64 e.f7])] w fun x w' => x = .returned (.string (secT e.f0 e.f1 e.f2 e.f3 e.f5 e.f6)) ∧ Below w.heap.size w w' := by
  have AD := Lib.hid (fun w => foundAddress_any e w)
  have ST := Lib.hid (fun w => foundState_any e w)
  have DE := Lib.hid (fun w => foundDeleted_any e w)
  have AS := Lib.hid (fun W (hb : Below w.heap.size w W) => addrString_any e.f0 e.f1 e.f2 e.f3 h0 h1 h2 h3 W (ht.below hb))
  have SS := Lib.hid (fun w => stateString_any e.f5 h5 w)
  have za := addrT_size h0 h1 h2 h3
  have zs := stateT_size e.f5
  clear h0 h1 h2 h3 h5 ht
  unfold secT
  generalize addrT e.f0 e.f1 e.f2 e.f3 = ta at *
  generalize stateT e.f5 = ts at *
  have g1 : (9223372036854775807 < ta.size + 1) = False := by simp; omega
  have g2 : (9223372036854775807 < ta.size + 1 + ts.size) = False := by simp; omega
  have g3 : (9223372036854775807 < ta.size + 1 + ts.size + 8) = False := by simp; omega
  have HN := Lib.hid (app_nil (ta ++ ⟨#[32]⟩ ++ ts))
  cases hd : e.f6
  all_goals
    rw [hd] at AD ST DE
    go_enter Tryd.func19, Tryd.ntmps19
    go_wp2_with fail
    refine (AD.out _).mono ?_
    rintro e_ w1 ⟨rfl, hb1⟩
    have F1 := Lib.hid (show Below w.heap.size w w1 from by first | exact hb1 | exact Below.trans (by go_grown) (hb1.mono (by simp)))
    clear hb1
    go_wp2_with fail
    refine (AS.out _ F1.out).mono ?_
    rintro e_ w2 ⟨rfl, hb2⟩
    have F2 := Lib.hid (F1.out.trans (hb2.mono F1.out.size))
    clear hb2
    go_wp2_with fail
    refine (ST.out _).mono ?_
    rintro e_ w3 ⟨rfl, hb3⟩
    have F3 := Lib.hid (F2.out.trans (hb3.mono F2.out.size))
    clear hb3
    go_wp2_with fail
    refine (SS.out _).mono ?_
    rintro e_ w4 ⟨rfl, hb4⟩
    have F4 := Lib.hid (F3.out.trans (hb4.mono F3.out.size))
    clear hb4
    go_wp2_with fail
    refine (DE.out _).mono ?_
    rintro e_ w5 ⟨rfl, hb5⟩
    have F5 := Lib.hid (F4.out.trans (hb5.mono F4.out.size))
    clear hb5
    go_wp2
    go_ret
  · exact ⟨by first | (rw [HN.out]; rfl) | rfl, F5.out⟩
  · exact ⟨rfl, F5.out⟩
theorem foundB_parts {e : FoundV} (h : foundB e = true) : (0 ≤ e.f0 ∧ e.f0 ≤ 255) ∧ (0 ≤ e.f1 ∧ e.f1 ≤ 255) ∧ (0 ≤ e.f2 ∧ e.f2 ≤ 255) ∧ (0 ≤ e.f3 ∧ e.f3 ≤ 255) ∧ (1 ≤ e.f5 ∧ e.f5 ≤ 4) ∧ (0 ≤ e.f7 ∧ e.f7 ≤ 7999) := by
  unfold foundB at h
  simp only [Bool.and_eq_true, List.all_cons, List.all_nil, and_true] at h
  obtain ⟨⟨a0, a1, a2, a3⟩, b, c⟩ := h
  have b' := inB_iff.1 b
  have c' : 1 ≤ e.f5 ∧ e.f5 ≤ 4 := by
    unfold bodyB at c
    split at c
    · omega
    · split at c
      · omega
      · split at c
        · omega
        · cases c
  exact ⟨inB_iff.1 a0, inB_iff.1 a1, inB_iff.1 a2, inB_iff.1 a3, c', by omega⟩
def foundT (e : FoundV) : ByteArray := if foundB e = true then secT e.f0 e.f1 e.f2 e.f3 e.f5 e.f6 ++ ⟨#[32, 97, 116, 32]⟩ ++ decT e.f7 else ⟨#[]⟩
theorem secT_size {c h n z st : Int} {de : Bool} (hc : 0 ≤ c ∧ c ≤ 255) (hh : 0 ≤ h ∧ h ≤ 255) (hn : 0 ≤ n ∧ n ≤ 255) (hz : 0 ≤ z ∧ z ≤ 255) : (secT c h n z st de).size ≤ 40 := by
  have s0 := addrT_size hc hh hn hz
  have s1 := stateT_size st
  have e32 : (⟨#[32]⟩ : ByteArray).size = 1 := rfl
  have e8 : (if de = true then (⟨#[32, 100, 101, 108, 101, 116, 101, 100]⟩ : ByteArray) else ⟨#[]⟩).size ≤ 8 := by cases de <;> decide
  unfold secT
  repeat rw [ByteArray.size_append]
  rw [e32]
  omega
set_option maxHeartbeats 8000000 in
theorem foundText_g (e : FoundV) (hn : e.f4.size ≤ 1048576) (w : World) (hw : 1 < w.heap.size) (ht : PowTab w) :
    Calls Tryd.prog 11 #[.agg #[.int .i64 e.f0, .int .i64 e.f1, .int .i64 e.f2, .int .i64 e.f3, .string e.f4, .int .i64 e.f5, .bool e.f6, .int .i64 e.f7]] w fun x w' => x = .returned (.string (foundT e)) ∧ Below w.heap.size w w' := by
  have VF := Lib.hid (fun w => validFound_g e hn w)
  unfold foundT
  by_cases hp : foundB e = true
  case neg =>
    have hf : foundB e = false := by simpa using hp
    rw [if_neg hp]
    rw [hf] at VF
    clear hp hf
    go_enter Tryd.func11, Tryd.ntmps11
    go_wp2_with fail
    refine (VF.out _).mono ?_
    rintro e_ w1 ⟨rfl, hb1⟩
    go_wp2
    go_ret
    exact ⟨rfl, Below.trans (by go_grown) (hb1.mono (by simp))⟩
  case pos =>
    obtain ⟨h0, h1, h2, h3, h5, h7⟩ := foundB_parts hp
    rw [if_pos hp]
    rw [hp] at VF
    have TX := Lib.hid (fun W (hb : Below w.heap.size w W) => sectorTextF_any e h0 h1 h2 h3 h5 W (ht.below hb))
    have DX := Lib.hid (fun W (hb : Below w.heap.size w W) => decimal_any e.f7 (by omega) (by omega) W (ht.below hb))
    have zt := secT_size (st := e.f5) (de := e.f6) h0 h1 h2 h3
    have zd := decT_size (n := e.f7) (by omega) (by omega)
    clear h0 h1 h2 h3 h5 h7 hp hn ht
    generalize secT e.f0 e.f1 e.f2 e.f3 e.f5 e.f6 = t1 at *
    generalize decT e.f7 = t2 at *
    have g1 : (9223372036854775807 < t1.size + 4) = False := by simp; omega
    have g2 : (9223372036854775807 < t1.size + 4 + t2.size) = False := by simp; omega
    have KB := Lib.hid (BoxAt.new w #[.int .i64 e.f0, .int .i64 e.f1, .int .i64 e.f2, .int .i64 e.f3, .string e.f4, .int .i64 e.f5, .bool e.f6, .int .i64 e.f7] 32 w.heap.size rfl)
    go_enter Tryd.func11, Tryd.ntmps11
    go_wp2_with fail
    refine (VF.out _).mono ?_
    rintro e_ W ⟨rfl, hb1⟩
    replace KB := Lib.hid (KB.out.below hb1 (by simp))
    have F1 := Lib.hid (show Below w.heap.size w W from Below.trans (by go_grown) (hb1.mono (by simp)))
    have hlt : w.heap.size < W.heap.size := by have := hb1.size; simp at this; omega
    clear hb1
    go_wp2
    have KS := Lib.hid (fun w' (hb : Below W.heap.size W w') => (show w'.cell? ⟨w.heap.size, 0, none⟩ = some (.int .i64 e.f0) ∧ w'.cell? ⟨w.heap.size, 1, none⟩ = some (.int .i64 e.f1) ∧ w'.cell? ⟨w.heap.size, 2, none⟩ = some (.int .i64 e.f2) ∧ w'.cell? ⟨w.heap.size, 3, none⟩ = some (.int .i64 e.f3) ∧ w'.cell? ⟨w.heap.size, 4, none⟩ = some (.string e.f4) ∧ w'.cell? ⟨w.heap.size, 5, none⟩ = some (.int .i64 e.f5) ∧ w'.cell? ⟨w.heap.size, 6, none⟩ = some (.bool e.f6) ∧ w'.cell? ⟨w.heap.size, 7, none⟩ = some (.int .i64 e.f7) from ⟨(KB.out.below hb hlt) 0 _ rfl, (KB.out.below hb hlt) 1 _ rfl, (KB.out.below hb hlt) 2 _ rfl, (KB.out.below hb hlt) 3 _ rfl, (KB.out.below hb hlt) 4 _ rfl, (KB.out.below hb hlt) 5 _ rfl, (KB.out.below hb hlt) 6 _ rfl, (KB.out.below hb hlt) 7 _ rfl⟩))
    have HC := Lib.hid (show Below W.heap.size W W.drew from (Below.refl _ _).drew)
    refine wp_region_held_drew (S := (fun w' => w'.cell? ⟨w.heap.size, 0, none⟩ = some (.int .i64 e.f0) ∧ w'.cell? ⟨w.heap.size, 1, none⟩ = some (.int .i64 e.f1) ∧ w'.cell? ⟨w.heap.size, 2, none⟩ = some (.int .i64 e.f2) ∧ w'.cell? ⟨w.heap.size, 3, none⟩ = some (.int .i64 e.f3) ∧ w'.cell? ⟨w.heap.size, 4, none⟩ = some (.string e.f4) ∧ w'.cell? ⟨w.heap.size, 5, none⟩ = some (.int .i64 e.f5) ∧ w'.cell? ⟨w.heap.size, 6, none⟩ = some (.bool e.f6) ∧ w'.cell? ⟨w.heap.size, 7, none⟩ = some (.int .i64 e.f7))) (by kernel_rfl) (KS.out _ HC.out) (fun hHeld => ?_)
    refine wpAnyH_take (i := 0) (oi := { dst := some 6, op := Op.load 32 (Operand.tmp 1), type := 32, pos := "l09_reader.go:302", after := #[], guard := none }) (v := ?_) rfl (by kernel_rfl) (by kernel_rfl) (by kernel_rfl) (fun _ _ _ h => h) (Or.inl ⟨by rfl, ?hy⟩) hHeld ?_
    case hy => (intro w' hSw; (try dsimp only at hSw); go_simp; try with_reducible rfl)
    simp only [Act.put, List.setIfInBounds_toArray, List.set_cons_zero, List.set_cons_succ]
    refine wpAnyH_take (i := 1) (oi := { dst := some 7, op := Op.makeInterface 32 (Operand.tmp 6), type := 57, pos := "l09_reader.go:302", after := #[{ on := 0, ground := Ground.data }], guard := none }) (v := ?_) rfl (by kernel_rfl) (by kernel_rfl) (by kernel_rfl) (fun _ _ _ h => h) (Or.inl ⟨by rfl, ?hy⟩) hHeld ?_
    case hy => (intro w' hSw; (try dsimp only at hSw); go_simp; try with_reducible rfl)
    simp only [Act.put, List.setIfInBounds_toArray, List.set_cons_zero, List.set_cons_succ]
    refine wpAnyH_take (i := 4) (oi := { dst := some 10, op := Op.fieldAddr 32 (Operand.tmp 1) 7, type := 0, pos := "l09_reader.go:302", after := #[], guard := none }) (v := ?_) rfl (by kernel_rfl) (by kernel_rfl) (by kernel_rfl) (fun _ _ _ h => h) (Or.inl ⟨by rfl, ?hy⟩) hHeld ?_
    case hy => (intro w' hSw; (try dsimp only at hSw); go_simp; try with_reducible rfl)
    simp only [Act.put, List.setIfInBounds_toArray, List.set_cons_zero, List.set_cons_succ]
    refine wpAnyH_take (i := 5) (oi := { dst := some 11, op := Op.load 2 (Operand.tmp 10), type := 2, pos := "l09_reader.go:302", after := #[{ on := 4, ground := Ground.data }], guard := none }) (v := ?_) rfl (by kernel_rfl) (by kernel_rfl) (by kernel_rfl) (fun _ _ _ h => h) (Or.inl ⟨by rfl, ?hy⟩) hHeld ?_
    case hy => (intro w' hSw; (try dsimp only at hSw); go_simp; try with_reducible rfl)
    simp only [Act.put, List.setIfInBounds_toArray, List.set_cons_zero, List.set_cons_succ]
    refine wpAnyH_ready (rs := [2]) (by kernel_rfl) (by simp) ?_
    refine AllReadyH.cons (o := { dst := some 8, op := Op.call { callee := Callee.value (Operand.func 19), args := #[Operand.tmp 7], argTypes := #[57] }, type := 9, pos := "l09_reader.go:302", after := #[{ on := 1, ground := Ground.data }], guard := none }) rfl (fun K hK => ?_) AllReadyH.nil
    go_simp
    go_at_call 19; refine (TX.out _ (F1.out.trans (HC.out.mono F1.out.size))).mono ?_; rintro e wk1 ⟨rfl, hb1⟩; replace HC := Lib.hid (HC.out.trans (hb1.mono HC.out.size))
    go_wp2_with fail
    refine hK.out _ _ (KS.out _ HC.out) (fun hHeld => ?_)
    clear hK K
    try simp only [Act.put, List.setIfInBounds_toArray, List.set_cons_zero, List.set_cons_succ]
    refine wpAnyH_take (i := 3) (oi := { dst := some 9, op := Op.binOp BinOp.add 9 (Operand.tmp 8) (Operand.const (Value.string { data := #[32, 97, 116, 32] })) 9, type := 9, pos := "l09_reader.go:302", after := #[{ on := 2, ground := Ground.data }], guard := none }) (v := ?_) rfl (by kernel_rfl) (by kernel_rfl) (by kernel_rfl) (fun _ _ _ h => h) (Or.inl ⟨by rfl, ?hy⟩) hHeld ?_
    case hy => (intro w' hSw; (try dsimp only at hSw); go_simp; try with_reducible rfl)
    simp only [Act.put, List.setIfInBounds_toArray, List.set_cons_zero, List.set_cons_succ]
    refine wpAnyH_ready (rs := [6]) (by kernel_rfl) (by simp) ?_
    refine AllReadyH.cons (o := { dst := some 12, op := Op.call { callee := Callee.value (Operand.func 20), args := #[Operand.tmp 11], argTypes := #[2] }, type := 9, pos := "l09_reader.go:302", after := #[{ on := 5, ground := Ground.data }, { on := 2, ground := Ground.chain }], guard := none }) rfl (fun K hK => ?_) AllReadyH.nil
    go_simp
    go_at_call 20; refine (DX.out _ (F1.out.trans (HC.out.mono F1.out.size))).mono ?_; rintro e wk2 ⟨rfl, hb2⟩; replace HC := Lib.hid (HC.out.trans (hb2.mono HC.out.size))
    go_wp2_with fail
    refine hK.out _ _ (KS.out _ HC.out) (fun hHeld => ?_)
    clear hK K
    try simp only [Act.put, List.setIfInBounds_toArray, List.set_cons_zero, List.set_cons_succ]
    refine wpAnyH_take (i := 7) (oi := { dst := some 13, op := Op.binOp BinOp.add 9 (Operand.tmp 9) (Operand.tmp 12) 9, type := 9, pos := "l09_reader.go:302", after := #[{ on := 3, ground := Ground.data }, { on := 6, ground := Ground.data }], guard := none }) (v := ?_) rfl (by kernel_rfl) (by kernel_rfl) (by kernel_rfl) (fun _ _ _ h => h) (Or.inl ⟨by rfl, ?hy⟩) hHeld ?_
    case hy => (intro w' hSw; (try dsimp only at hSw); go_simp; try with_reducible rfl)
    simp only [Act.put, List.setIfInBounds_toArray, List.set_cons_zero, List.set_cons_succ]
    refine wpAnyH_take (i := 8) (oi := { dst := some 2, op := Op.assign (Operand.tmp 13), type := 9, pos := "l09_reader.go:302", after := #[{ on := 7, ground := Ground.data }, { on := 6, ground := Ground.chain }, { on := 0, ground := Ground.phase }, { on := 1, ground := Ground.phase }, { on := 2, ground := Ground.phase }, { on := 3, ground := Ground.phase }, { on := 4, ground := Ground.phase }, { on := 5, ground := Ground.phase }, { on := 6, ground := Ground.phase }, { on := 7, ground := Ground.phase }], guard := none }) (v := ?_) rfl (by kernel_rfl) (by kernel_rfl) (by kernel_rfl) (fun _ _ _ h => h) (Or.inl ⟨by rfl, ?hy⟩) hHeld ?_
    case hy => (intro w' hSw; (try dsimp only at hSw); go_simp; try with_reducible rfl)
    simp only [Act.put, List.setIfInBounds_toArray, List.set_cons_zero, List.set_cons_succ]
    refine wpAnyH_done (by kernel_rfl) ?_ _
    go_wp2
    go_ret
    exact ⟨rfl, F1.out.trans (HC.out.mono F1.out.size)⟩
end Go.Proofs.YtccjjlfjbandfaaDoor
