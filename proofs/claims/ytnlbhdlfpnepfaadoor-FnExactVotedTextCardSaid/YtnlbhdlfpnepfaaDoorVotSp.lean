/- spec.VotedText -/
import Derived.Test.YtnlbhdlfpnepfaaDoorVotTy
namespace Go.Proofs.YtnlbhdlfpnepfaaDoor
open Go.RowKit
set_option linter.unusedVariables false
set_option linter.unusedSimpArgs false
set_option maxRecDepth 20000
set_option maxHeartbeats 8000000 in
theorem specVotedText_g (e : VotedV) (a : Option Addr) (cp : Nat) (hm : e.f7.length ≤ 1048576) (hd : e.f4.size ≤ 1048576) (w : World) (hs9 : SlA w a e.f7) :
    Calls Tryd.prog 5 #[.agg #[.int .i64 e.f0, .int .i64 e.f1, .int .i64 e.f2, .int .i64 e.f3, .string e.f4, .int .i64 e.f5, .bool e.f6, .slice a e.f7.length cp, .int .i64 e.f8]] w fun x w' => x = .returned (.string (votedT e)) ∧ Below w.heap.size w w' := by
  have VF := Lib.hid (fun W (hb : Below w.heap.size w W) hp => l10Voted_any e a cp w.heap.size W hd hm hp (hs9.below hb (Nat.le_refl _)))
  have KB := Lib.hid (BoxAt.new w #[.int .i64 e.f0, .int .i64 e.f1, .int .i64 e.f2, .int .i64 e.f3, .string e.f4, .int .i64 e.f5, .bool e.f6, .slice a e.f7.length cp, .int .i64 e.f8] 27 w.heap.size rfl)
  unfold votedT
  by_cases hp : votedB e = true
  case neg =>
    have hf : votedB e = false := by simpa using hp
    rw [if_neg hp]
    rw [hf] at VF
    clear hp hf
    go_enter Tryd.func5, Tryd.ntmps5
    go_wp2_with fail
    refine (VF.out _ ((Below.refl _ _).alloc (Nat.le_refl _) _) KB.out).mono ?_
    rintro e_ w1 ⟨rfl, hb1⟩
    go_wp2
    go_ret
    exact ⟨rfl, Below.trans (show Below w.heap.size w _ from (Below.refl _ _).alloc (Nat.le_refl _) _) (hb1.mono (by simp))⟩
  case pos =>
    obtain ⟨h0, h1, h2, h3, h5, h7, hxs⟩ := votedB_parts hp
    rw [if_pos hp]
    rw [hp] at VF
    obtain ⟨c, hc⟩ : ∃ c : Nat, e.f0 = c := ⟨e.f0.toNat, by omega⟩
    obtain ⟨h, hh⟩ : ∃ h : Nat, e.f1 = h := ⟨e.f1.toNat, by omega⟩
    obtain ⟨n, hnn⟩ : ∃ n : Nat, e.f2 = n := ⟨e.f2.toNat, by omega⟩
    obtain ⟨z, hz⟩ : ∃ z : Nat, e.f3 = z := ⟨e.f3.toNat, by omega⟩
    obtain ⟨s, hs⟩ : ∃ s : Nat, e.f5 = s := ⟨e.f5.toNat, by omega⟩
    obtain ⟨q, hq7⟩ : ∃ q : Nat, e.f8 = q := ⟨e.f8.toNat, by omega⟩
    obtain ⟨st, hst⟩ : ∃ st, vstStrings[s]? = some st := ⟨_, List.getElem?_eq_getElem (show s < vstStrings.length by simp [vstStrings]; omega)⟩
    have zst := vstStrings_size st (List.mem_of_getElem? hst)
    have hS : vstT e.f5 = st := by unfold vstT; rw [hs]; simp [hst]
    unfold vsecT addrT
    rw [hS]
    rw [hc, hh, hnn, hz, hs] at KB
    rw [hq7] at KB
    rw [hc, hh, hnn, hz, hs, hq7]
    have D0 := Lib.hid (fun w => l09Dec_any c (by omega) w)
    have D1 := Lib.hid (fun w => l09Dec_any h (by omega) w)
    have D2 := Lib.hid (fun w => l09Dec_any n (by omega) w)
    have D3 := Lib.hid (fun w => l09Dec_any z (by omega) w)
    have D7 := Lib.hid (fun w => l09Dec_any q (by omega) w)
    have s0 := decT_size (n := (c : Int)) (by omega) (by omega)
    have s1 := decT_size (n := (h : Int)) (by omega) (by omega)
    have s2 := decT_size (n := (n : Int)) (by omega) (by omega)
    have s3 := decT_size (n := (z : Int)) (by omega) (by omega)
    have s7 := decT_size (n := (q : Int)) (by omega) (by omega)
    have hs6 : (s : Int) < 6 := by omega
    have HST := Lib.hid hst
    clear hp h0 h1 h2 h3 h5 h7 hst hS hd
    generalize decT (c : Int) = t0 at *
    generalize decT (h : Int) = t1 at *
    generalize decT (n : Int) = t2 at *
    generalize decT (z : Int) = t3 at *
    generalize decT (q : Int) = t7 at *
    obtain ⟨de, hde⟩ : ∃ de, e.f6 = de := ⟨_, rfl⟩
    obtain ⟨dt, hdt⟩ : ∃ dt, e.f4 = dt := ⟨_, rfl⟩
    rw [hde, hdt] at KB
    rw [hde, hdt]
    have VG := Lib.hid (fun W (hb : Below w.heap.size w W) (hp : BoxAt W w.heap.size #[.int .i64 (c : Int), .int .i64 (h : Int), .int .i64 (n : Int), .int .i64 (z : Int), .string dt, .int .i64 (s : Int), .bool de, .slice a e.f7.length cp, .int .i64 (q : Int)]) => VF.out W hb (by rw [hc, hh, hnn, hz, hs, hq7, hde, hdt]; exact hp))
    clear VF hde hdt hc hh hnn hz hs hq7
    have g1 : (9223372036854775807 < t0.size + 1) = False := by simp; omega
    have g2 : (9223372036854775807 < t0.size + 1 + t1.size) = False := by simp; omega
    have g3 : (9223372036854775807 < t0.size + 1 + t1.size + 1) = False := by simp; omega
    have g4 : (9223372036854775807 < t0.size + 1 + t1.size + 1 + t2.size) = False := by simp; omega
    have g5 : (9223372036854775807 < t0.size + 1 + t1.size + 1 + t2.size + 1) = False := by simp; omega
    have g6 : (9223372036854775807 < t0.size + 1 + t1.size + 1 + t2.size + 1 + t3.size) = False := by simp; omega
    have g7 : (9223372036854775807 < t0.size + 1 + t1.size + 1 + t2.size + 1 + t3.size + 1) = False := by simp; omega
    have g8 : (9223372036854775807 < t0.size + 1 + t1.size + 1 + t2.size + 1 + t3.size + 1 + st.size) = False := by simp; omega
    obtain ⟨txt, htxt⟩ : ∃ txt : ByteArray, txt = t0 ++ ⟨#[47]⟩ ++ t1 ++ ⟨#[47]⟩ ++ t2 ++ ⟨#[32]⟩ ++ t3 ++ ⟨#[32]⟩ ++ st := ⟨_, rfl⟩
    have ztx : txt.size ≤ 40 := by
      rw [htxt]
      have e47 : (⟨#[47]⟩ : ByteArray).size = 1 := rfl
      have e32 : (⟨#[32]⟩ : ByteArray).size = 1 := rfl
      repeat rw [ByteArray.size_append]
      rw [e47, e32]
      omega
    have HTX := Lib.hid htxt
    have G := Lib.hid (And.intro g1 (And.intro g2 (And.intro g3 (And.intro g4 (And.intro g5 (And.intro g6 (And.intro g7 g8)))))))
    clear g1 g2 g3 g4 g5 g6 g7 g8
    rw [← htxt]
    clear htxt
    obtain ⟨dx, hdx⟩ : ∃ dx : ByteArray, dx = (if de = true then (⟨#[32, 100, 101, 108, 101, 116, 101, 100]⟩ : ByteArray) else ⟨#[]⟩) := ⟨_, rfl⟩
    have zdx : dx.size ≤ 8 := by rw [hdx]; cases de <;> decide
    have HDX := Lib.hid hdx
    rw [← hdx]
    clear hdx
    obtain ⟨base, hbase⟩ : ∃ base : ByteArray, base = txt ++ dx ++ ⟨#[32, 118, 111, 116, 101, 115, 32]⟩ ++ t7 := ⟨_, rfl⟩
    have zbase : base.size ≤ 100 := by
      rw [hbase]
      have e7 : (⟨#[32, 118, 111, 116, 101, 115, 32]⟩ : ByteArray).size = 7 := rfl
      repeat rw [ByteArray.size_append]
      rw [e7]
      omega
    rw [← hbase]
    have HB := Lib.hid hbase
    have HB2 := Lib.hid (show txt ++ dx ++ (⟨#[32, 118, 111, 116, 101, 115, 32]⟩ ++ t7) = base by rw [hbase]; apply ba_ext; simp [ByteArray.data_append])
    clear hbase
    go_enter Tryd.func5, Tryd.ntmps5
    go_wp2_with fail
    refine (VG.out _ ((Below.refl _ _).alloc (Nat.le_refl _) _) KB.out).mono ?_
    rintro e_ w1 ⟨rfl, hb1⟩
    replace KB := Lib.hid (KB.out.below hb1 (by simp))
    have F1 := Lib.hid (show Below w.heap.size w w1 from Below.trans (show Below w.heap.size w _ from (Below.refl _ _).alloc (Nat.le_refl _) _) (hb1.mono (by simp)))
    have hlt1 : w.heap.size < w1.heap.size := by have := hb1.size; simp at this; omega
    clear hb1 VG
    go_wp2
    have HWD := Lib.hid (show (w1.alloc (.cells #[.string ⟨#[]⟩, .string ⟨#[103, 111, 111, 100]⟩, .string ⟨#[]⟩, .string ⟨#[98, 97, 100, 45, 100, 97, 116, 97]⟩, .string ⟨#[110, 111, 45, 100, 97, 116, 97]⟩, .string ⟨#[119, 101, 97, 107]⟩] 9)).cell? ⟨w1.heap.size, s, none⟩ = some (.string st) by
      show (w1.alloc (.cells (vstStrings.map Value.string).toArray 9)).cell? ⟨w1.heap.size, s, none⟩ = some (.string st)
      simp only [World.cell?, heap_alloc_new]
      simp [HST.out])
    replace KB := Lib.hid (KB.out.below ((Below.refl w1.heap.size w1).alloc (Nat.le_refl _) (.cells #[.string ⟨#[]⟩, .string ⟨#[103, 111, 111, 100]⟩, .string ⟨#[]⟩, .string ⟨#[98, 97, 100, 45, 100, 97, 116, 97]⟩, .string ⟨#[110, 111, 45, 100, 97, 116, 97]⟩, .string ⟨#[119, 101, 97, 107]⟩] 9)) hlt1)
    replace F1 := Lib.hid (F1.out.alloc F1.out.size (.cells #[.string ⟨#[]⟩, .string ⟨#[103, 111, 111, 100]⟩, .string ⟨#[]⟩, .string ⟨#[98, 97, 100, 45, 100, 97, 116, 97]⟩, .string ⟨#[110, 111, 45, 100, 97, 116, 97]⟩, .string ⟨#[119, 101, 97, 107]⟩] 9))
    have hlt : w.heap.size < (w1.alloc (.cells #[.string ⟨#[]⟩, .string ⟨#[103, 111, 111, 100]⟩, .string ⟨#[]⟩, .string ⟨#[98, 97, 100, 45, 100, 97, 116, 97]⟩, .string ⟨#[110, 111, 45, 100, 97, 116, 97]⟩, .string ⟨#[119, 101, 97, 107]⟩] 9)).heap.size := by simp; omega
    have hltw : w1.heap.size < (w1.alloc (.cells #[.string ⟨#[]⟩, .string ⟨#[103, 111, 111, 100]⟩, .string ⟨#[]⟩, .string ⟨#[98, 97, 100, 45, 100, 97, 116, 97]⟩, .string ⟨#[110, 111, 45, 100, 97, 116, 97]⟩, .string ⟨#[119, 101, 97, 107]⟩] 9)).heap.size := by simp
    generalize (w1.alloc (.cells #[.string ⟨#[]⟩, .string ⟨#[103, 111, 111, 100]⟩, .string ⟨#[]⟩, .string ⟨#[98, 97, 100, 45, 100, 97, 116, 97]⟩, .string ⟨#[110, 111, 45, 100, 97, 116, 97]⟩, .string ⟨#[119, 101, 97, 107]⟩] 9)) = W at KB F1 hlt hltw HWD ⊢
    generalize w1.heap.size = gw at HWD hltw ⊢
    obtain ⟨g1, g2, g3, g4, g5, g6, g7, g8⟩ := G.out
    have KS := Lib.hid (fun w' (hb : Below W.heap.size W w') => (show w'.cell? ⟨w.heap.size, 0, none⟩ = some (.int .i64 (c : Int)) ∧ w'.cell? ⟨w.heap.size, 1, none⟩ = some (.int .i64 (h : Int)) ∧ w'.cell? ⟨w.heap.size, 2, none⟩ = some (.int .i64 (n : Int)) ∧ w'.cell? ⟨w.heap.size, 3, none⟩ = some (.int .i64 (z : Int)) ∧ w'.cell? ⟨w.heap.size, 5, none⟩ = some (.int .i64 (s : Int)) ∧ w'.cell? ⟨gw, s, none⟩ = some (.string st) from
      ⟨(KB.out.below hb hlt) 0 _ rfl, (KB.out.below hb hlt) 1 _ rfl, (KB.out.below hb hlt) 2 _ rfl, (KB.out.below hb hlt) 3 _ rfl, (KB.out.below hb hlt) 5 _ rfl, by rw [hb.cell (p := ⟨gw, s, none⟩) hltw]; exact HWD.out⟩))
    have HC := Lib.hid (show Below W.heap.size W W.drew from (Below.refl _ _).drew)
    refine wp_region_held_drew (S := (fun w' => w'.cell? ⟨w.heap.size, 0, none⟩ = some (.int .i64 (c : Int)) ∧ w'.cell? ⟨w.heap.size, 1, none⟩ = some (.int .i64 (h : Int)) ∧ w'.cell? ⟨w.heap.size, 2, none⟩ = some (.int .i64 (n : Int)) ∧ w'.cell? ⟨w.heap.size, 3, none⟩ = some (.int .i64 (z : Int)) ∧ w'.cell? ⟨w.heap.size, 5, none⟩ = some (.int .i64 (s : Int)) ∧ w'.cell? ⟨gw, s, none⟩ = some (.string st))) (by kernel_rfl) (KS.out _ HC.out) (fun hHeld => ?_)
    refine wpAnyH_take (i := 0) (oi := { dst := some 9, op := Op.fieldAddr 27 (Operand.tmp 1) 0, type := 0, pos := "l10_revolutions.go:329", after := #[], guard := none }) (v := ?_) rfl (by kernel_rfl) (by kernel_rfl) (by kernel_rfl) (fun _ _ _ h => h) (Or.inl ⟨by rfl, ?hy⟩) hHeld ?_
    case hy => (intro w' hSw; (try dsimp only at hSw); go_simp; try with_reducible rfl)
    simp only [Act.put, List.setIfInBounds_toArray, List.set_cons_zero, List.set_cons_succ]
    refine wpAnyH_take (i := 1) (oi := { dst := some 10, op := Op.load 2 (Operand.tmp 9), type := 2, pos := "l10_revolutions.go:329", after := #[{ on := 0, ground := Ground.data }], guard := none }) (v := ?_) rfl (by kernel_rfl) (by kernel_rfl) (by kernel_rfl) (fun _ _ _ h => h) (Or.inl ⟨by rfl, ?hy⟩) hHeld ?_
    case hy => (intro w' hSw; (try dsimp only at hSw); go_simp; try with_reducible rfl)
    simp only [Act.put, List.setIfInBounds_toArray, List.set_cons_zero, List.set_cons_succ]
    refine wpAnyH_take (i := 4) (oi := { dst := some 13, op := Op.fieldAddr 27 (Operand.tmp 1) 1, type := 0, pos := "l10_revolutions.go:329", after := #[], guard := none }) (v := ?_) rfl (by kernel_rfl) (by kernel_rfl) (by kernel_rfl) (fun _ _ _ h => h) (Or.inl ⟨by rfl, ?hy⟩) hHeld ?_
    case hy => (intro w' hSw; (try dsimp only at hSw); go_simp; try with_reducible rfl)
    simp only [Act.put, List.setIfInBounds_toArray, List.set_cons_zero, List.set_cons_succ]
    refine wpAnyH_take (i := 5) (oi := { dst := some 14, op := Op.load 2 (Operand.tmp 13), type := 2, pos := "l10_revolutions.go:329", after := #[{ on := 4, ground := Ground.data }], guard := none }) (v := ?_) rfl (by kernel_rfl) (by kernel_rfl) (by kernel_rfl) (fun _ _ _ h => h) (Or.inl ⟨by rfl, ?hy⟩) hHeld ?_
    case hy => (intro w' hSw; (try dsimp only at hSw); go_simp; try with_reducible rfl)
    simp only [Act.put, List.setIfInBounds_toArray, List.set_cons_zero, List.set_cons_succ]
    refine wpAnyH_take (i := 9) (oi := { dst := some 18, op := Op.fieldAddr 27 (Operand.tmp 1) 2, type := 0, pos := "l10_revolutions.go:329", after := #[], guard := none }) (v := ?_) rfl (by kernel_rfl) (by kernel_rfl) (by kernel_rfl) (fun _ _ _ h => h) (Or.inl ⟨by rfl, ?hy⟩) hHeld ?_
    case hy => (intro w' hSw; (try dsimp only at hSw); go_simp; try with_reducible rfl)
    simp only [Act.put, List.setIfInBounds_toArray, List.set_cons_zero, List.set_cons_succ]
    refine wpAnyH_take (i := 10) (oi := { dst := some 19, op := Op.load 2 (Operand.tmp 18), type := 2, pos := "l10_revolutions.go:329", after := #[{ on := 9, ground := Ground.data }], guard := none }) (v := ?_) rfl (by kernel_rfl) (by kernel_rfl) (by kernel_rfl) (fun _ _ _ h => h) (Or.inl ⟨by rfl, ?hy⟩) hHeld ?_
    case hy => (intro w' hSw; (try dsimp only at hSw); go_simp; try with_reducible rfl)
    simp only [Act.put, List.setIfInBounds_toArray, List.set_cons_zero, List.set_cons_succ]
    refine wpAnyH_take (i := 14) (oi := { dst := some 23, op := Op.fieldAddr 27 (Operand.tmp 1) 3, type := 0, pos := "l10_revolutions.go:329", after := #[], guard := none }) (v := ?_) rfl (by kernel_rfl) (by kernel_rfl) (by kernel_rfl) (fun _ _ _ h => h) (Or.inl ⟨by rfl, ?hy⟩) hHeld ?_
    case hy => (intro w' hSw; (try dsimp only at hSw); go_simp; try with_reducible rfl)
    simp only [Act.put, List.setIfInBounds_toArray, List.set_cons_zero, List.set_cons_succ]
    refine wpAnyH_take (i := 15) (oi := { dst := some 24, op := Op.load 2 (Operand.tmp 23), type := 2, pos := "l10_revolutions.go:329", after := #[{ on := 14, ground := Ground.data }], guard := none }) (v := ?_) rfl (by kernel_rfl) (by kernel_rfl) (by kernel_rfl) (fun _ _ _ h => h) (Or.inl ⟨by rfl, ?hy⟩) hHeld ?_
    case hy => (intro w' hSw; (try dsimp only at hSw); go_simp; try with_reducible rfl)
    simp only [Act.put, List.setIfInBounds_toArray, List.set_cons_zero, List.set_cons_succ]
    refine wpAnyH_take (i := 19) (oi := { dst := some 28, op := Op.move (Operand.tmp 3), type := 34, pos := "l10_revolutions.go:329", after := #[], guard := none }) (v := ?_) rfl (by kernel_rfl) (by kernel_rfl) (by kernel_rfl) (fun _ _ _ h => h) (Or.inl ⟨by rfl, ?hy⟩) hHeld ?_
    case hy => (intro w' hSw; (try dsimp only at hSw); go_simp; try with_reducible rfl)
    simp only [Act.put, List.setIfInBounds_toArray, List.set_cons_zero, List.set_cons_succ]
    refine wpAnyH_take (i := 20) (oi := { dst := some 29, op := Op.fieldAddr 27 (Operand.tmp 1) 5, type := 0, pos := "l10_revolutions.go:329", after := #[], guard := none }) (v := ?_) rfl (by kernel_rfl) (by kernel_rfl) (by kernel_rfl) (fun _ _ _ h => h) (Or.inl ⟨by rfl, ?hy⟩) hHeld ?_
    case hy => (intro w' hSw; (try dsimp only at hSw); go_simp; try with_reducible rfl)
    simp only [Act.put, List.setIfInBounds_toArray, List.set_cons_zero, List.set_cons_succ]
    refine wpAnyH_take (i := 21) (oi := { dst := some 30, op := Op.load 2 (Operand.tmp 29), type := 2, pos := "l10_revolutions.go:329", after := #[{ on := 20, ground := Ground.data }], guard := none }) (v := ?_) rfl (by kernel_rfl) (by kernel_rfl) (by kernel_rfl) (fun _ _ _ h => h) (Or.inl ⟨by rfl, ?hy⟩) hHeld ?_
    case hy => (intro w' hSw; (try dsimp only at hSw); go_simp; try with_reducible rfl)
    simp only [Act.put, List.setIfInBounds_toArray, List.set_cons_zero, List.set_cons_succ]
    refine wpAnyH_take (i := 22) (oi := { dst := some 31, op := Op.indexAddr 34 (Operand.tmp 28) (Operand.tmp 30), type := 0, pos := "l10_revolutions.go:329", after := #[{ on := 19, ground := Ground.data }, { on := 21, ground := Ground.data }], guard := none }) (v := ?_) rfl (by kernel_rfl) (by kernel_rfl) (by kernel_rfl) (fun _ _ _ h => h) (Or.inl ⟨by rfl, ?hy⟩) hHeld ?_
    case hy => (intro w' hSw; (try dsimp only at hSw); go_simp; try with_reducible rfl)
    simp only [Act.put, List.setIfInBounds_toArray, List.set_cons_zero, List.set_cons_succ]
    refine wpAnyH_take (i := 23) (oi := { dst := some 32, op := Op.load 9 (Operand.tmp 31), type := 9, pos := "l10_revolutions.go:329", after := #[{ on := 22, ground := Ground.data }], guard := none }) (v := ?_) rfl (by kernel_rfl) (by kernel_rfl) (by kernel_rfl) (fun _ _ _ h => h) (Or.inl ⟨by rfl, ?hy⟩) hHeld ?_
    case hy => (intro w' hSw; (try dsimp only at hSw); go_simp; try with_reducible rfl)
    simp only [Act.put, List.setIfInBounds_toArray, List.set_cons_zero, List.set_cons_succ]
    refine wpAnyH_ready (rs := [2]) (by kernel_rfl) (by simp) ?_
    refine AllReadyH.cons (o := { dst := some 11, op := Op.call { callee := Callee.value (Operand.func 11), args := #[Operand.tmp 10], argTypes := #[2] }, type := 9, pos := "l10_revolutions.go:329", after := #[{ on := 1, ground := Ground.data }], guard := none }) rfl (fun K hK => ?_) AllReadyH.nil
    go_simp
    go_at_call 11; refine (D0.out _).mono ?_; rintro e wk1 ⟨rfl, hb1⟩; replace HC := Lib.hid (HC.out.trans (hb1.mono HC.out.size))
    go_wp2_with fail
    refine hK.out _ _ (KS.out _ HC.out) (fun hHeld => ?_)
    clear hK K
    try simp only [Act.put, List.setIfInBounds_toArray, List.set_cons_zero, List.set_cons_succ]
    refine wpAnyH_take (i := 3) (oi := { dst := some 12, op := Op.binOp BinOp.add 9 (Operand.tmp 11) (Operand.const (Value.string { data := #[47] })) 9, type := 9, pos := "l10_revolutions.go:329", after := #[{ on := 2, ground := Ground.data }], guard := none }) (v := ?_) rfl (by kernel_rfl) (by kernel_rfl) (by kernel_rfl) (fun _ _ _ h => h) (Or.inl ⟨by rfl, ?hy⟩) hHeld ?_
    case hy => (intro w' hSw; (try dsimp only at hSw); go_simp; try with_reducible rfl)
    simp only [Act.put, List.setIfInBounds_toArray, List.set_cons_zero, List.set_cons_succ]
    refine wpAnyH_ready (rs := [6]) (by kernel_rfl) (by simp) ?_
    refine AllReadyH.cons (o := { dst := some 15, op := Op.call { callee := Callee.value (Operand.func 11), args := #[Operand.tmp 14], argTypes := #[2] }, type := 9, pos := "l10_revolutions.go:329", after := #[{ on := 5, ground := Ground.data }, { on := 2, ground := Ground.chain }], guard := none }) rfl (fun K hK => ?_) AllReadyH.nil
    go_simp
    go_at_call 11; refine (D1.out _).mono ?_; rintro e wk2 ⟨rfl, hb2⟩; replace HC := Lib.hid (HC.out.trans (hb2.mono HC.out.size))
    go_wp2_with fail
    refine hK.out _ _ (KS.out _ HC.out) (fun hHeld => ?_)
    clear hK K
    try simp only [Act.put, List.setIfInBounds_toArray, List.set_cons_zero, List.set_cons_succ]
    refine wpAnyH_take (i := 7) (oi := { dst := some 16, op := Op.binOp BinOp.add 9 (Operand.tmp 12) (Operand.tmp 15) 9, type := 9, pos := "l10_revolutions.go:329", after := #[{ on := 3, ground := Ground.data }, { on := 6, ground := Ground.data }], guard := none }) (v := ?_) rfl (by kernel_rfl) (by kernel_rfl) (by kernel_rfl) (fun _ _ _ h => h) (Or.inl ⟨by rfl, ?hy⟩) hHeld ?_
    case hy => (intro w' hSw; (try dsimp only at hSw); go_simp; try with_reducible rfl)
    simp only [Act.put, List.setIfInBounds_toArray, List.set_cons_zero, List.set_cons_succ]
    refine wpAnyH_take (i := 8) (oi := { dst := some 17, op := Op.binOp BinOp.add 9 (Operand.tmp 16) (Operand.const (Value.string { data := #[47] })) 9, type := 9, pos := "l10_revolutions.go:329", after := #[{ on := 7, ground := Ground.data }], guard := none }) (v := ?_) rfl (by kernel_rfl) (by kernel_rfl) (by kernel_rfl) (fun _ _ _ h => h) (Or.inl ⟨by rfl, ?hy⟩) hHeld ?_
    case hy => (intro w' hSw; (try dsimp only at hSw); go_simp; try with_reducible rfl)
    simp only [Act.put, List.setIfInBounds_toArray, List.set_cons_zero, List.set_cons_succ]
    refine wpAnyH_ready (rs := [11]) (by kernel_rfl) (by simp) ?_
    refine AllReadyH.cons (o := { dst := some 20, op := Op.call { callee := Callee.value (Operand.func 11), args := #[Operand.tmp 19], argTypes := #[2] }, type := 9, pos := "l10_revolutions.go:329", after := #[{ on := 10, ground := Ground.data }, { on := 6, ground := Ground.chain }], guard := none }) rfl (fun K hK => ?_) AllReadyH.nil
    go_simp
    go_at_call 11; refine (D2.out _).mono ?_; rintro e wk3 ⟨rfl, hb3⟩; replace HC := Lib.hid (HC.out.trans (hb3.mono HC.out.size))
    go_wp2_with fail
    refine hK.out _ _ (KS.out _ HC.out) (fun hHeld => ?_)
    clear hK K
    try simp only [Act.put, List.setIfInBounds_toArray, List.set_cons_zero, List.set_cons_succ]
    refine wpAnyH_take (i := 12) (oi := { dst := some 21, op := Op.binOp BinOp.add 9 (Operand.tmp 17) (Operand.tmp 20) 9, type := 9, pos := "l10_revolutions.go:329", after := #[{ on := 8, ground := Ground.data }, { on := 11, ground := Ground.data }], guard := none }) (v := ?_) rfl (by kernel_rfl) (by kernel_rfl) (by kernel_rfl) (fun _ _ _ h => h) (Or.inl ⟨by rfl, ?hy⟩) hHeld ?_
    case hy => (intro w' hSw; (try dsimp only at hSw); go_simp; try with_reducible rfl)
    simp only [Act.put, List.setIfInBounds_toArray, List.set_cons_zero, List.set_cons_succ]
    refine wpAnyH_take (i := 13) (oi := { dst := some 22, op := Op.binOp BinOp.add 9 (Operand.tmp 21) (Operand.const (Value.string { data := #[32] })) 9, type := 9, pos := "l10_revolutions.go:329", after := #[{ on := 12, ground := Ground.data }], guard := none }) (v := ?_) rfl (by kernel_rfl) (by kernel_rfl) (by kernel_rfl) (fun _ _ _ h => h) (Or.inl ⟨by rfl, ?hy⟩) hHeld ?_
    case hy => (intro w' hSw; (try dsimp only at hSw); go_simp; try with_reducible rfl)
    simp only [Act.put, List.setIfInBounds_toArray, List.set_cons_zero, List.set_cons_succ]
    refine wpAnyH_ready (rs := [16]) (by kernel_rfl) (by simp) ?_
    refine AllReadyH.cons (o := { dst := some 25, op := Op.call { callee := Callee.value (Operand.func 11), args := #[Operand.tmp 24], argTypes := #[2] }, type := 9, pos := "l10_revolutions.go:329", after := #[{ on := 15, ground := Ground.data }, { on := 11, ground := Ground.chain }], guard := none }) rfl (fun K hK => ?_) AllReadyH.nil
    go_simp
    go_at_call 11; refine (D3.out _).mono ?_; rintro e wk4 ⟨rfl, hb4⟩; replace HC := Lib.hid (HC.out.trans (hb4.mono HC.out.size))
    go_wp2_with fail
    refine hK.out _ _ (KS.out _ HC.out) (fun hHeld => ?_)
    clear hK K
    try simp only [Act.put, List.setIfInBounds_toArray, List.set_cons_zero, List.set_cons_succ]
    refine wpAnyH_take (i := 17) (oi := { dst := some 26, op := Op.binOp BinOp.add 9 (Operand.tmp 22) (Operand.tmp 25) 9, type := 9, pos := "l10_revolutions.go:329", after := #[{ on := 13, ground := Ground.data }, { on := 16, ground := Ground.data }], guard := none }) (v := ?_) rfl (by kernel_rfl) (by kernel_rfl) (by kernel_rfl) (fun _ _ _ h => h) (Or.inl ⟨by rfl, ?hy⟩) hHeld ?_
    case hy => (intro w' hSw; (try dsimp only at hSw); go_simp; try with_reducible rfl)
    simp only [Act.put, List.setIfInBounds_toArray, List.set_cons_zero, List.set_cons_succ]
    refine wpAnyH_take (i := 18) (oi := { dst := some 27, op := Op.binOp BinOp.add 9 (Operand.tmp 26) (Operand.const (Value.string { data := #[32] })) 9, type := 9, pos := "l10_revolutions.go:329", after := #[{ on := 17, ground := Ground.data }], guard := none }) (v := ?_) rfl (by kernel_rfl) (by kernel_rfl) (by kernel_rfl) (fun _ _ _ h => h) (Or.inl ⟨by rfl, ?hy⟩) hHeld ?_
    case hy => (intro w' hSw; (try dsimp only at hSw); go_simp; try with_reducible rfl)
    simp only [Act.put, List.setIfInBounds_toArray, List.set_cons_zero, List.set_cons_succ]
    refine wpAnyH_take (i := 24) (oi := { dst := some 33, op := Op.binOp BinOp.add 9 (Operand.tmp 27) (Operand.tmp 32) 9, type := 9, pos := "l10_revolutions.go:329", after := #[{ on := 18, ground := Ground.data }, { on := 23, ground := Ground.data }], guard := none }) (v := ?_) rfl (by kernel_rfl) (by kernel_rfl) (by kernel_rfl) (fun _ _ _ h => h) (Or.inl ⟨by rfl, ?hy⟩) hHeld ?_
    case hy => (intro w' hSw; (try dsimp only at hSw); go_simp; try with_reducible rfl)
    simp only [Act.put, List.setIfInBounds_toArray, List.set_cons_zero, List.set_cons_succ]
    refine wpAnyH_take (i := 25) (oi := { dst := some 4, op := Op.assign (Operand.tmp 33), type := 9, pos := "l10_revolutions.go:329", after := #[{ on := 24, ground := Ground.data }, { on := 16, ground := Ground.chain }, { on := 0, ground := Ground.phase }, { on := 1, ground := Ground.phase }, { on := 2, ground := Ground.phase }, { on := 3, ground := Ground.phase }, { on := 4, ground := Ground.phase }, { on := 5, ground := Ground.phase }, { on := 6, ground := Ground.phase }, { on := 7, ground := Ground.phase }, { on := 8, ground := Ground.phase }, { on := 9, ground := Ground.phase }, { on := 10, ground := Ground.phase }, { on := 11, ground := Ground.phase }, { on := 12, ground := Ground.phase }, { on := 13, ground := Ground.phase }, { on := 14, ground := Ground.phase }, { on := 15, ground := Ground.phase }, { on := 16, ground := Ground.phase }, { on := 17, ground := Ground.phase }, { on := 18, ground := Ground.phase }, { on := 19, ground := Ground.phase }, { on := 20, ground := Ground.phase }, { on := 21, ground := Ground.phase }, { on := 22, ground := Ground.phase }, { on := 23, ground := Ground.phase }, { on := 24, ground := Ground.phase }], guard := none }) (v := ?_) rfl (by kernel_rfl) (by kernel_rfl) (by kernel_rfl) (fun _ _ _ h => h) (Or.inl ⟨by rfl, ?hy⟩) hHeld ?_
    case hy => (intro w' hSw; (try dsimp only at hSw); go_simp; try with_reducible rfl)
    simp only [Act.put, List.setIfInBounds_toArray, List.set_cons_zero, List.set_cons_succ]
    refine wpAnyH_done (by kernel_rfl) ?_ _
    clear g1 g2 g3 g4 g5 g6 g7 g8
    rw [← HTX.out]
    have KE := Lib.hid (fun W' (hb : Below W.heap.size W W') => KB.out.below hb hlt)
    have F2 := Lib.hid (F1.out.trans (HC.out.mono F1.out.size))
    have HS9 := Lib.hid (fun W' (hb : Below W.heap.size W W') => SlA.below hs9 (F1.out.trans (hb.mono F1.out.size)) (Nat.le_refl _))
    have c6 := (KE.out _ HC.out) 6 _ rfl
    have c8 := (KE.out _ HC.out) 8 _ rfl
    have e1 : (9223372036854775807 < txt.size + 8) = False := by simp; omega
    have e2 : (9223372036854775807 < 7 + t7.size) = False := by simp; omega
    have e3 : (9223372036854775807 < txt.size + 8 + (7 + t7.size)) = False := by simp; omega
    have e4 : (9223372036854775807 < txt.size + (7 + t7.size)) = False := by simp; omega
    cases de
    all_goals
      go_wp2_with fail
      refine (D7.out _).mono ?_
      rintro e_ w9 ⟨rfl, hb9⟩
      replace HC := Lib.hid (HC.out.trans (hb9.mono HC.out.size))
      clear hb9 c6 c8 F2
      go_wp2
      first
        | rw [show txt ++ (⟨#[32, 100, 101, 108, 101, 116, 101, 100]⟩ : ByteArray) ++ (⟨#[32, 118, 111, 116, 101, 115, 32]⟩ ++ t7) = base from by rw [← HB2.out, HDX.out]; rfl]
        | rw [show txt ++ (⟨#[32, 118, 111, 116, 101, 115, 32]⟩ ++ t7) = base from by rw [← HB2.out, HDX.out, show (if false = true then (⟨#[32, 100, 101, 108, 101, 116, 101, 100]⟩ : ByteArray) else ⟨#[]⟩) = ⟨#[]⟩ from rfl, app_nil]]
      clear e1 e2 e3 e4
      go_loopw [4, 5] (fun o i wr => ∃ k : Nat, k ≤ e.f7.length ∧ i = .int .i64 k ∧ (∃ l : ByteArray, o = .string l ∧ Hid (l = base ++ ⟨(weakK e.f7 k).toArray⟩)) ∧ Below W.heap.size W wr) (fun _ i _ => e.f7.length - (intOf i).toNat)
      case atStart => exact ⟨0, Nat.zero_le _, rfl, ⟨base, rfl, by unfold Hid; unfold weakK; rw [if_pos rfl]; exact (app_nil base).symm⟩, HC.out⟩
      case round =>
        obtain ⟨k, hk, rfl, ⟨l, rfl, hl⟩, hbr⟩ := hrel
        have hszl : l.size ≤ 200 + 6 * k := by
          rw [hl.out, ByteArray.size_append]
          have := joinK_len hxs k
          have e : (⟨(weakK e.f7 k).toArray⟩ : ByteArray).size ≤ 6 + 6 * k := by
            show (weakK e.f7 k).toArray.size ≤ _
            unfold weakK
            split
            · simp
            · simp; omega
          omega
        have c7 := (KE.out _ hbr) 7 _ rfl
        by_cases hlt9 : k < e.f7.length
        · obtain ⟨x, hxk⟩ := getOf hlt9
          obtain ⟨b, off, rfl, cx⟩ := (HS9.out _ hbr).cell hxk
          have hx := hxs x (List.mem_of_getElem? hxk)
          obtain ⟨y, rfl⟩ : ∃ y : Nat, x = y := ⟨x.toNat, by omega⟩
          have DY := Lib.hid (fun w => l09Dec_any y (by omega) w)
          have zy := decT_size (n := (y : Int)) (by omega) (by omega)
          have HXK := Lib.hid hxk
          have HBR := Lib.hid hbr
          clear hxk hbr
          by_cases hk0 : k = 0
          · subst hk0
            have cx0 : wr.cell? ⟨b, off, none⟩ = some (.int .i64 (y : Int)) := cx
            have HN := Lib.hid (show l ++ ⟨#[32, 119, 101, 97, 107]⟩ ++ (⟨#[32]⟩ ++ decT (y : Int)) = base ++ ⟨(weakK e.f7 1).toArray⟩ by
              rw [hl.out]
              unfold weakK
              rw [if_pos rfl, if_neg (by omega), joinK_one HXK.out]
              apply ba_ext
              simp [ByteArray.data_append])
            clear hx
            generalize decT (y : Int) = ty at *
            have e1 : (9223372036854775807 < l.size + 5) = False := by simp; omega
            have e2 : (9223372036854775807 < 1 + ty.size) = False := by simp; omega
            have e3 : (9223372036854775807 < l.size + 5 + (1 + ty.size)) = False := by simp; omega
            go_wp2_with fail
            refine (DY.out _).mono ?_
            rintro e_ w8 ⟨rfl, hb8⟩
            have F8 := Lib.hid (HBR.out.trans (hb8.mono HBR.out.size))
            clear hb8 c7 cx cx0
            go_wp2
            go_roundw
            case rel => exact ⟨1, by omega, by go_num, ⟨_, rfl, by unfold Hid; exact HN.out⟩, F8.out⟩
            case measure => simp [intOf]; omega
          · have hki : ¬ ((k : Int) = 0) := by omega
            have HN := Lib.hid (show l ++ (⟨#[32]⟩ ++ decT (y : Int)) = base ++ ⟨(weakK e.f7 (k + 1)).toArray⟩ by
              rw [hl.out]
              unfold weakK
              rw [if_neg hk0, if_neg (by omega), joinK_succ HXK.out hk0]
              apply ba_ext
              simp [ByteArray.data_append])
            clear hx
            generalize decT (y : Int) = ty at *
            have e2 : (9223372036854775807 < 1 + ty.size) = False := by simp; omega
            have e3 : (9223372036854775807 < l.size + (1 + ty.size)) = False := by simp; omega
            go_wp2_with fail
            refine (DY.out _).mono ?_
            rintro e_ w8 ⟨rfl, hb8⟩
            have F8 := Lib.hid (HBR.out.trans (hb8.mono HBR.out.size))
            clear hb8 c7 cx
            go_wp2
            go_roundw
            case rel => exact ⟨k + 1, by omega, by go_num, ⟨_, rfl, by unfold Hid; exact HN.out⟩, F8.out⟩
            case measure => simp [intOf]; omega
        · obtain rfl : k = e.f7.length := by omega
          have HL := Lib.hid hl.out
          have F8 := Lib.hid (F1.out.trans (hbr.mono F1.out.size))
          clear hbr
          go_wp2
          go_ret
          exact ⟨by rw [← HL.out]; rfl, F8.out⟩
end Go.Proofs.YtnlbhdlfpnepfaaDoor
