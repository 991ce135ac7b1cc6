/- spec.BestFound -/
import Derived.Test.YtlffbaelcjfibaaDoorBfIm
namespace Go.Proofs.YtlffbaelcjfibaaDoor
open Go.RowKit
set_option linter.unusedVariables false
set_option linter.unusedSimpArgs false
set_option maxRecDepth 20000
set_option maxHeartbeats 8000000 in
theorem specBestFound_any (a : Option Addr) (es : List FoundV) (cap : Nat) (c h n : Int) (w : World) (hm : es.length ≤ 1048576) (hs : ∀ e ∈ es, e.f4.size ≤ maxLen) (hS : SlS rowFound w a es) :
    Calls Tryd.prog 5 #[.slice a es.length cap, .int .i64 c, .int .i64 h, .int .i64 n] w fun x w' => x = .returned (.tuple #[.int .i64 (bfV es c h n), .bool (bfB es c h n)]) ∧ Below w.heap.size w w' := by
  have VL := Lib.hid (l09List_any a es cap w hm hs hS)
  unfold bfV bfB
  obtain ⟨q, hq⟩ : ∃ q, foundsB es = q := ⟨_, rfl⟩
  rw [hq] at VL ⊢
  clear hq
  obtain ⟨L, hL⟩ : ∃ L, bfL es c h n ordsF = L := ⟨_, rfl⟩
  rw [hL]
  have HL0 := Lib.hid hL
  clear hL
  obtain ⟨V, hV⟩ : ∃ V, (if (q && decide (0 ≤ L)) = true then L else 0) = V := ⟨_, rfl⟩
  rw [hV]
  obtain ⟨B, hB⟩ : ∃ B, (q && decide (0 ≤ L)) = B := ⟨_, rfl⟩
  rw [hB]
  have HV := Lib.hid hV
  have HQ := Lib.hid hB
  clear hV hB
  go_enter Tryd.func5, Tryd.ntmps5
  go_wp2_with fail
  refine VL.out.mono ?_
  rintro e_ w1 ⟨rfl, hb1⟩
  have hz1 := hb1.size
  have HB1 := Lib.hid hb1
  cases q with
  | false =>
    go_wp2
    go_ret2
    have e1 : V = 0 := by rw [← HV.out]; rfl
    have e2 : B = false := by rw [← HQ.out]; rfl
    rw [e1, e2]
    exact ⟨rfl, HB1.out⟩
  | true =>
    go_upto_region 4 with (fail)
    have hbW : Below w1.heap.size w1 (w1.alloc (.cells #[.int .i64 1, .int .i64 3, .int .i64 4] 2)) := (Below.refl _ _).alloc (Nat.le_refl _) _
    have hor : ∀ k t, ordsF[k]? = some t → (w1.alloc (.cells #[.int .i64 1, .int .i64 3, .int .i64 4] 2)).cell? ⟨w1.heap.size, k, none⟩ = some (.int .i64 t) := by
      intro k t hk
      have h3 : k < 3 := (List.getElem?_eq_some_iff.1 hk).1
      match k, h3, hk with
      | 0, _, hk => cases hk; simp [go_sem]
      | 1, _, hk => cases hk; simp [go_sem]
      | 2, _, hk => cases hk; simp [go_sem]
    have hzW : w1.heap.size < (w1.alloc (.cells #[.int .i64 1, .int .i64 3, .int .i64 4] 2)).heap.size := by simp
    generalize w1.alloc (.cells #[.int .i64 1, .int .i64 3, .int .i64 4] 2) = W at *
    have hSW := hS.below (HB1.out.trans (hbW.mono hz1)) (Nat.le_refl _)
    have KS := Lib.hid (fun w' (hb : Below W.heap.size W w') => (show (∀ k t, ordsF[k]? = some t → w'.cell? ⟨w1.heap.size, k, none⟩ = some (.int .i64 t)) ∧ SlS rowFound w' a es from
      ⟨fun k t hk => by rw [hb.cell (p := ⟨w1.heap.size, k, none⟩) hzW]; exact hor k t hk, hSW.below hb (Nat.le_refl _)⟩))
    have HBW := Lib.hid (show Below w.heap.size w W from HB1.out.trans (hbW.mono hz1))
    have hzo : w1.heap.size < W.heap.size := hzW
    clear hbW hor hS hSW hb1 VL
    go_wp2
    go_loopw [11, 12, 13] (fun i _ _ wr => ∃ k : Nat, k ≤ 3 ∧ i = .int .i64 (k : Int) ∧ Hid (L = bfL es c h n (ordsF.drop k)) ∧ Below W.heap.size W wr) (fun i _ _ _ => 3 - (intOf i).toNat)
    case atStart => exact ⟨0, by omega, rfl, by unfold Hid; exact HL0.out.symm, Below.refl _ _⟩
    case round =>
      obtain ⟨k, hk, rfl, hR, hb⟩ := hrel
      have hzb := hb.size
      by_cases hlt : k < 3
      · obtain ⟨t, ht⟩ : ∃ t, ordsF[k]? = some t := ⟨ordsF[k]'hlt, by simp [ordsF, hlt]⟩
        have HT := Lib.hid ht
        have hR' := hR.out
        rw [dropF ht, bfL] at hR'
        have HR := Lib.hid hR'
        have HB := Lib.hid hb
        clear hR ht hR' hb
        go_wp2
        go_loopw [12, 13] (fun i _ wr => ∃ m : Nat, m ≤ es.length ∧ i = .int .i64 (m : Int) ∧ Hid (idxF (bfP t c h n) 0 es = idxF (bfP t c h n) m (es.drop m)) ∧ Below W.heap.size W wr) (fun i _ _ => es.length - (intOf i).toNat)
        case atStart => exact ⟨0, by omega, rfl, by unfold Hid; simp, HB.out⟩
        case round =>
          obtain ⟨m, hm2, rfl, hI, hb2⟩ := hrel
          have hzb2 := hb2.size
          by_cases hlt2 : m < es.length
          · obtain ⟨e, hx⟩ : ∃ e, es[m]? = some e := ⟨es[m], by simp [hlt2]⟩
            obtain ⟨horr, hSr⟩ := KS.out wr hb2
            have yo := horr k t HT.out
            obtain ⟨b, off, rfl, hbl, hc⟩ := hSr.at rowFound_len hx
            have c0 : wr.cell? ⟨b, off + m * 8, none⟩ = some (.int .i64 e.f0) := hc 0 _ rfl
            have c1 : wr.cell? ⟨b, off + m * 8 + 1, none⟩ = some (.int .i64 e.f1) := hc 1 _ rfl
            have c2 : wr.cell? ⟨b, off + m * 8 + 2, none⟩ = some (.int .i64 e.f2) := hc 2 _ rfl
            have c3 : wr.cell? ⟨b, off + m * 8 + 3, none⟩ = some (.int .i64 e.f3) := hc 3 _ rfl
            have c4 : wr.cell? ⟨b, off + m * 8 + 4, none⟩ = some (.string e.f4) := hc 4 _ rfl
            have c5 : wr.cell? ⟨b, off + m * 8 + 5, none⟩ = some (.int .i64 e.f5) := hc 5 _ rfl
            have c6 : wr.cell? ⟨b, off + m * 8 + 6, none⟩ = some (.bool e.f6) := hc 6 _ rfl
            have c7 : wr.cell? ⟨b, off + m * 8 + 7, none⟩ = some (.int .i64 e.f7) := hc 7 _ rfl
            have hI' := hI.out
            rw [dropF hx, idxF] at hI'
            have HI := Lib.hid hI'
            have HB2 := Lib.hid hb2
            clear hI hI' hc hx horr hSr hb2
            go_upto_region 11 with (fail)
            have BX := BoxAt.new wr #[.int .i64 e.f0, .int .i64 e.f1, .int .i64 e.f2, .int .i64 e.f3, .string e.f4, .int .i64 e.f5, .bool e.f6, .int .i64 e.f7] 35 _ rfl
            have hbX : Below W.heap.size W (wr.alloc (.cells #[.int .i64 e.f0, .int .i64 e.f1, .int .i64 e.f2, .int .i64 e.f3, .string e.f4, .int .i64 e.f5, .bool e.f6, .int .i64 e.f7] 35)) := HB2.out.alloc hzb2 _
            have yo2 : (wr.alloc (.cells #[.int .i64 e.f0, .int .i64 e.f1, .int .i64 e.f2, .int .i64 e.f3, .string e.f4, .int .i64 e.f5, .bool e.f6, .int .i64 e.f7] 35)).cell? ⟨w1.heap.size, k, none⟩ = some (.int .i64 t) := by rw [((Below.refl wr.heap.size wr).alloc (Nat.le_refl _) _).cell (p := ⟨w1.heap.size, k, none⟩) (by show w1.heap.size < _; omega)]; exact yo
            generalize wr.alloc (.cells #[.int .i64 e.f0, .int .i64 e.f1, .int .i64 e.f2, .int .i64 e.f3, .string e.f4, .int .i64 e.f5, .bool e.f6, .int .i64 e.f7] 35) = W3 at *
            have HB3 := Lib.hid hbX.drew
            have HY3 := Lib.hid (show W3.drew.cell? ⟨wr.heap.size, 0, none⟩ = some (.int .i64 e.f0) ∧ W3.drew.cell? ⟨wr.heap.size, 1, none⟩ = some (.int .i64 e.f1) ∧ W3.drew.cell? ⟨wr.heap.size, 2, none⟩ = some (.int .i64 e.f2) ∧ W3.drew.cell? ⟨wr.heap.size, 5, none⟩ = some (.int .i64 e.f5) ∧ W3.drew.cell? ⟨w1.heap.size, k, none⟩ = some (.int .i64 t) from ⟨BX 0 _ rfl, BX 1 _ rfl, BX 2 _ rfl, BX 5 _ rfl, yo2⟩)
            clear c0 c1 c2 c3 c4 c5 c6 c7 BX hbX yo yo2
            have hk3 : (k : Int) < 3 := by omega
            obtain ⟨q0, hq0⟩ : ∃ q, (e.f5 == t) = q := ⟨_, rfl⟩
            obtain ⟨q1, hq1⟩ : ∃ q, (e.f0 == c) = q := ⟨_, rfl⟩
            obtain ⟨q2, hq2⟩ : ∃ q, (e.f1 == h) = q := ⟨_, rfl⟩
            obtain ⟨q3, hq3⟩ : ∃ q, (e.f2 == n) = q := ⟨_, rfl⟩
            have HP := Lib.hid (show bfP t c h n e = (q0 && (q1 && (q2 && q3))) by unfold bfP; rw [hq0, hq1, hq2, hq3])
            have K0 := Lib.hid hq0; have K1 := Lib.hid hq1; have K2 := Lib.hid hq2; have K3 := Lib.hid hq3
            clear hq0 hq1 hq2 hq3
            cases q0 with
            | false =>
              have HN := Lib.hid (show idxF (bfP t c h n) 0 es = idxF (bfP t c h n) (m + 1) (es.drop (m + 1)) by rw [HI.out, if_neg (by rw [HP.out]; simp)])
              refine wp_region_held_drew (S := (fun w' => w'.cell? ⟨wr.heap.size, 0, none⟩ = some (.int .i64 e.f0) ∧ w'.cell? ⟨wr.heap.size, 1, none⟩ = some (.int .i64 e.f1) ∧ w'.cell? ⟨wr.heap.size, 2, none⟩ = some (.int .i64 e.f2) ∧ w'.cell? ⟨wr.heap.size, 5, none⟩ = some (.int .i64 e.f5) ∧ w'.cell? ⟨w1.heap.size, k, none⟩ = some (.int .i64 t))) (by kernel_rfl) HY3.out (fun hHeld => ?_)
              refine wpAnyH_take (i := 0) (oi := { dst := some 34, op := Op.fieldAddr 35 (Operand.tmp 13) 5, type := 0, pos := "l09_reader.go:217", after := #[], guard := none }) (v := ?_) rfl (by kernel_rfl) (by kernel_rfl) (by kernel_rfl) (fun _ _ _ h => h) (Or.inl ⟨by rfl, ?hy⟩) hHeld ?_
              case hy => (intro w' hSw; (try dsimp only at hSw); go_simp; try with_reducible rfl)
              simp only [Act.put, List.setIfInBounds_toArray, List.set_cons_zero, List.set_cons_succ]
              refine wpAnyH_take (i := 1) (oi := { dst := some 35, op := Op.load 2 (Operand.tmp 34), type := 2, pos := "l09_reader.go:217", after := #[{ on := 0, ground := Ground.data }], guard := none }) (v := ?_) rfl (by kernel_rfl) (by kernel_rfl) (by kernel_rfl) (fun _ _ _ h => h) (Or.inl ⟨by rfl, ?hy⟩) hHeld ?_
              case hy => (intro w' hSw; (try dsimp only at hSw); go_simp; try with_reducible rfl)
              simp only [Act.put, List.setIfInBounds_toArray, List.set_cons_zero, List.set_cons_succ]
              refine wpAnyH_take (i := 2) (oi := { dst := some 36, op := Op.move (Operand.tmp 10), type := 34, pos := "l09_reader.go:217", after := #[], guard := none }) (v := ?_) rfl (by kernel_rfl) (by kernel_rfl) (by kernel_rfl) (fun _ _ _ h => h) (Or.inl ⟨by rfl, ?hy⟩) hHeld ?_
              case hy => (intro w' hSw; (try dsimp only at hSw); go_simp; try with_reducible rfl)
              simp only [Act.put, List.setIfInBounds_toArray, List.set_cons_zero, List.set_cons_succ]
              refine wpAnyH_take (i := 3) (oi := { dst := some 37, op := Op.move (Operand.tmp 11), type := 3, pos := "l09_reader.go:217", after := #[], guard := none }) (v := ?_) rfl (by kernel_rfl) (by kernel_rfl) (by kernel_rfl) (fun _ _ _ h => h) (Or.inl ⟨by rfl, ?hy⟩) hHeld ?_
              case hy => (intro w' hSw; (try dsimp only at hSw); go_simp; try with_reducible rfl)
              simp only [Act.put, List.setIfInBounds_toArray, List.set_cons_zero, List.set_cons_succ]
              refine wpAnyH_take (i := 4) (oi := { dst := some 38, op := Op.indexAddr 34 (Operand.tmp 36) (Operand.tmp 37), type := 0, pos := "l09_reader.go:217", after := #[{ on := 2, ground := Ground.data }, { on := 3, ground := Ground.data }], guard := none }) (v := ?_) rfl (by kernel_rfl) (by kernel_rfl) (by kernel_rfl) (fun _ _ _ h => h) (Or.inl ⟨by rfl, ?hy⟩) hHeld ?_
              case hy => (intro w' hSw; (try dsimp only at hSw); go_simp; try with_reducible rfl)
              simp only [Act.put, List.setIfInBounds_toArray, List.set_cons_zero, List.set_cons_succ]
              refine wpAnyH_take (i := 5) (oi := { dst := some 39, op := Op.load 2 (Operand.tmp 38), type := 2, pos := "l09_reader.go:217", after := #[{ on := 4, ground := Ground.data }], guard := none }) (v := ?_) rfl (by kernel_rfl) (by kernel_rfl) (by kernel_rfl) (fun _ _ _ h => h) (Or.inl ⟨by rfl, ?hy⟩) hHeld ?_
              case hy => (intro w' hSw; (try dsimp only at hSw); go_simp; try with_reducible rfl)
              simp only [Act.put, List.setIfInBounds_toArray, List.set_cons_zero, List.set_cons_succ]
              refine wpAnyH_take (i := 6) (oi := { dst := some 40, op := Op.binOp BinOp.eql 2 (Operand.tmp 35) (Operand.tmp 39) 2, type := 4, pos := "l09_reader.go:217", after := #[{ on := 1, ground := Ground.data }, { on := 5, ground := Ground.data }], guard := none }) (v := .bool false) rfl (by kernel_rfl) (by kernel_rfl) (by kernel_rfl) (fun _ _ _ h => h) (Or.inl ⟨by rfl, ?hy⟩) hHeld ?_
              case hy => (intro w' hSw; (try dsimp only at hSw); go_simp; have hh := K0.out; simp at hh; simp [hh])
              simp only [Act.put, List.setIfInBounds_toArray, List.set_cons_zero, List.set_cons_succ]
              refine wpAnyH_take (i := 7) (oi := { dst := some 41, op := Op.move (Operand.tmp 40), type := 4, pos := "l09_reader.go:217", after := #[{ on := 6, ground := Ground.data }], guard := none }) (v := .bool false) rfl (by kernel_rfl) (by kernel_rfl) (by kernel_rfl) (fun _ _ _ h => h) (Or.inl ⟨by rfl, ?hy⟩) hHeld ?_
              case hy => (intro w' hSw; (try dsimp only at hSw); go_simp; first | done | omega | (simp; omega))
              simp only [Act.put, List.setIfInBounds_toArray, List.set_cons_zero, List.set_cons_succ]
              refine wpAnyH_take (i := 8) (oi := { dst := some 42, op := Op.fieldAddr 35 (Operand.tmp 13) 0, type := 0, pos := "l09_reader.go:217", after := #[{ on := 7, ground := Ground.guard }], guard := some (7, true) }) (v := undef) rfl (by kernel_rfl) (by kernel_rfl) (by kernel_rfl) (fun _ _ _ h => h) (Or.inr ⟨by rfl, rfl⟩) hHeld ?_
              simp only [Act.put, List.setIfInBounds_toArray, List.set_cons_zero, List.set_cons_succ]
              refine wpAnyH_take (i := 9) (oi := { dst := some 43, op := Op.load 2 (Operand.tmp 42), type := 2, pos := "l09_reader.go:217", after := #[{ on := 8, ground := Ground.data }, { on := 7, ground := Ground.guard }], guard := some (7, true) }) (v := undef) rfl (by kernel_rfl) (by kernel_rfl) (by kernel_rfl) (fun _ _ _ h => h) (Or.inr ⟨by rfl, rfl⟩) hHeld ?_
              simp only [Act.put, List.setIfInBounds_toArray, List.set_cons_zero, List.set_cons_succ]
              refine wpAnyH_take (i := 10) (oi := { dst := some 44, op := Op.move (Operand.tmp 1), type := 2, pos := "l09_reader.go:217", after := #[{ on := 7, ground := Ground.guard }], guard := some (7, true) }) (v := undef) rfl (by kernel_rfl) (by kernel_rfl) (by kernel_rfl) (fun _ _ _ h => h) (Or.inr ⟨by rfl, rfl⟩) hHeld ?_
              simp only [Act.put, List.setIfInBounds_toArray, List.set_cons_zero, List.set_cons_succ]
              refine wpAnyH_take (i := 11) (oi := { dst := some 45, op := Op.binOp BinOp.eql 2 (Operand.tmp 43) (Operand.tmp 44) 2, type := 4, pos := "l09_reader.go:217", after := #[{ on := 9, ground := Ground.data }, { on := 10, ground := Ground.data }, { on := 7, ground := Ground.guard }], guard := some (7, true) }) (v := undef) rfl (by kernel_rfl) (by kernel_rfl) (by kernel_rfl) (fun _ _ _ h => h) (Or.inr ⟨by rfl, rfl⟩) hHeld ?_
              simp only [Act.put, List.setIfInBounds_toArray, List.set_cons_zero, List.set_cons_succ]
              refine wpAnyH_take (i := 12) (oi := { dst := some 46, op := Op.pick (Operand.tmp 41) (Operand.tmp 45) (Operand.const (Value.bool false)), type := 4, pos := "l09_reader.go:217", after := #[{ on := 7, ground := Ground.data }, { on := 11, ground := Ground.data }], guard := none }) (v := .bool false) rfl (by kernel_rfl) (by kernel_rfl) (by kernel_rfl) (fun _ _ _ h => h) (Or.inl ⟨by rfl, ?hy⟩) hHeld ?_
              case hy => (intro w' hSw; (try dsimp only at hSw); go_simp; first | done | omega | (simp; omega))
              simp only [Act.put, List.setIfInBounds_toArray, List.set_cons_zero, List.set_cons_succ]
              refine wpAnyH_take (i := 13) (oi := { dst := some 47, op := Op.move (Operand.tmp 46), type := 4, pos := "l09_reader.go:217", after := #[{ on := 12, ground := Ground.data }, { on := 7, ground := Ground.chain }], guard := none }) (v := .bool false) rfl (by kernel_rfl) (by kernel_rfl) (by kernel_rfl) (fun _ _ _ h => h) (Or.inl ⟨by rfl, ?hy⟩) hHeld ?_
              case hy => (intro w' hSw; (try dsimp only at hSw); go_simp; first | done | omega | (simp; omega))
              simp only [Act.put, List.setIfInBounds_toArray, List.set_cons_zero, List.set_cons_succ]
              refine wpAnyH_take (i := 14) (oi := { dst := some 48, op := Op.fieldAddr 35 (Operand.tmp 13) 1, type := 0, pos := "l09_reader.go:217", after := #[{ on := 13, ground := Ground.guard }], guard := some (13, true) }) (v := undef) rfl (by kernel_rfl) (by kernel_rfl) (by kernel_rfl) (fun _ _ _ h => h) (Or.inr ⟨by rfl, rfl⟩) hHeld ?_
              simp only [Act.put, List.setIfInBounds_toArray, List.set_cons_zero, List.set_cons_succ]
              refine wpAnyH_take (i := 15) (oi := { dst := some 49, op := Op.load 2 (Operand.tmp 48), type := 2, pos := "l09_reader.go:217", after := #[{ on := 14, ground := Ground.data }, { on := 13, ground := Ground.guard }], guard := some (13, true) }) (v := undef) rfl (by kernel_rfl) (by kernel_rfl) (by kernel_rfl) (fun _ _ _ h => h) (Or.inr ⟨by rfl, rfl⟩) hHeld ?_
              simp only [Act.put, List.setIfInBounds_toArray, List.set_cons_zero, List.set_cons_succ]
              refine wpAnyH_take (i := 16) (oi := { dst := some 50, op := Op.move (Operand.tmp 2), type := 2, pos := "l09_reader.go:217", after := #[{ on := 13, ground := Ground.guard }], guard := some (13, true) }) (v := undef) rfl (by kernel_rfl) (by kernel_rfl) (by kernel_rfl) (fun _ _ _ h => h) (Or.inr ⟨by rfl, rfl⟩) hHeld ?_
              simp only [Act.put, List.setIfInBounds_toArray, List.set_cons_zero, List.set_cons_succ]
              refine wpAnyH_take (i := 17) (oi := { dst := some 51, op := Op.binOp BinOp.eql 2 (Operand.tmp 49) (Operand.tmp 50) 2, type := 4, pos := "l09_reader.go:217", after := #[{ on := 15, ground := Ground.data }, { on := 16, ground := Ground.data }, { on := 13, ground := Ground.guard }], guard := some (13, true) }) (v := undef) rfl (by kernel_rfl) (by kernel_rfl) (by kernel_rfl) (fun _ _ _ h => h) (Or.inr ⟨by rfl, rfl⟩) hHeld ?_
              simp only [Act.put, List.setIfInBounds_toArray, List.set_cons_zero, List.set_cons_succ]
              refine wpAnyH_take (i := 18) (oi := { dst := some 52, op := Op.pick (Operand.tmp 47) (Operand.tmp 51) (Operand.const (Value.bool false)), type := 4, pos := "l09_reader.go:217", after := #[{ on := 13, ground := Ground.data }, { on := 17, ground := Ground.data }], guard := none }) (v := .bool false) rfl (by kernel_rfl) (by kernel_rfl) (by kernel_rfl) (fun _ _ _ h => h) (Or.inl ⟨by rfl, ?hy⟩) hHeld ?_
              case hy => (intro w' hSw; (try dsimp only at hSw); go_simp; first | done | omega | (simp; omega))
              simp only [Act.put, List.setIfInBounds_toArray, List.set_cons_zero, List.set_cons_succ]
              refine wpAnyH_take (i := 19) (oi := { dst := some 53, op := Op.move (Operand.tmp 52), type := 4, pos := "l09_reader.go:217", after := #[{ on := 18, ground := Ground.data }, { on := 13, ground := Ground.chain }], guard := none }) (v := .bool false) rfl (by kernel_rfl) (by kernel_rfl) (by kernel_rfl) (fun _ _ _ h => h) (Or.inl ⟨by rfl, ?hy⟩) hHeld ?_
              case hy => (intro w' hSw; (try dsimp only at hSw); go_simp; first | done | omega | (simp; omega))
              simp only [Act.put, List.setIfInBounds_toArray, List.set_cons_zero, List.set_cons_succ]
              refine wpAnyH_take (i := 20) (oi := { dst := some 54, op := Op.fieldAddr 35 (Operand.tmp 13) 2, type := 0, pos := "l09_reader.go:217", after := #[{ on := 19, ground := Ground.guard }], guard := some (19, true) }) (v := undef) rfl (by kernel_rfl) (by kernel_rfl) (by kernel_rfl) (fun _ _ _ h => h) (Or.inr ⟨by rfl, rfl⟩) hHeld ?_
              simp only [Act.put, List.setIfInBounds_toArray, List.set_cons_zero, List.set_cons_succ]
              refine wpAnyH_take (i := 21) (oi := { dst := some 55, op := Op.load 2 (Operand.tmp 54), type := 2, pos := "l09_reader.go:217", after := #[{ on := 20, ground := Ground.data }, { on := 19, ground := Ground.guard }], guard := some (19, true) }) (v := undef) rfl (by kernel_rfl) (by kernel_rfl) (by kernel_rfl) (fun _ _ _ h => h) (Or.inr ⟨by rfl, rfl⟩) hHeld ?_
              simp only [Act.put, List.setIfInBounds_toArray, List.set_cons_zero, List.set_cons_succ]
              refine wpAnyH_take (i := 22) (oi := { dst := some 56, op := Op.move (Operand.tmp 3), type := 2, pos := "l09_reader.go:217", after := #[{ on := 19, ground := Ground.guard }], guard := some (19, true) }) (v := undef) rfl (by kernel_rfl) (by kernel_rfl) (by kernel_rfl) (fun _ _ _ h => h) (Or.inr ⟨by rfl, rfl⟩) hHeld ?_
              simp only [Act.put, List.setIfInBounds_toArray, List.set_cons_zero, List.set_cons_succ]
              refine wpAnyH_take (i := 23) (oi := { dst := some 57, op := Op.binOp BinOp.eql 2 (Operand.tmp 55) (Operand.tmp 56) 2, type := 4, pos := "l09_reader.go:217", after := #[{ on := 21, ground := Ground.data }, { on := 22, ground := Ground.data }, { on := 19, ground := Ground.guard }], guard := some (19, true) }) (v := undef) rfl (by kernel_rfl) (by kernel_rfl) (by kernel_rfl) (fun _ _ _ h => h) (Or.inr ⟨by rfl, rfl⟩) hHeld ?_
              simp only [Act.put, List.setIfInBounds_toArray, List.set_cons_zero, List.set_cons_succ]
              refine wpAnyH_take (i := 24) (oi := { dst := some 58, op := Op.pick (Operand.tmp 53) (Operand.tmp 57) (Operand.const (Value.bool false)), type := 4, pos := "l09_reader.go:217", after := #[{ on := 19, ground := Ground.data }, { on := 23, ground := Ground.data }], guard := none }) (v := .bool false) rfl (by kernel_rfl) (by kernel_rfl) (by kernel_rfl) (fun _ _ _ h => h) (Or.inl ⟨by rfl, ?hy⟩) hHeld ?_
              case hy => (intro w' hSw; (try dsimp only at hSw); go_simp; first | done | omega | (simp; omega))
              simp only [Act.put, List.setIfInBounds_toArray, List.set_cons_zero, List.set_cons_succ]
              refine wpAnyH_done (by kernel_rfl) ?_ _
              go_wp2
              go_roundw
              case rel => exact ⟨m + 1, by omega, by go_num, by unfold Hid; exact HN.out, HB3.out⟩
              case measure => simp [intOf]; omega
            | true =>
              cases q1 with
              | false =>
                have HN := Lib.hid (show idxF (bfP t c h n) 0 es = idxF (bfP t c h n) (m + 1) (es.drop (m + 1)) by rw [HI.out, if_neg (by rw [HP.out]; simp)])
                refine wp_region_held_drew (S := (fun w' => w'.cell? ⟨wr.heap.size, 0, none⟩ = some (.int .i64 e.f0) ∧ w'.cell? ⟨wr.heap.size, 1, none⟩ = some (.int .i64 e.f1) ∧ w'.cell? ⟨wr.heap.size, 2, none⟩ = some (.int .i64 e.f2) ∧ w'.cell? ⟨wr.heap.size, 5, none⟩ = some (.int .i64 e.f5) ∧ w'.cell? ⟨w1.heap.size, k, none⟩ = some (.int .i64 t))) (by kernel_rfl) HY3.out (fun hHeld => ?_)
                refine wpAnyH_take (i := 0) (oi := { dst := some 34, op := Op.fieldAddr 35 (Operand.tmp 13) 5, type := 0, pos := "l09_reader.go:217", after := #[], guard := none }) (v := ?_) rfl (by kernel_rfl) (by kernel_rfl) (by kernel_rfl) (fun _ _ _ h => h) (Or.inl ⟨by rfl, ?hy⟩) hHeld ?_
                case hy => (intro w' hSw; (try dsimp only at hSw); go_simp; try with_reducible rfl)
                simp only [Act.put, List.setIfInBounds_toArray, List.set_cons_zero, List.set_cons_succ]
                refine wpAnyH_take (i := 1) (oi := { dst := some 35, op := Op.load 2 (Operand.tmp 34), type := 2, pos := "l09_reader.go:217", after := #[{ on := 0, ground := Ground.data }], guard := none }) (v := ?_) rfl (by kernel_rfl) (by kernel_rfl) (by kernel_rfl) (fun _ _ _ h => h) (Or.inl ⟨by rfl, ?hy⟩) hHeld ?_
                case hy => (intro w' hSw; (try dsimp only at hSw); go_simp; try with_reducible rfl)
                simp only [Act.put, List.setIfInBounds_toArray, List.set_cons_zero, List.set_cons_succ]
                refine wpAnyH_take (i := 2) (oi := { dst := some 36, op := Op.move (Operand.tmp 10), type := 34, pos := "l09_reader.go:217", after := #[], guard := none }) (v := ?_) rfl (by kernel_rfl) (by kernel_rfl) (by kernel_rfl) (fun _ _ _ h => h) (Or.inl ⟨by rfl, ?hy⟩) hHeld ?_
                case hy => (intro w' hSw; (try dsimp only at hSw); go_simp; try with_reducible rfl)
                simp only [Act.put, List.setIfInBounds_toArray, List.set_cons_zero, List.set_cons_succ]
                refine wpAnyH_take (i := 3) (oi := { dst := some 37, op := Op.move (Operand.tmp 11), type := 3, pos := "l09_reader.go:217", after := #[], guard := none }) (v := ?_) rfl (by kernel_rfl) (by kernel_rfl) (by kernel_rfl) (fun _ _ _ h => h) (Or.inl ⟨by rfl, ?hy⟩) hHeld ?_
                case hy => (intro w' hSw; (try dsimp only at hSw); go_simp; try with_reducible rfl)
                simp only [Act.put, List.setIfInBounds_toArray, List.set_cons_zero, List.set_cons_succ]
                refine wpAnyH_take (i := 4) (oi := { dst := some 38, op := Op.indexAddr 34 (Operand.tmp 36) (Operand.tmp 37), type := 0, pos := "l09_reader.go:217", after := #[{ on := 2, ground := Ground.data }, { on := 3, ground := Ground.data }], guard := none }) (v := ?_) rfl (by kernel_rfl) (by kernel_rfl) (by kernel_rfl) (fun _ _ _ h => h) (Or.inl ⟨by rfl, ?hy⟩) hHeld ?_
                case hy => (intro w' hSw; (try dsimp only at hSw); go_simp; try with_reducible rfl)
                simp only [Act.put, List.setIfInBounds_toArray, List.set_cons_zero, List.set_cons_succ]
                refine wpAnyH_take (i := 5) (oi := { dst := some 39, op := Op.load 2 (Operand.tmp 38), type := 2, pos := "l09_reader.go:217", after := #[{ on := 4, ground := Ground.data }], guard := none }) (v := ?_) rfl (by kernel_rfl) (by kernel_rfl) (by kernel_rfl) (fun _ _ _ h => h) (Or.inl ⟨by rfl, ?hy⟩) hHeld ?_
                case hy => (intro w' hSw; (try dsimp only at hSw); go_simp; try with_reducible rfl)
                simp only [Act.put, List.setIfInBounds_toArray, List.set_cons_zero, List.set_cons_succ]
                refine wpAnyH_take (i := 6) (oi := { dst := some 40, op := Op.binOp BinOp.eql 2 (Operand.tmp 35) (Operand.tmp 39) 2, type := 4, pos := "l09_reader.go:217", after := #[{ on := 1, ground := Ground.data }, { on := 5, ground := Ground.data }], guard := none }) (v := .bool true) rfl (by kernel_rfl) (by kernel_rfl) (by kernel_rfl) (fun _ _ _ h => h) (Or.inl ⟨by rfl, ?hy⟩) hHeld ?_
                case hy => (intro w' hSw; (try dsimp only at hSw); go_simp; have hh := K0.out; simp at hh; simp [hh])
                simp only [Act.put, List.setIfInBounds_toArray, List.set_cons_zero, List.set_cons_succ]
                refine wpAnyH_take (i := 7) (oi := { dst := some 41, op := Op.move (Operand.tmp 40), type := 4, pos := "l09_reader.go:217", after := #[{ on := 6, ground := Ground.data }], guard := none }) (v := .bool true) rfl (by kernel_rfl) (by kernel_rfl) (by kernel_rfl) (fun _ _ _ h => h) (Or.inl ⟨by rfl, ?hy⟩) hHeld ?_
                case hy => (intro w' hSw; (try dsimp only at hSw); go_simp; first | done | omega | (simp; omega))
                simp only [Act.put, List.setIfInBounds_toArray, List.set_cons_zero, List.set_cons_succ]
                refine wpAnyH_take (i := 8) (oi := { dst := some 42, op := Op.fieldAddr 35 (Operand.tmp 13) 0, type := 0, pos := "l09_reader.go:217", after := #[{ on := 7, ground := Ground.guard }], guard := some (7, true) }) (v := ?_) rfl (by kernel_rfl) (by kernel_rfl) (by kernel_rfl) (fun _ _ _ h => h) (Or.inl ⟨by rfl, ?hy⟩) hHeld ?_
                case hy => (intro w' hSw; (try dsimp only at hSw); go_simp; try with_reducible rfl)
                simp only [Act.put, List.setIfInBounds_toArray, List.set_cons_zero, List.set_cons_succ]
                refine wpAnyH_take (i := 9) (oi := { dst := some 43, op := Op.load 2 (Operand.tmp 42), type := 2, pos := "l09_reader.go:217", after := #[{ on := 8, ground := Ground.data }, { on := 7, ground := Ground.guard }], guard := some (7, true) }) (v := ?_) rfl (by kernel_rfl) (by kernel_rfl) (by kernel_rfl) (fun _ _ _ h => h) (Or.inl ⟨by rfl, ?hy⟩) hHeld ?_
                case hy => (intro w' hSw; (try dsimp only at hSw); go_simp; try with_reducible rfl)
                simp only [Act.put, List.setIfInBounds_toArray, List.set_cons_zero, List.set_cons_succ]
                refine wpAnyH_take (i := 10) (oi := { dst := some 44, op := Op.move (Operand.tmp 1), type := 2, pos := "l09_reader.go:217", after := #[{ on := 7, ground := Ground.guard }], guard := some (7, true) }) (v := ?_) rfl (by kernel_rfl) (by kernel_rfl) (by kernel_rfl) (fun _ _ _ h => h) (Or.inl ⟨by rfl, ?hy⟩) hHeld ?_
                case hy => (intro w' hSw; (try dsimp only at hSw); go_simp; try with_reducible rfl)
                simp only [Act.put, List.setIfInBounds_toArray, List.set_cons_zero, List.set_cons_succ]
                refine wpAnyH_take (i := 11) (oi := { dst := some 45, op := Op.binOp BinOp.eql 2 (Operand.tmp 43) (Operand.tmp 44) 2, type := 4, pos := "l09_reader.go:217", after := #[{ on := 9, ground := Ground.data }, { on := 10, ground := Ground.data }, { on := 7, ground := Ground.guard }], guard := some (7, true) }) (v := .bool false) rfl (by kernel_rfl) (by kernel_rfl) (by kernel_rfl) (fun _ _ _ h => h) (Or.inl ⟨by rfl, ?hy⟩) hHeld ?_
                case hy => (intro w' hSw; (try dsimp only at hSw); go_simp; have hh := K1.out; simp at hh; simp [hh])
                simp only [Act.put, List.setIfInBounds_toArray, List.set_cons_zero, List.set_cons_succ]
                refine wpAnyH_take (i := 12) (oi := { dst := some 46, op := Op.pick (Operand.tmp 41) (Operand.tmp 45) (Operand.const (Value.bool false)), type := 4, pos := "l09_reader.go:217", after := #[{ on := 7, ground := Ground.data }, { on := 11, ground := Ground.data }], guard := none }) (v := .bool false) rfl (by kernel_rfl) (by kernel_rfl) (by kernel_rfl) (fun _ _ _ h => h) (Or.inl ⟨by rfl, ?hy⟩) hHeld ?_
                case hy => (intro w' hSw; (try dsimp only at hSw); go_simp; first | done | omega | (simp; omega))
                simp only [Act.put, List.setIfInBounds_toArray, List.set_cons_zero, List.set_cons_succ]
                refine wpAnyH_take (i := 13) (oi := { dst := some 47, op := Op.move (Operand.tmp 46), type := 4, pos := "l09_reader.go:217", after := #[{ on := 12, ground := Ground.data }, { on := 7, ground := Ground.chain }], guard := none }) (v := .bool false) rfl (by kernel_rfl) (by kernel_rfl) (by kernel_rfl) (fun _ _ _ h => h) (Or.inl ⟨by rfl, ?hy⟩) hHeld ?_
                case hy => (intro w' hSw; (try dsimp only at hSw); go_simp; first | done | omega | (simp; omega))
                simp only [Act.put, List.setIfInBounds_toArray, List.set_cons_zero, List.set_cons_succ]
                refine wpAnyH_take (i := 14) (oi := { dst := some 48, op := Op.fieldAddr 35 (Operand.tmp 13) 1, type := 0, pos := "l09_reader.go:217", after := #[{ on := 13, ground := Ground.guard }], guard := some (13, true) }) (v := undef) rfl (by kernel_rfl) (by kernel_rfl) (by kernel_rfl) (fun _ _ _ h => h) (Or.inr ⟨by rfl, rfl⟩) hHeld ?_
                simp only [Act.put, List.setIfInBounds_toArray, List.set_cons_zero, List.set_cons_succ]
                refine wpAnyH_take (i := 15) (oi := { dst := some 49, op := Op.load 2 (Operand.tmp 48), type := 2, pos := "l09_reader.go:217", after := #[{ on := 14, ground := Ground.data }, { on := 13, ground := Ground.guard }], guard := some (13, true) }) (v := undef) rfl (by kernel_rfl) (by kernel_rfl) (by kernel_rfl) (fun _ _ _ h => h) (Or.inr ⟨by rfl, rfl⟩) hHeld ?_
                simp only [Act.put, List.setIfInBounds_toArray, List.set_cons_zero, List.set_cons_succ]
                refine wpAnyH_take (i := 16) (oi := { dst := some 50, op := Op.move (Operand.tmp 2), type := 2, pos := "l09_reader.go:217", after := #[{ on := 13, ground := Ground.guard }], guard := some (13, true) }) (v := undef) rfl (by kernel_rfl) (by kernel_rfl) (by kernel_rfl) (fun _ _ _ h => h) (Or.inr ⟨by rfl, rfl⟩) hHeld ?_
                simp only [Act.put, List.setIfInBounds_toArray, List.set_cons_zero, List.set_cons_succ]
                refine wpAnyH_take (i := 17) (oi := { dst := some 51, op := Op.binOp BinOp.eql 2 (Operand.tmp 49) (Operand.tmp 50) 2, type := 4, pos := "l09_reader.go:217", after := #[{ on := 15, ground := Ground.data }, { on := 16, ground := Ground.data }, { on := 13, ground := Ground.guard }], guard := some (13, true) }) (v := undef) rfl (by kernel_rfl) (by kernel_rfl) (by kernel_rfl) (fun _ _ _ h => h) (Or.inr ⟨by rfl, rfl⟩) hHeld ?_
                simp only [Act.put, List.setIfInBounds_toArray, List.set_cons_zero, List.set_cons_succ]
                refine wpAnyH_take (i := 18) (oi := { dst := some 52, op := Op.pick (Operand.tmp 47) (Operand.tmp 51) (Operand.const (Value.bool false)), type := 4, pos := "l09_reader.go:217", after := #[{ on := 13, ground := Ground.data }, { on := 17, ground := Ground.data }], guard := none }) (v := .bool false) rfl (by kernel_rfl) (by kernel_rfl) (by kernel_rfl) (fun _ _ _ h => h) (Or.inl ⟨by rfl, ?hy⟩) hHeld ?_
                case hy => (intro w' hSw; (try dsimp only at hSw); go_simp; first | done | omega | (simp; omega))
                simp only [Act.put, List.setIfInBounds_toArray, List.set_cons_zero, List.set_cons_succ]
                refine wpAnyH_take (i := 19) (oi := { dst := some 53, op := Op.move (Operand.tmp 52), type := 4, pos := "l09_reader.go:217", after := #[{ on := 18, ground := Ground.data }, { on := 13, ground := Ground.chain }], guard := none }) (v := .bool false) rfl (by kernel_rfl) (by kernel_rfl) (by kernel_rfl) (fun _ _ _ h => h) (Or.inl ⟨by rfl, ?hy⟩) hHeld ?_
                case hy => (intro w' hSw; (try dsimp only at hSw); go_simp; first | done | omega | (simp; omega))
                simp only [Act.put, List.setIfInBounds_toArray, List.set_cons_zero, List.set_cons_succ]
                refine wpAnyH_take (i := 20) (oi := { dst := some 54, op := Op.fieldAddr 35 (Operand.tmp 13) 2, type := 0, pos := "l09_reader.go:217", after := #[{ on := 19, ground := Ground.guard }], guard := some (19, true) }) (v := undef) rfl (by kernel_rfl) (by kernel_rfl) (by kernel_rfl) (fun _ _ _ h => h) (Or.inr ⟨by rfl, rfl⟩) hHeld ?_
                simp only [Act.put, List.setIfInBounds_toArray, List.set_cons_zero, List.set_cons_succ]
                refine wpAnyH_take (i := 21) (oi := { dst := some 55, op := Op.load 2 (Operand.tmp 54), type := 2, pos := "l09_reader.go:217", after := #[{ on := 20, ground := Ground.data }, { on := 19, ground := Ground.guard }], guard := some (19, true) }) (v := undef) rfl (by kernel_rfl) (by kernel_rfl) (by kernel_rfl) (fun _ _ _ h => h) (Or.inr ⟨by rfl, rfl⟩) hHeld ?_
                simp only [Act.put, List.setIfInBounds_toArray, List.set_cons_zero, List.set_cons_succ]
                refine wpAnyH_take (i := 22) (oi := { dst := some 56, op := Op.move (Operand.tmp 3), type := 2, pos := "l09_reader.go:217", after := #[{ on := 19, ground := Ground.guard }], guard := some (19, true) }) (v := undef) rfl (by kernel_rfl) (by kernel_rfl) (by kernel_rfl) (fun _ _ _ h => h) (Or.inr ⟨by rfl, rfl⟩) hHeld ?_
                simp only [Act.put, List.setIfInBounds_toArray, List.set_cons_zero, List.set_cons_succ]
                refine wpAnyH_take (i := 23) (oi := { dst := some 57, op := Op.binOp BinOp.eql 2 (Operand.tmp 55) (Operand.tmp 56) 2, type := 4, pos := "l09_reader.go:217", after := #[{ on := 21, ground := Ground.data }, { on := 22, ground := Ground.data }, { on := 19, ground := Ground.guard }], guard := some (19, true) }) (v := undef) rfl (by kernel_rfl) (by kernel_rfl) (by kernel_rfl) (fun _ _ _ h => h) (Or.inr ⟨by rfl, rfl⟩) hHeld ?_
                simp only [Act.put, List.setIfInBounds_toArray, List.set_cons_zero, List.set_cons_succ]
                refine wpAnyH_take (i := 24) (oi := { dst := some 58, op := Op.pick (Operand.tmp 53) (Operand.tmp 57) (Operand.const (Value.bool false)), type := 4, pos := "l09_reader.go:217", after := #[{ on := 19, ground := Ground.data }, { on := 23, ground := Ground.data }], guard := none }) (v := .bool false) rfl (by kernel_rfl) (by kernel_rfl) (by kernel_rfl) (fun _ _ _ h => h) (Or.inl ⟨by rfl, ?hy⟩) hHeld ?_
                case hy => (intro w' hSw; (try dsimp only at hSw); go_simp; first | done | omega | (simp; omega))
                simp only [Act.put, List.setIfInBounds_toArray, List.set_cons_zero, List.set_cons_succ]
                refine wpAnyH_done (by kernel_rfl) ?_ _
                go_wp2
                go_roundw
                case rel => exact ⟨m + 1, by omega, by go_num, by unfold Hid; exact HN.out, HB3.out⟩
                case measure => simp [intOf]; omega
              | true =>
                cases q2 with
                | false =>
                  have HN := Lib.hid (show idxF (bfP t c h n) 0 es = idxF (bfP t c h n) (m + 1) (es.drop (m + 1)) by rw [HI.out, if_neg (by rw [HP.out]; simp)])
                  refine wp_region_held_drew (S := (fun w' => w'.cell? ⟨wr.heap.size, 0, none⟩ = some (.int .i64 e.f0) ∧ w'.cell? ⟨wr.heap.size, 1, none⟩ = some (.int .i64 e.f1) ∧ w'.cell? ⟨wr.heap.size, 2, none⟩ = some (.int .i64 e.f2) ∧ w'.cell? ⟨wr.heap.size, 5, none⟩ = some (.int .i64 e.f5) ∧ w'.cell? ⟨w1.heap.size, k, none⟩ = some (.int .i64 t))) (by kernel_rfl) HY3.out (fun hHeld => ?_)
                  refine wpAnyH_take (i := 0) (oi := { dst := some 34, op := Op.fieldAddr 35 (Operand.tmp 13) 5, type := 0, pos := "l09_reader.go:217", after := #[], guard := none }) (v := ?_) rfl (by kernel_rfl) (by kernel_rfl) (by kernel_rfl) (fun _ _ _ h => h) (Or.inl ⟨by rfl, ?hy⟩) hHeld ?_
                  case hy => (intro w' hSw; (try dsimp only at hSw); go_simp; try with_reducible rfl)
                  simp only [Act.put, List.setIfInBounds_toArray, List.set_cons_zero, List.set_cons_succ]
                  refine wpAnyH_take (i := 1) (oi := { dst := some 35, op := Op.load 2 (Operand.tmp 34), type := 2, pos := "l09_reader.go:217", after := #[{ on := 0, ground := Ground.data }], guard := none }) (v := ?_) rfl (by kernel_rfl) (by kernel_rfl) (by kernel_rfl) (fun _ _ _ h => h) (Or.inl ⟨by rfl, ?hy⟩) hHeld ?_
                  case hy => (intro w' hSw; (try dsimp only at hSw); go_simp; try with_reducible rfl)
                  simp only [Act.put, List.setIfInBounds_toArray, List.set_cons_zero, List.set_cons_succ]
                  refine wpAnyH_take (i := 2) (oi := { dst := some 36, op := Op.move (Operand.tmp 10), type := 34, pos := "l09_reader.go:217", after := #[], guard := none }) (v := ?_) rfl (by kernel_rfl) (by kernel_rfl) (by kernel_rfl) (fun _ _ _ h => h) (Or.inl ⟨by rfl, ?hy⟩) hHeld ?_
                  case hy => (intro w' hSw; (try dsimp only at hSw); go_simp; try with_reducible rfl)
                  simp only [Act.put, List.setIfInBounds_toArray, List.set_cons_zero, List.set_cons_succ]
                  refine wpAnyH_take (i := 3) (oi := { dst := some 37, op := Op.move (Operand.tmp 11), type := 3, pos := "l09_reader.go:217", after := #[], guard := none }) (v := ?_) rfl (by kernel_rfl) (by kernel_rfl) (by kernel_rfl) (fun _ _ _ h => h) (Or.inl ⟨by rfl, ?hy⟩) hHeld ?_
                  case hy => (intro w' hSw; (try dsimp only at hSw); go_simp; try with_reducible rfl)
                  simp only [Act.put, List.setIfInBounds_toArray, List.set_cons_zero, List.set_cons_succ]
                  refine wpAnyH_take (i := 4) (oi := { dst := some 38, op := Op.indexAddr 34 (Operand.tmp 36) (Operand.tmp 37), type := 0, pos := "l09_reader.go:217", after := #[{ on := 2, ground := Ground.data }, { on := 3, ground := Ground.data }], guard := none }) (v := ?_) rfl (by kernel_rfl) (by kernel_rfl) (by kernel_rfl) (fun _ _ _ h => h) (Or.inl ⟨by rfl, ?hy⟩) hHeld ?_
                  case hy => (intro w' hSw; (try dsimp only at hSw); go_simp; try with_reducible rfl)
                  simp only [Act.put, List.setIfInBounds_toArray, List.set_cons_zero, List.set_cons_succ]
                  refine wpAnyH_take (i := 5) (oi := { dst := some 39, op := Op.load 2 (Operand.tmp 38), type := 2, pos := "l09_reader.go:217", after := #[{ on := 4, ground := Ground.data }], guard := none }) (v := ?_) rfl (by kernel_rfl) (by kernel_rfl) (by kernel_rfl) (fun _ _ _ h => h) (Or.inl ⟨by rfl, ?hy⟩) hHeld ?_
                  case hy => (intro w' hSw; (try dsimp only at hSw); go_simp; try with_reducible rfl)
                  simp only [Act.put, List.setIfInBounds_toArray, List.set_cons_zero, List.set_cons_succ]
                  refine wpAnyH_take (i := 6) (oi := { dst := some 40, op := Op.binOp BinOp.eql 2 (Operand.tmp 35) (Operand.tmp 39) 2, type := 4, pos := "l09_reader.go:217", after := #[{ on := 1, ground := Ground.data }, { on := 5, ground := Ground.data }], guard := none }) (v := .bool true) rfl (by kernel_rfl) (by kernel_rfl) (by kernel_rfl) (fun _ _ _ h => h) (Or.inl ⟨by rfl, ?hy⟩) hHeld ?_
                  case hy => (intro w' hSw; (try dsimp only at hSw); go_simp; have hh := K0.out; simp at hh; simp [hh])
                  simp only [Act.put, List.setIfInBounds_toArray, List.set_cons_zero, List.set_cons_succ]
                  refine wpAnyH_take (i := 7) (oi := { dst := some 41, op := Op.move (Operand.tmp 40), type := 4, pos := "l09_reader.go:217", after := #[{ on := 6, ground := Ground.data }], guard := none }) (v := .bool true) rfl (by kernel_rfl) (by kernel_rfl) (by kernel_rfl) (fun _ _ _ h => h) (Or.inl ⟨by rfl, ?hy⟩) hHeld ?_
                  case hy => (intro w' hSw; (try dsimp only at hSw); go_simp; first | done | omega | (simp; omega))
                  simp only [Act.put, List.setIfInBounds_toArray, List.set_cons_zero, List.set_cons_succ]
                  refine wpAnyH_take (i := 8) (oi := { dst := some 42, op := Op.fieldAddr 35 (Operand.tmp 13) 0, type := 0, pos := "l09_reader.go:217", after := #[{ on := 7, ground := Ground.guard }], guard := some (7, true) }) (v := ?_) rfl (by kernel_rfl) (by kernel_rfl) (by kernel_rfl) (fun _ _ _ h => h) (Or.inl ⟨by rfl, ?hy⟩) hHeld ?_
                  case hy => (intro w' hSw; (try dsimp only at hSw); go_simp; try with_reducible rfl)
                  simp only [Act.put, List.setIfInBounds_toArray, List.set_cons_zero, List.set_cons_succ]
                  refine wpAnyH_take (i := 9) (oi := { dst := some 43, op := Op.load 2 (Operand.tmp 42), type := 2, pos := "l09_reader.go:217", after := #[{ on := 8, ground := Ground.data }, { on := 7, ground := Ground.guard }], guard := some (7, true) }) (v := ?_) rfl (by kernel_rfl) (by kernel_rfl) (by kernel_rfl) (fun _ _ _ h => h) (Or.inl ⟨by rfl, ?hy⟩) hHeld ?_
                  case hy => (intro w' hSw; (try dsimp only at hSw); go_simp; try with_reducible rfl)
                  simp only [Act.put, List.setIfInBounds_toArray, List.set_cons_zero, List.set_cons_succ]
                  refine wpAnyH_take (i := 10) (oi := { dst := some 44, op := Op.move (Operand.tmp 1), type := 2, pos := "l09_reader.go:217", after := #[{ on := 7, ground := Ground.guard }], guard := some (7, true) }) (v := ?_) rfl (by kernel_rfl) (by kernel_rfl) (by kernel_rfl) (fun _ _ _ h => h) (Or.inl ⟨by rfl, ?hy⟩) hHeld ?_
                  case hy => (intro w' hSw; (try dsimp only at hSw); go_simp; try with_reducible rfl)
                  simp only [Act.put, List.setIfInBounds_toArray, List.set_cons_zero, List.set_cons_succ]
                  refine wpAnyH_take (i := 11) (oi := { dst := some 45, op := Op.binOp BinOp.eql 2 (Operand.tmp 43) (Operand.tmp 44) 2, type := 4, pos := "l09_reader.go:217", after := #[{ on := 9, ground := Ground.data }, { on := 10, ground := Ground.data }, { on := 7, ground := Ground.guard }], guard := some (7, true) }) (v := .bool true) rfl (by kernel_rfl) (by kernel_rfl) (by kernel_rfl) (fun _ _ _ h => h) (Or.inl ⟨by rfl, ?hy⟩) hHeld ?_
                  case hy => (intro w' hSw; (try dsimp only at hSw); go_simp; have hh := K1.out; simp at hh; simp [hh])
                  simp only [Act.put, List.setIfInBounds_toArray, List.set_cons_zero, List.set_cons_succ]
                  refine wpAnyH_take (i := 12) (oi := { dst := some 46, op := Op.pick (Operand.tmp 41) (Operand.tmp 45) (Operand.const (Value.bool false)), type := 4, pos := "l09_reader.go:217", after := #[{ on := 7, ground := Ground.data }, { on := 11, ground := Ground.data }], guard := none }) (v := .bool true) rfl (by kernel_rfl) (by kernel_rfl) (by kernel_rfl) (fun _ _ _ h => h) (Or.inl ⟨by rfl, ?hy⟩) hHeld ?_
                  case hy => (intro w' hSw; (try dsimp only at hSw); go_simp; first | done | omega | (simp; omega))
                  simp only [Act.put, List.setIfInBounds_toArray, List.set_cons_zero, List.set_cons_succ]
                  refine wpAnyH_take (i := 13) (oi := { dst := some 47, op := Op.move (Operand.tmp 46), type := 4, pos := "l09_reader.go:217", after := #[{ on := 12, ground := Ground.data }, { on := 7, ground := Ground.chain }], guard := none }) (v := .bool true) rfl (by kernel_rfl) (by kernel_rfl) (by kernel_rfl) (fun _ _ _ h => h) (Or.inl ⟨by rfl, ?hy⟩) hHeld ?_
                  case hy => (intro w' hSw; (try dsimp only at hSw); go_simp; first | done | omega | (simp; omega))
                  simp only [Act.put, List.setIfInBounds_toArray, List.set_cons_zero, List.set_cons_succ]
                  refine wpAnyH_take (i := 14) (oi := { dst := some 48, op := Op.fieldAddr 35 (Operand.tmp 13) 1, type := 0, pos := "l09_reader.go:217", after := #[{ on := 13, ground := Ground.guard }], guard := some (13, true) }) (v := ?_) rfl (by kernel_rfl) (by kernel_rfl) (by kernel_rfl) (fun _ _ _ h => h) (Or.inl ⟨by rfl, ?hy⟩) hHeld ?_
                  case hy => (intro w' hSw; (try dsimp only at hSw); go_simp; try with_reducible rfl)
                  simp only [Act.put, List.setIfInBounds_toArray, List.set_cons_zero, List.set_cons_succ]
                  refine wpAnyH_take (i := 15) (oi := { dst := some 49, op := Op.load 2 (Operand.tmp 48), type := 2, pos := "l09_reader.go:217", after := #[{ on := 14, ground := Ground.data }, { on := 13, ground := Ground.guard }], guard := some (13, true) }) (v := ?_) rfl (by kernel_rfl) (by kernel_rfl) (by kernel_rfl) (fun _ _ _ h => h) (Or.inl ⟨by rfl, ?hy⟩) hHeld ?_
                  case hy => (intro w' hSw; (try dsimp only at hSw); go_simp; try with_reducible rfl)
                  simp only [Act.put, List.setIfInBounds_toArray, List.set_cons_zero, List.set_cons_succ]
                  refine wpAnyH_take (i := 16) (oi := { dst := some 50, op := Op.move (Operand.tmp 2), type := 2, pos := "l09_reader.go:217", after := #[{ on := 13, ground := Ground.guard }], guard := some (13, true) }) (v := ?_) rfl (by kernel_rfl) (by kernel_rfl) (by kernel_rfl) (fun _ _ _ h => h) (Or.inl ⟨by rfl, ?hy⟩) hHeld ?_
                  case hy => (intro w' hSw; (try dsimp only at hSw); go_simp; try with_reducible rfl)
                  simp only [Act.put, List.setIfInBounds_toArray, List.set_cons_zero, List.set_cons_succ]
                  refine wpAnyH_take (i := 17) (oi := { dst := some 51, op := Op.binOp BinOp.eql 2 (Operand.tmp 49) (Operand.tmp 50) 2, type := 4, pos := "l09_reader.go:217", after := #[{ on := 15, ground := Ground.data }, { on := 16, ground := Ground.data }, { on := 13, ground := Ground.guard }], guard := some (13, true) }) (v := .bool false) rfl (by kernel_rfl) (by kernel_rfl) (by kernel_rfl) (fun _ _ _ h => h) (Or.inl ⟨by rfl, ?hy⟩) hHeld ?_
                  case hy => (intro w' hSw; (try dsimp only at hSw); go_simp; have hh := K2.out; simp at hh; simp [hh])
                  simp only [Act.put, List.setIfInBounds_toArray, List.set_cons_zero, List.set_cons_succ]
                  refine wpAnyH_take (i := 18) (oi := { dst := some 52, op := Op.pick (Operand.tmp 47) (Operand.tmp 51) (Operand.const (Value.bool false)), type := 4, pos := "l09_reader.go:217", after := #[{ on := 13, ground := Ground.data }, { on := 17, ground := Ground.data }], guard := none }) (v := .bool false) rfl (by kernel_rfl) (by kernel_rfl) (by kernel_rfl) (fun _ _ _ h => h) (Or.inl ⟨by rfl, ?hy⟩) hHeld ?_
                  case hy => (intro w' hSw; (try dsimp only at hSw); go_simp; first | done | omega | (simp; omega))
                  simp only [Act.put, List.setIfInBounds_toArray, List.set_cons_zero, List.set_cons_succ]
                  refine wpAnyH_take (i := 19) (oi := { dst := some 53, op := Op.move (Operand.tmp 52), type := 4, pos := "l09_reader.go:217", after := #[{ on := 18, ground := Ground.data }, { on := 13, ground := Ground.chain }], guard := none }) (v := .bool false) rfl (by kernel_rfl) (by kernel_rfl) (by kernel_rfl) (fun _ _ _ h => h) (Or.inl ⟨by rfl, ?hy⟩) hHeld ?_
                  case hy => (intro w' hSw; (try dsimp only at hSw); go_simp; first | done | omega | (simp; omega))
                  simp only [Act.put, List.setIfInBounds_toArray, List.set_cons_zero, List.set_cons_succ]
                  refine wpAnyH_take (i := 20) (oi := { dst := some 54, op := Op.fieldAddr 35 (Operand.tmp 13) 2, type := 0, pos := "l09_reader.go:217", after := #[{ on := 19, ground := Ground.guard }], guard := some (19, true) }) (v := undef) rfl (by kernel_rfl) (by kernel_rfl) (by kernel_rfl) (fun _ _ _ h => h) (Or.inr ⟨by rfl, rfl⟩) hHeld ?_
                  simp only [Act.put, List.setIfInBounds_toArray, List.set_cons_zero, List.set_cons_succ]
                  refine wpAnyH_take (i := 21) (oi := { dst := some 55, op := Op.load 2 (Operand.tmp 54), type := 2, pos := "l09_reader.go:217", after := #[{ on := 20, ground := Ground.data }, { on := 19, ground := Ground.guard }], guard := some (19, true) }) (v := undef) rfl (by kernel_rfl) (by kernel_rfl) (by kernel_rfl) (fun _ _ _ h => h) (Or.inr ⟨by rfl, rfl⟩) hHeld ?_
                  simp only [Act.put, List.setIfInBounds_toArray, List.set_cons_zero, List.set_cons_succ]
                  refine wpAnyH_take (i := 22) (oi := { dst := some 56, op := Op.move (Operand.tmp 3), type := 2, pos := "l09_reader.go:217", after := #[{ on := 19, ground := Ground.guard }], guard := some (19, true) }) (v := undef) rfl (by kernel_rfl) (by kernel_rfl) (by kernel_rfl) (fun _ _ _ h => h) (Or.inr ⟨by rfl, rfl⟩) hHeld ?_
                  simp only [Act.put, List.setIfInBounds_toArray, List.set_cons_zero, List.set_cons_succ]
                  refine wpAnyH_take (i := 23) (oi := { dst := some 57, op := Op.binOp BinOp.eql 2 (Operand.tmp 55) (Operand.tmp 56) 2, type := 4, pos := "l09_reader.go:217", after := #[{ on := 21, ground := Ground.data }, { on := 22, ground := Ground.data }, { on := 19, ground := Ground.guard }], guard := some (19, true) }) (v := undef) rfl (by kernel_rfl) (by kernel_rfl) (by kernel_rfl) (fun _ _ _ h => h) (Or.inr ⟨by rfl, rfl⟩) hHeld ?_
                  simp only [Act.put, List.setIfInBounds_toArray, List.set_cons_zero, List.set_cons_succ]
                  refine wpAnyH_take (i := 24) (oi := { dst := some 58, op := Op.pick (Operand.tmp 53) (Operand.tmp 57) (Operand.const (Value.bool false)), type := 4, pos := "l09_reader.go:217", after := #[{ on := 19, ground := Ground.data }, { on := 23, ground := Ground.data }], guard := none }) (v := .bool false) rfl (by kernel_rfl) (by kernel_rfl) (by kernel_rfl) (fun _ _ _ h => h) (Or.inl ⟨by rfl, ?hy⟩) hHeld ?_
                  case hy => (intro w' hSw; (try dsimp only at hSw); go_simp; first | done | omega | (simp; omega))
                  simp only [Act.put, List.setIfInBounds_toArray, List.set_cons_zero, List.set_cons_succ]
                  refine wpAnyH_done (by kernel_rfl) ?_ _
                  go_wp2
                  go_roundw
                  case rel => exact ⟨m + 1, by omega, by go_num, by unfold Hid; exact HN.out, HB3.out⟩
                  case measure => simp [intOf]; omega
                | true =>
                  cases q3 with
                  | false =>
                    have HN := Lib.hid (show idxF (bfP t c h n) 0 es = idxF (bfP t c h n) (m + 1) (es.drop (m + 1)) by rw [HI.out, if_neg (by rw [HP.out]; simp)])
                    refine wp_region_held_drew (S := (fun w' => w'.cell? ⟨wr.heap.size, 0, none⟩ = some (.int .i64 e.f0) ∧ w'.cell? ⟨wr.heap.size, 1, none⟩ = some (.int .i64 e.f1) ∧ w'.cell? ⟨wr.heap.size, 2, none⟩ = some (.int .i64 e.f2) ∧ w'.cell? ⟨wr.heap.size, 5, none⟩ = some (.int .i64 e.f5) ∧ w'.cell? ⟨w1.heap.size, k, none⟩ = some (.int .i64 t))) (by kernel_rfl) HY3.out (fun hHeld => ?_)
                    refine wpAnyH_take (i := 0) (oi := { dst := some 34, op := Op.fieldAddr 35 (Operand.tmp 13) 5, type := 0, pos := "l09_reader.go:217", after := #[], guard := none }) (v := ?_) rfl (by kernel_rfl) (by kernel_rfl) (by kernel_rfl) (fun _ _ _ h => h) (Or.inl ⟨by rfl, ?hy⟩) hHeld ?_
                    case hy => (intro w' hSw; (try dsimp only at hSw); go_simp; try with_reducible rfl)
                    simp only [Act.put, List.setIfInBounds_toArray, List.set_cons_zero, List.set_cons_succ]
                    refine wpAnyH_take (i := 1) (oi := { dst := some 35, op := Op.load 2 (Operand.tmp 34), type := 2, pos := "l09_reader.go:217", after := #[{ on := 0, ground := Ground.data }], guard := none }) (v := ?_) rfl (by kernel_rfl) (by kernel_rfl) (by kernel_rfl) (fun _ _ _ h => h) (Or.inl ⟨by rfl, ?hy⟩) hHeld ?_
                    case hy => (intro w' hSw; (try dsimp only at hSw); go_simp; try with_reducible rfl)
                    simp only [Act.put, List.setIfInBounds_toArray, List.set_cons_zero, List.set_cons_succ]
                    refine wpAnyH_take (i := 2) (oi := { dst := some 36, op := Op.move (Operand.tmp 10), type := 34, pos := "l09_reader.go:217", after := #[], guard := none }) (v := ?_) rfl (by kernel_rfl) (by kernel_rfl) (by kernel_rfl) (fun _ _ _ h => h) (Or.inl ⟨by rfl, ?hy⟩) hHeld ?_
                    case hy => (intro w' hSw; (try dsimp only at hSw); go_simp; try with_reducible rfl)
                    simp only [Act.put, List.setIfInBounds_toArray, List.set_cons_zero, List.set_cons_succ]
                    refine wpAnyH_take (i := 3) (oi := { dst := some 37, op := Op.move (Operand.tmp 11), type := 3, pos := "l09_reader.go:217", after := #[], guard := none }) (v := ?_) rfl (by kernel_rfl) (by kernel_rfl) (by kernel_rfl) (fun _ _ _ h => h) (Or.inl ⟨by rfl, ?hy⟩) hHeld ?_
                    case hy => (intro w' hSw; (try dsimp only at hSw); go_simp; try with_reducible rfl)
                    simp only [Act.put, List.setIfInBounds_toArray, List.set_cons_zero, List.set_cons_succ]
                    refine wpAnyH_take (i := 4) (oi := { dst := some 38, op := Op.indexAddr 34 (Operand.tmp 36) (Operand.tmp 37), type := 0, pos := "l09_reader.go:217", after := #[{ on := 2, ground := Ground.data }, { on := 3, ground := Ground.data }], guard := none }) (v := ?_) rfl (by kernel_rfl) (by kernel_rfl) (by kernel_rfl) (fun _ _ _ h => h) (Or.inl ⟨by rfl, ?hy⟩) hHeld ?_
                    case hy => (intro w' hSw; (try dsimp only at hSw); go_simp; try with_reducible rfl)
                    simp only [Act.put, List.setIfInBounds_toArray, List.set_cons_zero, List.set_cons_succ]
                    refine wpAnyH_take (i := 5) (oi := { dst := some 39, op := Op.load 2 (Operand.tmp 38), type := 2, pos := "l09_reader.go:217", after := #[{ on := 4, ground := Ground.data }], guard := none }) (v := ?_) rfl (by kernel_rfl) (by kernel_rfl) (by kernel_rfl) (fun _ _ _ h => h) (Or.inl ⟨by rfl, ?hy⟩) hHeld ?_
                    case hy => (intro w' hSw; (try dsimp only at hSw); go_simp; try with_reducible rfl)
                    simp only [Act.put, List.setIfInBounds_toArray, List.set_cons_zero, List.set_cons_succ]
                    refine wpAnyH_take (i := 6) (oi := { dst := some 40, op := Op.binOp BinOp.eql 2 (Operand.tmp 35) (Operand.tmp 39) 2, type := 4, pos := "l09_reader.go:217", after := #[{ on := 1, ground := Ground.data }, { on := 5, ground := Ground.data }], guard := none }) (v := .bool true) rfl (by kernel_rfl) (by kernel_rfl) (by kernel_rfl) (fun _ _ _ h => h) (Or.inl ⟨by rfl, ?hy⟩) hHeld ?_
                    case hy => (intro w' hSw; (try dsimp only at hSw); go_simp; have hh := K0.out; simp at hh; simp [hh])
                    simp only [Act.put, List.setIfInBounds_toArray, List.set_cons_zero, List.set_cons_succ]
                    refine wpAnyH_take (i := 7) (oi := { dst := some 41, op := Op.move (Operand.tmp 40), type := 4, pos := "l09_reader.go:217", after := #[{ on := 6, ground := Ground.data }], guard := none }) (v := .bool true) rfl (by kernel_rfl) (by kernel_rfl) (by kernel_rfl) (fun _ _ _ h => h) (Or.inl ⟨by rfl, ?hy⟩) hHeld ?_
                    case hy => (intro w' hSw; (try dsimp only at hSw); go_simp; first | done | omega | (simp; omega))
                    simp only [Act.put, List.setIfInBounds_toArray, List.set_cons_zero, List.set_cons_succ]
                    refine wpAnyH_take (i := 8) (oi := { dst := some 42, op := Op.fieldAddr 35 (Operand.tmp 13) 0, type := 0, pos := "l09_reader.go:217", after := #[{ on := 7, ground := Ground.guard }], guard := some (7, true) }) (v := ?_) rfl (by kernel_rfl) (by kernel_rfl) (by kernel_rfl) (fun _ _ _ h => h) (Or.inl ⟨by rfl, ?hy⟩) hHeld ?_
                    case hy => (intro w' hSw; (try dsimp only at hSw); go_simp; try with_reducible rfl)
                    simp only [Act.put, List.setIfInBounds_toArray, List.set_cons_zero, List.set_cons_succ]
                    refine wpAnyH_take (i := 9) (oi := { dst := some 43, op := Op.load 2 (Operand.tmp 42), type := 2, pos := "l09_reader.go:217", after := #[{ on := 8, ground := Ground.data }, { on := 7, ground := Ground.guard }], guard := some (7, true) }) (v := ?_) rfl (by kernel_rfl) (by kernel_rfl) (by kernel_rfl) (fun _ _ _ h => h) (Or.inl ⟨by rfl, ?hy⟩) hHeld ?_
                    case hy => (intro w' hSw; (try dsimp only at hSw); go_simp; try with_reducible rfl)
                    simp only [Act.put, List.setIfInBounds_toArray, List.set_cons_zero, List.set_cons_succ]
                    refine wpAnyH_take (i := 10) (oi := { dst := some 44, op := Op.move (Operand.tmp 1), type := 2, pos := "l09_reader.go:217", after := #[{ on := 7, ground := Ground.guard }], guard := some (7, true) }) (v := ?_) rfl (by kernel_rfl) (by kernel_rfl) (by kernel_rfl) (fun _ _ _ h => h) (Or.inl ⟨by rfl, ?hy⟩) hHeld ?_
                    case hy => (intro w' hSw; (try dsimp only at hSw); go_simp; try with_reducible rfl)
                    simp only [Act.put, List.setIfInBounds_toArray, List.set_cons_zero, List.set_cons_succ]
                    refine wpAnyH_take (i := 11) (oi := { dst := some 45, op := Op.binOp BinOp.eql 2 (Operand.tmp 43) (Operand.tmp 44) 2, type := 4, pos := "l09_reader.go:217", after := #[{ on := 9, ground := Ground.data }, { on := 10, ground := Ground.data }, { on := 7, ground := Ground.guard }], guard := some (7, true) }) (v := .bool true) rfl (by kernel_rfl) (by kernel_rfl) (by kernel_rfl) (fun _ _ _ h => h) (Or.inl ⟨by rfl, ?hy⟩) hHeld ?_
                    case hy => (intro w' hSw; (try dsimp only at hSw); go_simp; have hh := K1.out; simp at hh; simp [hh])
                    simp only [Act.put, List.setIfInBounds_toArray, List.set_cons_zero, List.set_cons_succ]
                    refine wpAnyH_take (i := 12) (oi := { dst := some 46, op := Op.pick (Operand.tmp 41) (Operand.tmp 45) (Operand.const (Value.bool false)), type := 4, pos := "l09_reader.go:217", after := #[{ on := 7, ground := Ground.data }, { on := 11, ground := Ground.data }], guard := none }) (v := .bool true) rfl (by kernel_rfl) (by kernel_rfl) (by kernel_rfl) (fun _ _ _ h => h) (Or.inl ⟨by rfl, ?hy⟩) hHeld ?_
                    case hy => (intro w' hSw; (try dsimp only at hSw); go_simp; first | done | omega | (simp; omega))
                    simp only [Act.put, List.setIfInBounds_toArray, List.set_cons_zero, List.set_cons_succ]
                    refine wpAnyH_take (i := 13) (oi := { dst := some 47, op := Op.move (Operand.tmp 46), type := 4, pos := "l09_reader.go:217", after := #[{ on := 12, ground := Ground.data }, { on := 7, ground := Ground.chain }], guard := none }) (v := .bool true) rfl (by kernel_rfl) (by kernel_rfl) (by kernel_rfl) (fun _ _ _ h => h) (Or.inl ⟨by rfl, ?hy⟩) hHeld ?_
                    case hy => (intro w' hSw; (try dsimp only at hSw); go_simp; first | done | omega | (simp; omega))
                    simp only [Act.put, List.setIfInBounds_toArray, List.set_cons_zero, List.set_cons_succ]
                    refine wpAnyH_take (i := 14) (oi := { dst := some 48, op := Op.fieldAddr 35 (Operand.tmp 13) 1, type := 0, pos := "l09_reader.go:217", after := #[{ on := 13, ground := Ground.guard }], guard := some (13, true) }) (v := ?_) rfl (by kernel_rfl) (by kernel_rfl) (by kernel_rfl) (fun _ _ _ h => h) (Or.inl ⟨by rfl, ?hy⟩) hHeld ?_
                    case hy => (intro w' hSw; (try dsimp only at hSw); go_simp; try with_reducible rfl)
                    simp only [Act.put, List.setIfInBounds_toArray, List.set_cons_zero, List.set_cons_succ]
                    refine wpAnyH_take (i := 15) (oi := { dst := some 49, op := Op.load 2 (Operand.tmp 48), type := 2, pos := "l09_reader.go:217", after := #[{ on := 14, ground := Ground.data }, { on := 13, ground := Ground.guard }], guard := some (13, true) }) (v := ?_) rfl (by kernel_rfl) (by kernel_rfl) (by kernel_rfl) (fun _ _ _ h => h) (Or.inl ⟨by rfl, ?hy⟩) hHeld ?_
                    case hy => (intro w' hSw; (try dsimp only at hSw); go_simp; try with_reducible rfl)
                    simp only [Act.put, List.setIfInBounds_toArray, List.set_cons_zero, List.set_cons_succ]
                    refine wpAnyH_take (i := 16) (oi := { dst := some 50, op := Op.move (Operand.tmp 2), type := 2, pos := "l09_reader.go:217", after := #[{ on := 13, ground := Ground.guard }], guard := some (13, true) }) (v := ?_) rfl (by kernel_rfl) (by kernel_rfl) (by kernel_rfl) (fun _ _ _ h => h) (Or.inl ⟨by rfl, ?hy⟩) hHeld ?_
                    case hy => (intro w' hSw; (try dsimp only at hSw); go_simp; try with_reducible rfl)
                    simp only [Act.put, List.setIfInBounds_toArray, List.set_cons_zero, List.set_cons_succ]
                    refine wpAnyH_take (i := 17) (oi := { dst := some 51, op := Op.binOp BinOp.eql 2 (Operand.tmp 49) (Operand.tmp 50) 2, type := 4, pos := "l09_reader.go:217", after := #[{ on := 15, ground := Ground.data }, { on := 16, ground := Ground.data }, { on := 13, ground := Ground.guard }], guard := some (13, true) }) (v := .bool true) rfl (by kernel_rfl) (by kernel_rfl) (by kernel_rfl) (fun _ _ _ h => h) (Or.inl ⟨by rfl, ?hy⟩) hHeld ?_
                    case hy => (intro w' hSw; (try dsimp only at hSw); go_simp; have hh := K2.out; simp at hh; simp [hh])
                    simp only [Act.put, List.setIfInBounds_toArray, List.set_cons_zero, List.set_cons_succ]
                    refine wpAnyH_take (i := 18) (oi := { dst := some 52, op := Op.pick (Operand.tmp 47) (Operand.tmp 51) (Operand.const (Value.bool false)), type := 4, pos := "l09_reader.go:217", after := #[{ on := 13, ground := Ground.data }, { on := 17, ground := Ground.data }], guard := none }) (v := .bool true) rfl (by kernel_rfl) (by kernel_rfl) (by kernel_rfl) (fun _ _ _ h => h) (Or.inl ⟨by rfl, ?hy⟩) hHeld ?_
                    case hy => (intro w' hSw; (try dsimp only at hSw); go_simp; first | done | omega | (simp; omega))
                    simp only [Act.put, List.setIfInBounds_toArray, List.set_cons_zero, List.set_cons_succ]
                    refine wpAnyH_take (i := 19) (oi := { dst := some 53, op := Op.move (Operand.tmp 52), type := 4, pos := "l09_reader.go:217", after := #[{ on := 18, ground := Ground.data }, { on := 13, ground := Ground.chain }], guard := none }) (v := .bool true) rfl (by kernel_rfl) (by kernel_rfl) (by kernel_rfl) (fun _ _ _ h => h) (Or.inl ⟨by rfl, ?hy⟩) hHeld ?_
                    case hy => (intro w' hSw; (try dsimp only at hSw); go_simp; first | done | omega | (simp; omega))
                    simp only [Act.put, List.setIfInBounds_toArray, List.set_cons_zero, List.set_cons_succ]
                    refine wpAnyH_take (i := 20) (oi := { dst := some 54, op := Op.fieldAddr 35 (Operand.tmp 13) 2, type := 0, pos := "l09_reader.go:217", after := #[{ on := 19, ground := Ground.guard }], guard := some (19, true) }) (v := ?_) rfl (by kernel_rfl) (by kernel_rfl) (by kernel_rfl) (fun _ _ _ h => h) (Or.inl ⟨by rfl, ?hy⟩) hHeld ?_
                    case hy => (intro w' hSw; (try dsimp only at hSw); go_simp; try with_reducible rfl)
                    simp only [Act.put, List.setIfInBounds_toArray, List.set_cons_zero, List.set_cons_succ]
                    refine wpAnyH_take (i := 21) (oi := { dst := some 55, op := Op.load 2 (Operand.tmp 54), type := 2, pos := "l09_reader.go:217", after := #[{ on := 20, ground := Ground.data }, { on := 19, ground := Ground.guard }], guard := some (19, true) }) (v := ?_) rfl (by kernel_rfl) (by kernel_rfl) (by kernel_rfl) (fun _ _ _ h => h) (Or.inl ⟨by rfl, ?hy⟩) hHeld ?_
                    case hy => (intro w' hSw; (try dsimp only at hSw); go_simp; try with_reducible rfl)
                    simp only [Act.put, List.setIfInBounds_toArray, List.set_cons_zero, List.set_cons_succ]
                    refine wpAnyH_take (i := 22) (oi := { dst := some 56, op := Op.move (Operand.tmp 3), type := 2, pos := "l09_reader.go:217", after := #[{ on := 19, ground := Ground.guard }], guard := some (19, true) }) (v := ?_) rfl (by kernel_rfl) (by kernel_rfl) (by kernel_rfl) (fun _ _ _ h => h) (Or.inl ⟨by rfl, ?hy⟩) hHeld ?_
                    case hy => (intro w' hSw; (try dsimp only at hSw); go_simp; try with_reducible rfl)
                    simp only [Act.put, List.setIfInBounds_toArray, List.set_cons_zero, List.set_cons_succ]
                    refine wpAnyH_take (i := 23) (oi := { dst := some 57, op := Op.binOp BinOp.eql 2 (Operand.tmp 55) (Operand.tmp 56) 2, type := 4, pos := "l09_reader.go:217", after := #[{ on := 21, ground := Ground.data }, { on := 22, ground := Ground.data }, { on := 19, ground := Ground.guard }], guard := some (19, true) }) (v := .bool false) rfl (by kernel_rfl) (by kernel_rfl) (by kernel_rfl) (fun _ _ _ h => h) (Or.inl ⟨by rfl, ?hy⟩) hHeld ?_
                    case hy => (intro w' hSw; (try dsimp only at hSw); go_simp; have hh := K3.out; simp at hh; simp [hh])
                    simp only [Act.put, List.setIfInBounds_toArray, List.set_cons_zero, List.set_cons_succ]
                    refine wpAnyH_take (i := 24) (oi := { dst := some 58, op := Op.pick (Operand.tmp 53) (Operand.tmp 57) (Operand.const (Value.bool false)), type := 4, pos := "l09_reader.go:217", after := #[{ on := 19, ground := Ground.data }, { on := 23, ground := Ground.data }], guard := none }) (v := .bool false) rfl (by kernel_rfl) (by kernel_rfl) (by kernel_rfl) (fun _ _ _ h => h) (Or.inl ⟨by rfl, ?hy⟩) hHeld ?_
                    case hy => (intro w' hSw; (try dsimp only at hSw); go_simp; first | done | omega | (simp; omega))
                    simp only [Act.put, List.setIfInBounds_toArray, List.set_cons_zero, List.set_cons_succ]
                    refine wpAnyH_done (by kernel_rfl) ?_ _
                    go_wp2
                    go_roundw
                    case rel => exact ⟨m + 1, by omega, by go_num, by unfold Hid; exact HN.out, HB3.out⟩
                    case measure => simp [intOf]; omega
                  | true =>
                    have HN := Lib.hid (show idxF (bfP t c h n) 0 es = (m : Int) by rw [HI.out, if_pos (by rw [HP.out]; rfl)])
                    refine wp_region_held_drew (S := (fun w' => w'.cell? ⟨wr.heap.size, 0, none⟩ = some (.int .i64 e.f0) ∧ w'.cell? ⟨wr.heap.size, 1, none⟩ = some (.int .i64 e.f1) ∧ w'.cell? ⟨wr.heap.size, 2, none⟩ = some (.int .i64 e.f2) ∧ w'.cell? ⟨wr.heap.size, 5, none⟩ = some (.int .i64 e.f5) ∧ w'.cell? ⟨w1.heap.size, k, none⟩ = some (.int .i64 t))) (by kernel_rfl) HY3.out (fun hHeld => ?_)
                    refine wpAnyH_take (i := 0) (oi := { dst := some 34, op := Op.fieldAddr 35 (Operand.tmp 13) 5, type := 0, pos := "l09_reader.go:217", after := #[], guard := none }) (v := ?_) rfl (by kernel_rfl) (by kernel_rfl) (by kernel_rfl) (fun _ _ _ h => h) (Or.inl ⟨by rfl, ?hy⟩) hHeld ?_
                    case hy => (intro w' hSw; (try dsimp only at hSw); go_simp; try with_reducible rfl)
                    simp only [Act.put, List.setIfInBounds_toArray, List.set_cons_zero, List.set_cons_succ]
                    refine wpAnyH_take (i := 1) (oi := { dst := some 35, op := Op.load 2 (Operand.tmp 34), type := 2, pos := "l09_reader.go:217", after := #[{ on := 0, ground := Ground.data }], guard := none }) (v := ?_) rfl (by kernel_rfl) (by kernel_rfl) (by kernel_rfl) (fun _ _ _ h => h) (Or.inl ⟨by rfl, ?hy⟩) hHeld ?_
                    case hy => (intro w' hSw; (try dsimp only at hSw); go_simp; try with_reducible rfl)
                    simp only [Act.put, List.setIfInBounds_toArray, List.set_cons_zero, List.set_cons_succ]
                    refine wpAnyH_take (i := 2) (oi := { dst := some 36, op := Op.move (Operand.tmp 10), type := 34, pos := "l09_reader.go:217", after := #[], guard := none }) (v := ?_) rfl (by kernel_rfl) (by kernel_rfl) (by kernel_rfl) (fun _ _ _ h => h) (Or.inl ⟨by rfl, ?hy⟩) hHeld ?_
                    case hy => (intro w' hSw; (try dsimp only at hSw); go_simp; try with_reducible rfl)
                    simp only [Act.put, List.setIfInBounds_toArray, List.set_cons_zero, List.set_cons_succ]
                    refine wpAnyH_take (i := 3) (oi := { dst := some 37, op := Op.move (Operand.tmp 11), type := 3, pos := "l09_reader.go:217", after := #[], guard := none }) (v := ?_) rfl (by kernel_rfl) (by kernel_rfl) (by kernel_rfl) (fun _ _ _ h => h) (Or.inl ⟨by rfl, ?hy⟩) hHeld ?_
                    case hy => (intro w' hSw; (try dsimp only at hSw); go_simp; try with_reducible rfl)
                    simp only [Act.put, List.setIfInBounds_toArray, List.set_cons_zero, List.set_cons_succ]
                    refine wpAnyH_take (i := 4) (oi := { dst := some 38, op := Op.indexAddr 34 (Operand.tmp 36) (Operand.tmp 37), type := 0, pos := "l09_reader.go:217", after := #[{ on := 2, ground := Ground.data }, { on := 3, ground := Ground.data }], guard := none }) (v := ?_) rfl (by kernel_rfl) (by kernel_rfl) (by kernel_rfl) (fun _ _ _ h => h) (Or.inl ⟨by rfl, ?hy⟩) hHeld ?_
                    case hy => (intro w' hSw; (try dsimp only at hSw); go_simp; try with_reducible rfl)
                    simp only [Act.put, List.setIfInBounds_toArray, List.set_cons_zero, List.set_cons_succ]
                    refine wpAnyH_take (i := 5) (oi := { dst := some 39, op := Op.load 2 (Operand.tmp 38), type := 2, pos := "l09_reader.go:217", after := #[{ on := 4, ground := Ground.data }], guard := none }) (v := ?_) rfl (by kernel_rfl) (by kernel_rfl) (by kernel_rfl) (fun _ _ _ h => h) (Or.inl ⟨by rfl, ?hy⟩) hHeld ?_
                    case hy => (intro w' hSw; (try dsimp only at hSw); go_simp; try with_reducible rfl)
                    simp only [Act.put, List.setIfInBounds_toArray, List.set_cons_zero, List.set_cons_succ]
                    refine wpAnyH_take (i := 6) (oi := { dst := some 40, op := Op.binOp BinOp.eql 2 (Operand.tmp 35) (Operand.tmp 39) 2, type := 4, pos := "l09_reader.go:217", after := #[{ on := 1, ground := Ground.data }, { on := 5, ground := Ground.data }], guard := none }) (v := .bool true) rfl (by kernel_rfl) (by kernel_rfl) (by kernel_rfl) (fun _ _ _ h => h) (Or.inl ⟨by rfl, ?hy⟩) hHeld ?_
                    case hy => (intro w' hSw; (try dsimp only at hSw); go_simp; have hh := K0.out; simp at hh; simp [hh])
                    simp only [Act.put, List.setIfInBounds_toArray, List.set_cons_zero, List.set_cons_succ]
                    refine wpAnyH_take (i := 7) (oi := { dst := some 41, op := Op.move (Operand.tmp 40), type := 4, pos := "l09_reader.go:217", after := #[{ on := 6, ground := Ground.data }], guard := none }) (v := .bool true) rfl (by kernel_rfl) (by kernel_rfl) (by kernel_rfl) (fun _ _ _ h => h) (Or.inl ⟨by rfl, ?hy⟩) hHeld ?_
                    case hy => (intro w' hSw; (try dsimp only at hSw); go_simp; first | done | omega | (simp; omega))
                    simp only [Act.put, List.setIfInBounds_toArray, List.set_cons_zero, List.set_cons_succ]
                    refine wpAnyH_take (i := 8) (oi := { dst := some 42, op := Op.fieldAddr 35 (Operand.tmp 13) 0, type := 0, pos := "l09_reader.go:217", after := #[{ on := 7, ground := Ground.guard }], guard := some (7, true) }) (v := ?_) rfl (by kernel_rfl) (by kernel_rfl) (by kernel_rfl) (fun _ _ _ h => h) (Or.inl ⟨by rfl, ?hy⟩) hHeld ?_
                    case hy => (intro w' hSw; (try dsimp only at hSw); go_simp; try with_reducible rfl)
                    simp only [Act.put, List.setIfInBounds_toArray, List.set_cons_zero, List.set_cons_succ]
                    refine wpAnyH_take (i := 9) (oi := { dst := some 43, op := Op.load 2 (Operand.tmp 42), type := 2, pos := "l09_reader.go:217", after := #[{ on := 8, ground := Ground.data }, { on := 7, ground := Ground.guard }], guard := some (7, true) }) (v := ?_) rfl (by kernel_rfl) (by kernel_rfl) (by kernel_rfl) (fun _ _ _ h => h) (Or.inl ⟨by rfl, ?hy⟩) hHeld ?_
                    case hy => (intro w' hSw; (try dsimp only at hSw); go_simp; try with_reducible rfl)
                    simp only [Act.put, List.setIfInBounds_toArray, List.set_cons_zero, List.set_cons_succ]
                    refine wpAnyH_take (i := 10) (oi := { dst := some 44, op := Op.move (Operand.tmp 1), type := 2, pos := "l09_reader.go:217", after := #[{ on := 7, ground := Ground.guard }], guard := some (7, true) }) (v := ?_) rfl (by kernel_rfl) (by kernel_rfl) (by kernel_rfl) (fun _ _ _ h => h) (Or.inl ⟨by rfl, ?hy⟩) hHeld ?_
                    case hy => (intro w' hSw; (try dsimp only at hSw); go_simp; try with_reducible rfl)
                    simp only [Act.put, List.setIfInBounds_toArray, List.set_cons_zero, List.set_cons_succ]
                    refine wpAnyH_take (i := 11) (oi := { dst := some 45, op := Op.binOp BinOp.eql 2 (Operand.tmp 43) (Operand.tmp 44) 2, type := 4, pos := "l09_reader.go:217", after := #[{ on := 9, ground := Ground.data }, { on := 10, ground := Ground.data }, { on := 7, ground := Ground.guard }], guard := some (7, true) }) (v := .bool true) rfl (by kernel_rfl) (by kernel_rfl) (by kernel_rfl) (fun _ _ _ h => h) (Or.inl ⟨by rfl, ?hy⟩) hHeld ?_
                    case hy => (intro w' hSw; (try dsimp only at hSw); go_simp; have hh := K1.out; simp at hh; simp [hh])
                    simp only [Act.put, List.setIfInBounds_toArray, List.set_cons_zero, List.set_cons_succ]
                    refine wpAnyH_take (i := 12) (oi := { dst := some 46, op := Op.pick (Operand.tmp 41) (Operand.tmp 45) (Operand.const (Value.bool false)), type := 4, pos := "l09_reader.go:217", after := #[{ on := 7, ground := Ground.data }, { on := 11, ground := Ground.data }], guard := none }) (v := .bool true) rfl (by kernel_rfl) (by kernel_rfl) (by kernel_rfl) (fun _ _ _ h => h) (Or.inl ⟨by rfl, ?hy⟩) hHeld ?_
                    case hy => (intro w' hSw; (try dsimp only at hSw); go_simp; first | done | omega | (simp; omega))
                    simp only [Act.put, List.setIfInBounds_toArray, List.set_cons_zero, List.set_cons_succ]
                    refine wpAnyH_take (i := 13) (oi := { dst := some 47, op := Op.move (Operand.tmp 46), type := 4, pos := "l09_reader.go:217", after := #[{ on := 12, ground := Ground.data }, { on := 7, ground := Ground.chain }], guard := none }) (v := .bool true) rfl (by kernel_rfl) (by kernel_rfl) (by kernel_rfl) (fun _ _ _ h => h) (Or.inl ⟨by rfl, ?hy⟩) hHeld ?_
                    case hy => (intro w' hSw; (try dsimp only at hSw); go_simp; first | done | omega | (simp; omega))
                    simp only [Act.put, List.setIfInBounds_toArray, List.set_cons_zero, List.set_cons_succ]
                    refine wpAnyH_take (i := 14) (oi := { dst := some 48, op := Op.fieldAddr 35 (Operand.tmp 13) 1, type := 0, pos := "l09_reader.go:217", after := #[{ on := 13, ground := Ground.guard }], guard := some (13, true) }) (v := ?_) rfl (by kernel_rfl) (by kernel_rfl) (by kernel_rfl) (fun _ _ _ h => h) (Or.inl ⟨by rfl, ?hy⟩) hHeld ?_
                    case hy => (intro w' hSw; (try dsimp only at hSw); go_simp; try with_reducible rfl)
                    simp only [Act.put, List.setIfInBounds_toArray, List.set_cons_zero, List.set_cons_succ]
                    refine wpAnyH_take (i := 15) (oi := { dst := some 49, op := Op.load 2 (Operand.tmp 48), type := 2, pos := "l09_reader.go:217", after := #[{ on := 14, ground := Ground.data }, { on := 13, ground := Ground.guard }], guard := some (13, true) }) (v := ?_) rfl (by kernel_rfl) (by kernel_rfl) (by kernel_rfl) (fun _ _ _ h => h) (Or.inl ⟨by rfl, ?hy⟩) hHeld ?_
                    case hy => (intro w' hSw; (try dsimp only at hSw); go_simp; try with_reducible rfl)
                    simp only [Act.put, List.setIfInBounds_toArray, List.set_cons_zero, List.set_cons_succ]
                    refine wpAnyH_take (i := 16) (oi := { dst := some 50, op := Op.move (Operand.tmp 2), type := 2, pos := "l09_reader.go:217", after := #[{ on := 13, ground := Ground.guard }], guard := some (13, true) }) (v := ?_) rfl (by kernel_rfl) (by kernel_rfl) (by kernel_rfl) (fun _ _ _ h => h) (Or.inl ⟨by rfl, ?hy⟩) hHeld ?_
                    case hy => (intro w' hSw; (try dsimp only at hSw); go_simp; try with_reducible rfl)
                    simp only [Act.put, List.setIfInBounds_toArray, List.set_cons_zero, List.set_cons_succ]
                    refine wpAnyH_take (i := 17) (oi := { dst := some 51, op := Op.binOp BinOp.eql 2 (Operand.tmp 49) (Operand.tmp 50) 2, type := 4, pos := "l09_reader.go:217", after := #[{ on := 15, ground := Ground.data }, { on := 16, ground := Ground.data }, { on := 13, ground := Ground.guard }], guard := some (13, true) }) (v := .bool true) rfl (by kernel_rfl) (by kernel_rfl) (by kernel_rfl) (fun _ _ _ h => h) (Or.inl ⟨by rfl, ?hy⟩) hHeld ?_
                    case hy => (intro w' hSw; (try dsimp only at hSw); go_simp; have hh := K2.out; simp at hh; simp [hh])
                    simp only [Act.put, List.setIfInBounds_toArray, List.set_cons_zero, List.set_cons_succ]
                    refine wpAnyH_take (i := 18) (oi := { dst := some 52, op := Op.pick (Operand.tmp 47) (Operand.tmp 51) (Operand.const (Value.bool false)), type := 4, pos := "l09_reader.go:217", after := #[{ on := 13, ground := Ground.data }, { on := 17, ground := Ground.data }], guard := none }) (v := .bool true) rfl (by kernel_rfl) (by kernel_rfl) (by kernel_rfl) (fun _ _ _ h => h) (Or.inl ⟨by rfl, ?hy⟩) hHeld ?_
                    case hy => (intro w' hSw; (try dsimp only at hSw); go_simp; first | done | omega | (simp; omega))
                    simp only [Act.put, List.setIfInBounds_toArray, List.set_cons_zero, List.set_cons_succ]
                    refine wpAnyH_take (i := 19) (oi := { dst := some 53, op := Op.move (Operand.tmp 52), type := 4, pos := "l09_reader.go:217", after := #[{ on := 18, ground := Ground.data }, { on := 13, ground := Ground.chain }], guard := none }) (v := .bool true) rfl (by kernel_rfl) (by kernel_rfl) (by kernel_rfl) (fun _ _ _ h => h) (Or.inl ⟨by rfl, ?hy⟩) hHeld ?_
                    case hy => (intro w' hSw; (try dsimp only at hSw); go_simp; first | done | omega | (simp; omega))
                    simp only [Act.put, List.setIfInBounds_toArray, List.set_cons_zero, List.set_cons_succ]
                    refine wpAnyH_take (i := 20) (oi := { dst := some 54, op := Op.fieldAddr 35 (Operand.tmp 13) 2, type := 0, pos := "l09_reader.go:217", after := #[{ on := 19, ground := Ground.guard }], guard := some (19, true) }) (v := ?_) rfl (by kernel_rfl) (by kernel_rfl) (by kernel_rfl) (fun _ _ _ h => h) (Or.inl ⟨by rfl, ?hy⟩) hHeld ?_
                    case hy => (intro w' hSw; (try dsimp only at hSw); go_simp; try with_reducible rfl)
                    simp only [Act.put, List.setIfInBounds_toArray, List.set_cons_zero, List.set_cons_succ]
                    refine wpAnyH_take (i := 21) (oi := { dst := some 55, op := Op.load 2 (Operand.tmp 54), type := 2, pos := "l09_reader.go:217", after := #[{ on := 20, ground := Ground.data }, { on := 19, ground := Ground.guard }], guard := some (19, true) }) (v := ?_) rfl (by kernel_rfl) (by kernel_rfl) (by kernel_rfl) (fun _ _ _ h => h) (Or.inl ⟨by rfl, ?hy⟩) hHeld ?_
                    case hy => (intro w' hSw; (try dsimp only at hSw); go_simp; try with_reducible rfl)
                    simp only [Act.put, List.setIfInBounds_toArray, List.set_cons_zero, List.set_cons_succ]
                    refine wpAnyH_take (i := 22) (oi := { dst := some 56, op := Op.move (Operand.tmp 3), type := 2, pos := "l09_reader.go:217", after := #[{ on := 19, ground := Ground.guard }], guard := some (19, true) }) (v := ?_) rfl (by kernel_rfl) (by kernel_rfl) (by kernel_rfl) (fun _ _ _ h => h) (Or.inl ⟨by rfl, ?hy⟩) hHeld ?_
                    case hy => (intro w' hSw; (try dsimp only at hSw); go_simp; try with_reducible rfl)
                    simp only [Act.put, List.setIfInBounds_toArray, List.set_cons_zero, List.set_cons_succ]
                    refine wpAnyH_take (i := 23) (oi := { dst := some 57, op := Op.binOp BinOp.eql 2 (Operand.tmp 55) (Operand.tmp 56) 2, type := 4, pos := "l09_reader.go:217", after := #[{ on := 21, ground := Ground.data }, { on := 22, ground := Ground.data }, { on := 19, ground := Ground.guard }], guard := some (19, true) }) (v := .bool true) rfl (by kernel_rfl) (by kernel_rfl) (by kernel_rfl) (fun _ _ _ h => h) (Or.inl ⟨by rfl, ?hy⟩) hHeld ?_
                    case hy => (intro w' hSw; (try dsimp only at hSw); go_simp; have hh := K3.out; simp at hh; simp [hh])
                    simp only [Act.put, List.setIfInBounds_toArray, List.set_cons_zero, List.set_cons_succ]
                    refine wpAnyH_take (i := 24) (oi := { dst := some 58, op := Op.pick (Operand.tmp 53) (Operand.tmp 57) (Operand.const (Value.bool false)), type := 4, pos := "l09_reader.go:217", after := #[{ on := 19, ground := Ground.data }, { on := 23, ground := Ground.data }], guard := none }) (v := .bool true) rfl (by kernel_rfl) (by kernel_rfl) (by kernel_rfl) (fun _ _ _ h => h) (Or.inl ⟨by rfl, ?hy⟩) hHeld ?_
                    case hy => (intro w' hSw; (try dsimp only at hSw); go_simp; first | done | omega | (simp; omega))
                    simp only [Act.put, List.setIfInBounds_toArray, List.set_cons_zero, List.set_cons_succ]
                    refine wpAnyH_done (by kernel_rfl) ?_ _
                    have HR9 := Lib.hid (show L = (m : Int) by rw [HR.out, if_pos (by rw [HN.out]; omega)]; exact HN.out)
                    go_wp2
                    go_ret2
                    have e1 : V = (m : Int) := by rw [← HV.out, HR9.out]; simp
                    have e2 : B = true := by rw [← HQ.out, HR9.out]; simp
                    rw [e1, e2]
                    exact ⟨rfl, HBW.out.trans (HB3.out.mono (by have := HBW.out.size; omega))⟩
          · obtain rfl : m = es.length := by omega
            have HN := Lib.hid (show idxF (bfP t c h n) 0 es = -1 by rw [hI.out]; simp [idxF])
            have HR9 := Lib.hid (show L = bfL es c h n (ordsF.drop (k + 1)) by rw [HR.out, if_neg (by rw [HN.out]; omega)])
            have HB2 := Lib.hid hb2
            clear hI hb2
            have hk3 : (k : Int) < 3 := by omega
            go_wp2
            go_roundw
            case rel => exact ⟨k + 1, by omega, by go_num, by unfold Hid; exact HR9.out, HB2.out⟩
            case measure => simp [intOf]; omega
      · obtain rfl : k = 3 := by omega
        have HR := Lib.hid (show L = -1 by rw [hR.out]; rfl)
        have HB := Lib.hid hb; clear hb hR
        go_wp2
        go_ret2
        have e1 : V = 0 := by rw [← HV.out, HR.out]; simp
        have e2 : B = false := by rw [← HQ.out, HR.out]; simp
        rw [e1, e2]
        exact ⟨rfl, HBW.out.trans (HB.out.mono (by have := HBW.out.size; omega))⟩
end Go.Proofs.YtlffbaelcjfibaaDoor
