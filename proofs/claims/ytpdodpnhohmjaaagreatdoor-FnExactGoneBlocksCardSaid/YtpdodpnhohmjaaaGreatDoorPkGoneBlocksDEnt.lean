/- spec: an entry of a disk with chains -/
import Derived.Test.YtpdodpnhohmjaaaGreatDoorPkGoneBlocksL16E
import Derived.Test.YtpdodpnhohmjaaaGreatDoorPkGoneBlocksL16B
import Derived.Test.YtpdodpnhohmjaaaGreatDoorPkGoneBlocksEntPl
import Derived.Test.YtpdodpnhohmjaaaGreatDoorPkGoneBlocksE
import Derived.Test.YtpdodpnhohmjaaaGreatDoorPkGoneBlocksF
import Derived.Deep.QuietTactic
namespace Go.Proofs.YtpdodpnhohmjaaaGreatDoor
open Go.RowKit
set_option maxRecDepth 20000
set_option linter.unusedVariables false
set_option linter.unusedSimpArgs false
set_option maxRecDepth 20000
def entSR (l : List UInt8) : ChainEntryV := if entSok l = true then entS l else zeroE
theorem up_at {l : List UInt8} (hl : l.length = 12) : (∀ i, i < (upZ l).length → (atE l i : Int) ≠ 0) ∧ ((upZ l).length < 8 → atE l (upZ l).length = 0) ∧ (upZ l) = l.take (upZ l).length := by
  have hp : ∀ m : List UInt8, (∀ i, i < (m.takeWhile (· != 0)).length → m[i]?.getD 0 ≠ 0) ∧ ((m.takeWhile (· != 0)).length < m.length → m[(m.takeWhile (· != 0)).length]?.getD 0 = 0) ∧ m.takeWhile (· != 0) = m.take (m.takeWhile (· != 0)).length := by
    intro m
    induction m with
    | nil => exact ⟨fun i hi => by simp at hi, fun h => by simp at h, rfl⟩
    | cons x m ih =>
      by_cases hx : (x != 0) = true
      · have e : (x :: m).takeWhile (· != 0) = x :: m.takeWhile (· != 0) := by rw [List.takeWhile_cons, if_pos hx]
        rw [e]
        refine ⟨?_, ?_, ?_⟩
        · intro i hi
          cases i with
          | zero => simpa using hx
          | succ i => simpa using ih.1 i (by simpa using hi)
        · intro h; simpa using ih.2.1 (by simpa using h)
        · rw [List.length_cons, List.take_succ_cons, ← ih.2.2]
      · have e : (x :: m).takeWhile (· != 0) = [] := by rw [List.takeWhile_cons, if_neg hx]
        rw [e]
        exact ⟨fun i hi => by simp at hi, fun _ => by simpa using hx, rfl⟩
  obtain ⟨h1, h2, h3⟩ := hp (l.take 8)
  have h8 : (l.take 8).length = 8 := by rw [List.length_take]; omega
  have hle := up_le l
  have hg : ∀ i, i < 8 → (l.take 8)[i]?.getD 0 = l[i]?.getD 0 := fun i hi => by rw [List.getElem?_take_of_lt hi]
  refine ⟨?_, ?_, ?_⟩
  · intro i hi h0
    have h := h1 i hi
    have hi8 : i < 8 := by have := hle; unfold upZ at hi this; omega
    rw [hg i hi8] at h
    apply h
    have h9 : (l[i]?.getD 0).toNat = 0 := by unfold atE at h0; omega
    exact UInt8.toNat_inj.1 h9
  · intro h
    have h' := h2 (by rw [h8]; exact h)
    have : ((l.take 8).takeWhile (· != 0)).length < 8 := h
    rw [hg _ this] at h'
    show (l[((l.take 8).takeWhile (· != 0)).length]?.getD 0).toNat = 0
    rw [h']; rfl
  · show (l.take 8).takeWhile (· != 0) = l.take ((l.take 8).takeWhile (· != 0)).length
    conv => lhs; rw [h3]
    rw [List.take_take]
    congr 1
    have : ((l.take 8).takeWhile (· != 0)).length ≤ 8 := hle
    omega
set_option maxHeartbeats 8000000 in
theorem dEntry_any (p g cap k : Nat) (es : List StringV) (w : World) (h : DAt w p g cap (chLay es.length (len0 es)) (flatL es)) (hd : diskB es = true) (hk : k < es.length / 8) :
    Calls Tryz.prog 21 #[.pointer (some ⟨p, 0, none⟩), .int .i64 (k : Int)] w fun x w' => x = .returned (.tuple #[.agg #[.string (entSR (entL es k)).f0, .int .i64 (entSR (entL es k)).f1, .int .i64 (entSR (entL es k)).f2, .bool (entSR (entL es k)).f3, .bool (entSR (entL es k)).f4], .bool (entSok (entL es k))]) ∧ Below w.heap.size w w' := by
  obtain ⟨hn, _, hz⟩ := diskB_facts hd
  obtain ⟨h1, h2, h3, h4⟩ := ent_at hd hk
  obtain ⟨u1, u2, u3⟩ := up_at h3
  have hule := up_le (entL es k)
  obtain ⟨hbx, cur, hg, hrow⟩ := h
  have hcap := hrow.2.1
  have hplt : p < w.heap.size := hbx.box.lt (by simp)
  have hglt : g < w.heap.size := (Array.getElem?_eq_some_iff.1 hg).1
  have x1 : w.cell? ⟨p, 1, none⟩ = some (.int .i64 (len0 es : Int)) := (hbx 1 _ rfl).1
  have x3 : w.cell? ⟨p, 3, none⟩ = some (.int .i64 (chDir es.length (len0 es) : Int)) := (hbx 3 _ rfl).1
  have x5 : w.cell? ⟨p, 5, none⟩ = some (.slice (some ⟨g, 0, none⟩) (flatL es).length cap) := (hbx 5 _ rfl).1
  have hnz : es.length * len0 es ≤ 4096 := Nat.le_trans (Nat.mul_le_mul hn.2 (show len0 es ≤ 32 by omega)) (by omega)
  obtain ⟨F, hF⟩ : ∃ F, chDir es.length (len0 es) * len0 es + k * 12 = F := ⟨_, rfl⟩
  rw [hF] at h1
  have hcell : ∀ i, i < 12 → w.cell? ⟨g, F + i, none⟩ = some (.int .u8 (atE (entL es k) i : Int)) := by
    intro i hi
    have hlt : F + i < (flatL es).length := by omega
    have hc := hrow.cell hg (F + i) hlt
    rw [hc]
    have : (flatL es)[F + i] = (entL es k)[i]?.getD 0 := by
      unfold entL cutL
      rw [hF, List.getElem?_take_of_lt hi, List.getElem?_drop, List.getElem?_eq_getElem hlt]
      rfl
    rw [this]
    rfl
  have e1 : (chDir es.length (len0 es) : Int) * (len0 es : Int) + (k : Int) * 12 = (F : Int) := by rw [← hF]; simp
  have hDb : chDir es.length (len0 es) * len0 es ≤ 4096 := by omega
  have hDe : (chDir es.length (len0 es) : Int) * (len0 es : Int) = ((chDir es.length (len0 es) * len0 es : Nat) : Int) := by simp
  rw [hDe] at e1
  have hls : (flatL es).length ≤ 4096 := by omega
  have hFl : F + 12 ≤ (flatL es).length := by omega
  have hk16 : k ≤ 16 := by omega
  have CE := Lib.hid (fun w' (hb : Below w.heap.size w w') i (hi : i < 12) => (hb.cell (p := ⟨g, F + i, none⟩) hglt).trans (hcell i hi))
  have R0 := Lib.hid (BoxF.new w #[.string ⟨#[]⟩, .int .i64 0, .int .i64 0, .bool false, .bool false] 45 _ rfl)
  have FA := Lib.hid ((Below.refl w.heap.size w).alloc (Nat.le_refl _) (.cells #[.string ⟨#[]⟩, .int .i64 0, .int .i64 0, .bool false, .bool false] 45))
  have hltA : w.heap.size < (w.alloc (.cells #[.string ⟨#[]⟩, .int .i64 0, .int .i64 0, .bool false, .bool false] 45)).heap.size := by simp
  generalize entL es k = l at *
  generalize hD : chDir es.length (len0 es) * len0 es = D at *
  generalize (flatL es).length = N at *
  have HU := Lib.hid (And.intro u1 (And.intro u2 u3))
  have H3 := Lib.hid h3
  clear h1 h2 h3 h4 hnz hF hd hn hz hcell hrow hg hbx u1 u2 u3 hk hD
  generalize (chDir es.length (len0 es) : Int) = dr at *
  generalize (len0 es : Int) = z at *
  have hf0 : (entS l).f0.size ≤ maxLen := by
    have : (⟨(upZ l).toArray⟩ : ByteArray).size = (upZ l).length := by show (upZ l).toArray.size = _; simp
    show (⟨(upZ l).toArray⟩ : ByteArray).size ≤ maxLen
    unfold maxLen
    omega
  have LE := Lib.hid (fun W (b : Nat) hp => l16Entry_any (entS l) b hf0 W hp)
  have HSS := Lib.hid (show entSR l = if entSok l = true then entS l else zeroE from rfl)
  have HOK := Lib.hid (show entSok l = (validS (entS l) && decide (bytesS (entS l) = l)) from rfl)
  rw [HSS.out, HOK.out]
  by_cases hv : validS (entS l) = true
  case neg =>
    have hf : validS (entS l) = false := by simpa using hv
    have hR2 : (if (validS (entS l) && decide (bytesS (entS l) = l)) = true then entS l else zeroE) = zeroE := by rw [hf]; rfl
    rw [hR2, hf, Bool.false_and]
    rw [hf] at LE
    show Calls _ _ _ _ fun x w' => x = .returned (.tuple #[.agg #[.string ⟨#[]⟩, .int .i64 0, .int .i64 0, .bool false, .bool false], .bool false]) ∧ _
    clear hv hf hR2 HSS HOK hf0
    go_enter Tryz.func21, Tryz.ntmps21
    go_wp2
    generalize (w.alloc (.cells #[.string ⟨#[]⟩, .int .i64 0, .int .i64 0, .bool false, .bool false] 45)) = W at *
    have y1 := (FA.out.cell (p := ⟨p, 1, none⟩) hplt).trans x1
    have y3 := (FA.out.cell (p := ⟨p, 3, none⟩) hplt).trans x3
    have y5 := (FA.out.cell (p := ⟨p, 5, none⟩) hplt).trans x5
    clear x1 x3 x5
    go_quiet (fail)
    rename_i nq
    have FB := Lib.hid (show Below w.heap.size w (W.drewN nq) from below_drewN' FA.out nq)
    replace R0 := Lib.hid (show BoxF (W.drewN nq) w.heap.size #[.string ⟨#[]⟩, .int .i64 0, .int .i64 0, .bool false, .bool false] from R0.out.drewN nq)
    have hltB : w.heap.size < (W.drewN nq).heap.size := hltA
    have t5 : (W.drewN nq).cell? ⟨p, 5, none⟩ = some (.slice (some ⟨g, 0, none⟩) N cap) := y5
    clear FA y1 y3 y5 hltA
    generalize W.drewN nq = W1 at *
    have eN : (F : Int) + 12 ≤ (N : Int) := by omega
    have eC : (F : Int) + 12 ≤ (cap : Int) := by omega
    have hF4 : F ≤ 4096 := by omega
    obtain ⟨m, hm⟩ : ∃ m, (upZ l).length = m := ⟨_, rfl⟩
    rw [hm] at hule HU
    go_wp2
    rw [show F + 12 - F = 12 by omega]
    obtain ⟨C2, hC2⟩ : ∃ C2, cap - F = C2 := ⟨_, rfl⟩
    have hc12 : 12 ≤ C2 := by omega
    rw [hC2]
    clear hC2
    go_loopw [8] (fun i wr => ∃ n : Nat, n ≤ m ∧ i = .int .i64 n ∧ BoxF wr w.heap.size #[.string ⟨#[]⟩, .int .i64 0, .int .i64 0, .bool false, .bool false] ∧ Below w.heap.size w wr ∧ w.heap.size < wr.heap.size) (fun i _ => m - (intOf i).toNat)
    case atStart => exact ⟨0, Nat.zero_le _, rfl, R0.out, FB.out, hltB⟩
    case round =>
      obtain ⟨n, hnm, rfl, hr0, hb, hlt⟩ := hrel
      have FR := Lib.hid hb
      have HR := Lib.hid hr0
      clear hb hr0
      by_cases hnlt : n < m
      · have cx := CE.out _ FR.out n (by omega)
        have hne := HU.out.1 n hnlt
        have n8 : (n : Int) < 8 := by omega
        generalize atE l n = bn at *
        go_wp2
        go_roundw
        case rel => exact ⟨n + 1, by omega, by go_num, HR.out, FR.out, hlt⟩
        case measure => simp [intOf]; omega
      · obtain rfl : n = m := by omega
        have KS := Lib.hid (fun w' (hb : Below w.heap.size w w') => (show (fun w' => (convert 41 9 (.slice (some ⟨g, F, none⟩) n C2)).run Tryz.prog w' = .ok (.string ⟨(upZ l).toArray⟩) w' ∧ w'.cell? ⟨g, F + 8, none⟩ = some (.int .u8 (atE l 8 : Int)) ∧ w'.cell? ⟨g, F + 9, none⟩ = some (.int .u8 (atE l 9 : Int)) ∧ w'.cell? ⟨g, F + 10, none⟩ = some (.int .u8 (atE l 10 : Int)) ∧ w'.cell? ⟨g, F + 11, none⟩ = some (.int .u8 (atE l 11 : Int))) w' from
          ⟨by
            have h := conv_of w' ⟨g, F, none⟩ C2 (upZ l) (fun j hj => by
              have e : (⟨g, F, none⟩ : Addr).add j = ⟨g, F + j, none⟩ := by unfold Addr.add; split <;> simp_all
              have hj12 : j < 12 := by omega
              rw [e, CE.out w' hb j hj12]
              have h3 := HU.out.2.2
              have hjl : j < l.length := by rw [H3.out]; exact hj12
              have e2 : (upZ l)[j] = l[j] := by
                have h4 : (upZ l)[j]? = (l.take n)[j]? := by rw [← h3]
                rw [List.getElem?_eq_getElem hj, List.getElem?_take_of_lt (by omega), List.getElem?_eq_getElem hjl] at h4
                exact Option.some.inj h4
              rw [e2]
              unfold atE
              rw [List.getElem?_eq_getElem hjl]
              rfl)
            rw [hm] at h
            exact h, CE.out w' hb 8 (by omega), CE.out w' hb 9 (by omega), CE.out w' hb 10 (by omega), CE.out w' hb 11 (by omega)⟩))
        have HB := Lib.hid (show entS l = ⟨⟨(upZ l).toArray⟩, (atE l 8 : Int), 256 * (atE l 9 : Int) + (atE l 10 : Int), decide (atE l 11 = 1), decide (atE l 11 = 2)⟩ by unfold entS entW; rw [Int.mul_comm])
        have hnC : n ≤ C2 := by omega
        have q8 := atE_lt l 8
        have q9 := atE_lt l 9
        have q10 := atE_lt l 10
        have q11 := atE_lt l 11
        generalize atE l 8 = b8 at *
        generalize atE l 9 = b9 at *
        generalize atE l 10 = b10 at *
        generalize atE l 11 = b11 at *
        have HE := Lib.hid (show (⟨(upZ l).toArray⟩ : ByteArray) = (entS l).f0 ∧ IntKind.i64.wrap (b8 : Int) = (entS l).f1 ∧ IntKind.i64.wrap (IntKind.i64.wrap (256 * IntKind.i64.wrap (b9 : Int)) + IntKind.i64.wrap (b10 : Int)) = (entS l).f2 ∧ ((b11 : Int) == 1) = (entS l).f3 ∧ ((b11 : Int) == 2) = (entS l).f4 by
          rw [HB.out]
          have j1 : IntKind.i64.wrap (b8 : Int) = b8 := IntWalk.i64_in _ (by omega)
          have j2 : IntKind.i64.wrap (b9 : Int) = b9 := IntWalk.i64_in _ (by omega)
          have j3 : IntKind.i64.wrap (b10 : Int) = b10 := IntWalk.i64_in _ (by omega)
          have j4 : IntKind.i64.wrap (256 * (b9 : Int)) = 256 * b9 := IntWalk.i64_in _ (by omega)
          have j5 : IntKind.i64.wrap (256 * (b9 : Int) + b10) = 256 * b9 + b10 := IntWalk.i64_in _ (by omega)
          rw [j1, j2, j3, j4, j5]
          refine ⟨rfl, rfl, rfl, ?_, ?_⟩
          · rw [Bool.eq_iff_iff]; simp; omega
          · rw [Bool.eq_iff_iff]; simp; omega)
        have K7 := Lib.hid (fun w' (hb : Below w.heap.size w w') => (show (fun w' => (convert 41 9 (.slice (some ⟨g, F, none⟩) 12 C2)).run Tryz.prog w' = .ok (.string ⟨l.toArray⟩) w') w' from by
          have h := conv_of w' ⟨g, F, none⟩ C2 l (fun j hj => by
            have e : (⟨g, F, none⟩ : Addr).add j = ⟨g, F + j, none⟩ := by unfold Addr.add; split <;> simp_all
            rw [e, CE.out w' hb j (by rw [← H3.out]; exact hj)]
            unfold atE
            rw [List.getElem?_eq_getElem hj]
            rfl)
          rw [H3.out] at h
          exact h))
        by_cases h8 : n < 8
        · have cx := CE.out _ FR.out n (by omega)
          rw [HU.out.2.1 h8] at cx
          have n8 : (n : Int) < 8 := by omega
          go_wp2
          refine wp_region_held_drew (S := (fun w' => (convert 41 9 (.slice (some ⟨g, F, none⟩) n C2)).run Tryz.prog w' = .ok (.string ⟨(upZ l).toArray⟩) w' ∧ w'.cell? ⟨g, F + 8, none⟩ = some (.int .u8 (b8 : Int)) ∧ w'.cell? ⟨g, F + 9, none⟩ = some (.int .u8 (b9 : Int)) ∧ w'.cell? ⟨g, F + 10, none⟩ = some (.int .u8 (b10 : Int)) ∧ w'.cell? ⟨g, F + 11, none⟩ = some (.int .u8 (b11 : Int)))) (by kernel_rfl) (KS.out _ FR.out.drew) (fun hHeld => ?_)
          refine wpAnyH_take (i := 0) (oi := { dst := some 43, op := Op.move (Operand.tmp 7), type := 41, pos := "l16_chains.go:108", after := #[], guard := none }) (v := ?_) rfl (by kernel_rfl) (by kernel_rfl) (by kernel_rfl) (fun _ _ _ h => h) (Or.inl ⟨by rfl, ?hy⟩) hHeld ?_
          case hy => (intro w' hSw; (try dsimp only at hSw); go_simp; try with_reducible rfl)
          simp only [Act.put, List.setIfInBounds_toArray, List.set_cons_zero, List.set_cons_succ]
          refine wpAnyH_take (i := 1) (oi := { dst := some 44, op := Op.move (Operand.tmp 8), type := 3, pos := "l16_chains.go:108", after := #[], guard := none }) (v := ?_) rfl (by kernel_rfl) (by kernel_rfl) (by kernel_rfl) (fun _ _ _ h => h) (Or.inl ⟨by rfl, ?hy⟩) hHeld ?_
          case hy => (intro w' hSw; (try dsimp only at hSw); go_simp; try with_reducible rfl)
          simp only [Act.put, List.setIfInBounds_toArray, List.set_cons_zero, List.set_cons_succ]
          refine wpAnyH_take (i := 2) (oi := { dst := some 45, op := Op.slice 41 (Operand.tmp 43) none (some (Operand.tmp 44)) none, type := 41, pos := "l16_chains.go:108", after := #[{ on := 0, ground := Ground.data }, { on := 1, ground := Ground.data }], guard := none }) (v := ?_) rfl (by kernel_rfl) (by kernel_rfl) (by kernel_rfl) (fun _ _ _ h => h) (Or.inl ⟨by rfl, ?hy⟩) hHeld ?_
          case hy => (intro w' hSw; (try dsimp only at hSw); go_simp; try with_reducible rfl)
          simp only [Act.put, List.setIfInBounds_toArray, List.set_cons_zero, List.set_cons_succ]
          refine wpAnyH_take (i := 3) (oi := { dst := some 46, op := Op.convert 41 9 (Operand.tmp 45), type := 9, pos := "l16_chains.go:108", after := #[{ on := 2, ground := Ground.data }], guard := none }) (v := ?_) rfl (by kernel_rfl) (by kernel_rfl) (by kernel_rfl) (fun _ _ _ h => h) (Or.inl ⟨by rfl, ?hy⟩) hHeld ?_
          case hy => (intro w' hSw; (try dsimp only at hSw); go_simp; try with_reducible rfl)
          simp only [Act.put, List.setIfInBounds_toArray, List.set_cons_zero, List.set_cons_succ]
          refine wpAnyH_take (i := 4) (oi := { dst := some 47, op := Op.move (Operand.tmp 7), type := 41, pos := "l16_chains.go:108", after := #[], guard := none }) (v := ?_) rfl (by kernel_rfl) (by kernel_rfl) (by kernel_rfl) (fun _ _ _ h => h) (Or.inl ⟨by rfl, ?hy⟩) hHeld ?_
          case hy => (intro w' hSw; (try dsimp only at hSw); go_simp; try with_reducible rfl)
          simp only [Act.put, List.setIfInBounds_toArray, List.set_cons_zero, List.set_cons_succ]
          refine wpAnyH_take (i := 5) (oi := { dst := some 48, op := Op.indexAddr 41 (Operand.tmp 47) (Operand.const (Value.int IntKind.i64 8)), type := 0, pos := "l16_chains.go:108", after := #[{ on := 4, ground := Ground.data }], guard := none }) (v := ?_) rfl (by kernel_rfl) (by kernel_rfl) (by kernel_rfl) (fun _ _ _ h => h) (Or.inl ⟨by rfl, ?hy⟩) hHeld ?_
          case hy => (intro w' hSw; (try dsimp only at hSw); go_simp; try with_reducible rfl)
          simp only [Act.put, List.setIfInBounds_toArray, List.set_cons_zero, List.set_cons_succ]
          refine wpAnyH_take (i := 6) (oi := { dst := some 49, op := Op.load 5 (Operand.tmp 48), type := 5, pos := "l16_chains.go:108", after := #[{ on := 5, ground := Ground.data }], guard := none }) (v := ?_) rfl (by kernel_rfl) (by kernel_rfl) (by kernel_rfl) (fun _ _ _ h => h) (Or.inl ⟨by rfl, ?hy⟩) hHeld ?_
          case hy => (intro w' hSw; (try dsimp only at hSw); go_simp; try with_reducible rfl)
          simp only [Act.put, List.setIfInBounds_toArray, List.set_cons_zero, List.set_cons_succ]
          refine wpAnyH_take (i := 7) (oi := { dst := some 50, op := Op.convert 5 2 (Operand.tmp 49), type := 2, pos := "l16_chains.go:108", after := #[{ on := 6, ground := Ground.data }], guard := none }) (v := ?_) rfl (by kernel_rfl) (by kernel_rfl) (by kernel_rfl) (fun _ _ _ h => h) (Or.inl ⟨by rfl, ?hy⟩) hHeld ?_
          case hy => (intro w' hSw; (try dsimp only at hSw); go_simp; try with_reducible rfl)
          simp only [Act.put, List.setIfInBounds_toArray, List.set_cons_zero, List.set_cons_succ]
          refine wpAnyH_take (i := 8) (oi := { dst := some 51, op := Op.move (Operand.tmp 7), type := 41, pos := "l16_chains.go:108", after := #[], guard := none }) (v := ?_) rfl (by kernel_rfl) (by kernel_rfl) (by kernel_rfl) (fun _ _ _ h => h) (Or.inl ⟨by rfl, ?hy⟩) hHeld ?_
          case hy => (intro w' hSw; (try dsimp only at hSw); go_simp; try with_reducible rfl)
          simp only [Act.put, List.setIfInBounds_toArray, List.set_cons_zero, List.set_cons_succ]
          refine wpAnyH_take (i := 9) (oi := { dst := some 52, op := Op.indexAddr 41 (Operand.tmp 51) (Operand.const (Value.int IntKind.i64 9)), type := 0, pos := "l16_chains.go:108", after := #[{ on := 8, ground := Ground.data }], guard := none }) (v := ?_) rfl (by kernel_rfl) (by kernel_rfl) (by kernel_rfl) (fun _ _ _ h => h) (Or.inl ⟨by rfl, ?hy⟩) hHeld ?_
          case hy => (intro w' hSw; (try dsimp only at hSw); go_simp; try with_reducible rfl)
          simp only [Act.put, List.setIfInBounds_toArray, List.set_cons_zero, List.set_cons_succ]
          refine wpAnyH_take (i := 10) (oi := { dst := some 53, op := Op.load 5 (Operand.tmp 52), type := 5, pos := "l16_chains.go:108", after := #[{ on := 9, ground := Ground.data }], guard := none }) (v := ?_) rfl (by kernel_rfl) (by kernel_rfl) (by kernel_rfl) (fun _ _ _ h => h) (Or.inl ⟨by rfl, ?hy⟩) hHeld ?_
          case hy => (intro w' hSw; (try dsimp only at hSw); go_simp; try with_reducible rfl)
          simp only [Act.put, List.setIfInBounds_toArray, List.set_cons_zero, List.set_cons_succ]
          refine wpAnyH_take (i := 11) (oi := { dst := some 54, op := Op.convert 5 2 (Operand.tmp 53), type := 2, pos := "l16_chains.go:108", after := #[{ on := 10, ground := Ground.data }], guard := none }) (v := ?_) rfl (by kernel_rfl) (by kernel_rfl) (by kernel_rfl) (fun _ _ _ h => h) (Or.inl ⟨by rfl, ?hy⟩) hHeld ?_
          case hy => (intro w' hSw; (try dsimp only at hSw); go_simp; try with_reducible rfl)
          simp only [Act.put, List.setIfInBounds_toArray, List.set_cons_zero, List.set_cons_succ]
          refine wpAnyH_take (i := 12) (oi := { dst := some 55, op := Op.binOp BinOp.mul 2 (Operand.const (Value.int IntKind.i64 256)) (Operand.tmp 54) 2, type := 2, pos := "l16_chains.go:108", after := #[{ on := 11, ground := Ground.data }], guard := none }) (v := ?_) rfl (by kernel_rfl) (by kernel_rfl) (by kernel_rfl) (fun _ _ _ h => h) (Or.inl ⟨by rfl, ?hy⟩) hHeld ?_
          case hy => (intro w' hSw; (try dsimp only at hSw); go_simp; try with_reducible rfl)
          simp only [Act.put, List.setIfInBounds_toArray, List.set_cons_zero, List.set_cons_succ]
          refine wpAnyH_take (i := 13) (oi := { dst := some 56, op := Op.move (Operand.tmp 7), type := 41, pos := "l16_chains.go:108", after := #[], guard := none }) (v := ?_) rfl (by kernel_rfl) (by kernel_rfl) (by kernel_rfl) (fun _ _ _ h => h) (Or.inl ⟨by rfl, ?hy⟩) hHeld ?_
          case hy => (intro w' hSw; (try dsimp only at hSw); go_simp; try with_reducible rfl)
          simp only [Act.put, List.setIfInBounds_toArray, List.set_cons_zero, List.set_cons_succ]
          refine wpAnyH_take (i := 14) (oi := { dst := some 57, op := Op.indexAddr 41 (Operand.tmp 56) (Operand.const (Value.int IntKind.i64 10)), type := 0, pos := "l16_chains.go:108", after := #[{ on := 13, ground := Ground.data }], guard := none }) (v := ?_) rfl (by kernel_rfl) (by kernel_rfl) (by kernel_rfl) (fun _ _ _ h => h) (Or.inl ⟨by rfl, ?hy⟩) hHeld ?_
          case hy => (intro w' hSw; (try dsimp only at hSw); go_simp; try with_reducible rfl)
          simp only [Act.put, List.setIfInBounds_toArray, List.set_cons_zero, List.set_cons_succ]
          refine wpAnyH_take (i := 15) (oi := { dst := some 58, op := Op.load 5 (Operand.tmp 57), type := 5, pos := "l16_chains.go:108", after := #[{ on := 14, ground := Ground.data }], guard := none }) (v := ?_) rfl (by kernel_rfl) (by kernel_rfl) (by kernel_rfl) (fun _ _ _ h => h) (Or.inl ⟨by rfl, ?hy⟩) hHeld ?_
          case hy => (intro w' hSw; (try dsimp only at hSw); go_simp; try with_reducible rfl)
          simp only [Act.put, List.setIfInBounds_toArray, List.set_cons_zero, List.set_cons_succ]
          refine wpAnyH_take (i := 16) (oi := { dst := some 59, op := Op.convert 5 2 (Operand.tmp 58), type := 2, pos := "l16_chains.go:108", after := #[{ on := 15, ground := Ground.data }], guard := none }) (v := ?_) rfl (by kernel_rfl) (by kernel_rfl) (by kernel_rfl) (fun _ _ _ h => h) (Or.inl ⟨by rfl, ?hy⟩) hHeld ?_
          case hy => (intro w' hSw; (try dsimp only at hSw); go_simp; try with_reducible rfl)
          simp only [Act.put, List.setIfInBounds_toArray, List.set_cons_zero, List.set_cons_succ]
          refine wpAnyH_take (i := 17) (oi := { dst := some 60, op := Op.binOp BinOp.add 2 (Operand.tmp 55) (Operand.tmp 59) 2, type := 2, pos := "l16_chains.go:108", after := #[{ on := 12, ground := Ground.data }, { on := 16, ground := Ground.data }], guard := none }) (v := ?_) rfl (by kernel_rfl) (by kernel_rfl) (by kernel_rfl) (fun _ _ _ h => h) (Or.inl ⟨by rfl, ?hy⟩) hHeld ?_
          case hy => (intro w' hSw; (try dsimp only at hSw); go_simp; try with_reducible rfl)
          simp only [Act.put, List.setIfInBounds_toArray, List.set_cons_zero, List.set_cons_succ]
          refine wpAnyH_take (i := 18) (oi := { dst := some 61, op := Op.move (Operand.tmp 7), type := 41, pos := "l16_chains.go:108", after := #[], guard := none }) (v := ?_) rfl (by kernel_rfl) (by kernel_rfl) (by kernel_rfl) (fun _ _ _ h => h) (Or.inl ⟨by rfl, ?hy⟩) hHeld ?_
          case hy => (intro w' hSw; (try dsimp only at hSw); go_simp; try with_reducible rfl)
          simp only [Act.put, List.setIfInBounds_toArray, List.set_cons_zero, List.set_cons_succ]
          refine wpAnyH_take (i := 19) (oi := { dst := some 62, op := Op.indexAddr 41 (Operand.tmp 61) (Operand.const (Value.int IntKind.i64 11)), type := 0, pos := "l16_chains.go:108", after := #[{ on := 18, ground := Ground.data }], guard := none }) (v := ?_) rfl (by kernel_rfl) (by kernel_rfl) (by kernel_rfl) (fun _ _ _ h => h) (Or.inl ⟨by rfl, ?hy⟩) hHeld ?_
          case hy => (intro w' hSw; (try dsimp only at hSw); go_simp; try with_reducible rfl)
          simp only [Act.put, List.setIfInBounds_toArray, List.set_cons_zero, List.set_cons_succ]
          refine wpAnyH_take (i := 20) (oi := { dst := some 63, op := Op.load 5 (Operand.tmp 62), type := 5, pos := "l16_chains.go:108", after := #[{ on := 19, ground := Ground.data }], guard := none }) (v := ?_) rfl (by kernel_rfl) (by kernel_rfl) (by kernel_rfl) (fun _ _ _ h => h) (Or.inl ⟨by rfl, ?hy⟩) hHeld ?_
          case hy => (intro w' hSw; (try dsimp only at hSw); go_simp; try with_reducible rfl)
          simp only [Act.put, List.setIfInBounds_toArray, List.set_cons_zero, List.set_cons_succ]
          refine wpAnyH_take (i := 21) (oi := { dst := some 64, op := Op.binOp BinOp.eql 5 (Operand.tmp 63) (Operand.const (Value.int IntKind.u8 1)) 5, type := 4, pos := "l16_chains.go:108", after := #[{ on := 20, ground := Ground.data }], guard := none }) (v := ?_) rfl (by kernel_rfl) (by kernel_rfl) (by kernel_rfl) (fun _ _ _ h => h) (Or.inl ⟨by rfl, ?hy⟩) hHeld ?_
          case hy => (intro w' hSw; (try dsimp only at hSw); go_simp; try with_reducible rfl)
          simp only [Act.put, List.setIfInBounds_toArray, List.set_cons_zero, List.set_cons_succ]
          refine wpAnyH_take (i := 22) (oi := { dst := some 65, op := Op.move (Operand.tmp 7), type := 41, pos := "l16_chains.go:108", after := #[], guard := none }) (v := ?_) rfl (by kernel_rfl) (by kernel_rfl) (by kernel_rfl) (fun _ _ _ h => h) (Or.inl ⟨by rfl, ?hy⟩) hHeld ?_
          case hy => (intro w' hSw; (try dsimp only at hSw); go_simp; try with_reducible rfl)
          simp only [Act.put, List.setIfInBounds_toArray, List.set_cons_zero, List.set_cons_succ]
          refine wpAnyH_take (i := 23) (oi := { dst := some 66, op := Op.indexAddr 41 (Operand.tmp 65) (Operand.const (Value.int IntKind.i64 11)), type := 0, pos := "l16_chains.go:108", after := #[{ on := 22, ground := Ground.data }], guard := none }) (v := ?_) rfl (by kernel_rfl) (by kernel_rfl) (by kernel_rfl) (fun _ _ _ h => h) (Or.inl ⟨by rfl, ?hy⟩) hHeld ?_
          case hy => (intro w' hSw; (try dsimp only at hSw); go_simp; try with_reducible rfl)
          simp only [Act.put, List.setIfInBounds_toArray, List.set_cons_zero, List.set_cons_succ]
          refine wpAnyH_take (i := 24) (oi := { dst := some 67, op := Op.load 5 (Operand.tmp 66), type := 5, pos := "l16_chains.go:108", after := #[{ on := 23, ground := Ground.data }], guard := none }) (v := ?_) rfl (by kernel_rfl) (by kernel_rfl) (by kernel_rfl) (fun _ _ _ h => h) (Or.inl ⟨by rfl, ?hy⟩) hHeld ?_
          case hy => (intro w' hSw; (try dsimp only at hSw); go_simp; try with_reducible rfl)
          simp only [Act.put, List.setIfInBounds_toArray, List.set_cons_zero, List.set_cons_succ]
          refine wpAnyH_take (i := 25) (oi := { dst := some 68, op := Op.binOp BinOp.eql 5 (Operand.tmp 67) (Operand.const (Value.int IntKind.u8 2)) 5, type := 4, pos := "l16_chains.go:108", after := #[{ on := 24, ground := Ground.data }], guard := none }) (v := ?_) rfl (by kernel_rfl) (by kernel_rfl) (by kernel_rfl) (fun _ _ _ h => h) (Or.inl ⟨by rfl, ?hy⟩) hHeld ?_
          case hy => (intro w' hSw; (try dsimp only at hSw); go_simp; try with_reducible rfl)
          simp only [Act.put, List.setIfInBounds_toArray, List.set_cons_zero, List.set_cons_succ]
          refine wpAnyH_take (i := 26) (oi := { dst := some 69, op := Op.build 45 #[(0, Operand.tmp 46), (1, Operand.tmp 50), (2, Operand.tmp 60), (3, Operand.tmp 64), (4, Operand.tmp 68)], type := 45, pos := "l16_chains.go:108", after := #[{ on := 3, ground := Ground.data }, { on := 7, ground := Ground.data }, { on := 17, ground := Ground.data }, { on := 21, ground := Ground.data }, { on := 25, ground := Ground.data }], guard := none }) (v := ?_) rfl (by kernel_rfl) (by kernel_rfl) (by kernel_rfl) (fun _ _ _ h => h) (Or.inl ⟨by rfl, ?hy⟩) hHeld ?_
          case hy => (intro w' hSw; (try dsimp only at hSw); go_simp; try with_reducible rfl)
          simp only [Act.put, List.setIfInBounds_toArray, List.set_cons_zero, List.set_cons_succ]
          refine wpAnyH_ready (rs := [27]) (by kernel_rfl) (by simp) ?_
          refine AllReadyH.cons (o := { dst := some 9, op := Op.alloc 45, type := 0, pos := "l16_chains.go:108", after := #[], guard := none }) rfl (fun K hK => ?_) AllReadyH.nil
          go_simp
          refine hK.out _ _ (KS.out _ (by first | exact FR.out.drew | exact (FR.out.alloc FR.out.size _).drew)) (fun hHeld => ?_)
          clear hK K
          try simp only [Act.put, List.setIfInBounds_toArray, List.set_cons_zero, List.set_cons_succ]
          refine wpAnyH_ready (rs := [28]) (by kernel_rfl) (by simp) ?_
          refine AllReadyH.cons (o := { dst := none, op := Op.store 45 (Operand.tmp 9) (Operand.tmp 69), type := 0, pos := "l16_chains.go:108", after := #[{ on := 27, ground := Ground.data }, { on := 26, ground := Ground.data }, { on := 0, ground := Ground.phase }, { on := 1, ground := Ground.phase }, { on := 2, ground := Ground.phase }, { on := 3, ground := Ground.phase }, { on := 4, ground := Ground.phase }, { on := 5, ground := Ground.phase }, { on := 6, ground := Ground.phase }, { on := 7, ground := Ground.phase }, { on := 8, ground := Ground.phase }, { on := 9, ground := Ground.phase }, { on := 10, ground := Ground.phase }, { on := 11, ground := Ground.phase }, { on := 12, ground := Ground.phase }, { on := 13, ground := Ground.phase }, { on := 14, ground := Ground.phase }, { on := 15, ground := Ground.phase }, { on := 16, ground := Ground.phase }, { on := 17, ground := Ground.phase }, { on := 18, ground := Ground.phase }, { on := 19, ground := Ground.phase }, { on := 20, ground := Ground.phase }, { on := 21, ground := Ground.phase }, { on := 22, ground := Ground.phase }, { on := 23, ground := Ground.phase }, { on := 24, ground := Ground.phase }, { on := 25, ground := Ground.phase }, { on := 26, ground := Ground.phase }, { on := 27, ground := Ground.phase }], guard := none }) rfl (fun K hK => ?_) AllReadyH.nil
          go_simp
          refine hK.out _ _ (KS.out _ (by first | exact FR.out.drew | exact (FR.out.alloc FR.out.size _).drew)) (fun hHeld => ?_)
          clear hK K
          try simp only [Act.put, List.setIfInBounds_toArray, List.set_cons_zero, List.set_cons_succ]
          refine wpAnyH_done (by kernel_rfl) ?_ _
          obtain ⟨i0, i1, i2, i3, i4⟩ := HE.out
          rw [i0, i1, i2, i3, i4]
          clear i0 i1 i2 i3 i4
          have FW := Lib.hid (show Below wr.heap.size wr (wr.alloc (.cells #[.string (entS l).f0, .int .i64 (entS l).f1, .int .i64 (entS l).f2, .bool (entS l).f3, .bool (entS l).f4] 45)).drew from ((Below.refl _ _).alloc (Nat.le_refl _) _).drew)
          have KB := Lib.hid (show BoxAt (wr.alloc (.cells #[.string (entS l).f0, .int .i64 (entS l).f1, .int .i64 (entS l).f2, .bool (entS l).f3, .bool (entS l).f4] 45)).drew wr.heap.size #[.string (entS l).f0, .int .i64 (entS l).f1, .int .i64 (entS l).f2, .bool (entS l).f3, .bool (entS l).f4] from BoxAt.new wr #[.string (entS l).f0, .int .i64 (entS l).f1, .int .i64 (entS l).f2, .bool (entS l).f3, .bool (entS l).f4] 45 wr.heap.size rfl)
          replace HR := Lib.hid (HR.out.below FW.out hlt)
          replace FR := Lib.hid (FR.out.trans (FW.out.mono FR.out.size))
          have hlt1 : w.heap.size < (wr.alloc (.cells #[.string (entS l).f0, .int .i64 (entS l).f1, .int .i64 (entS l).f2, .bool (entS l).f3, .bool (entS l).f4] 45)).drew.heap.size := by simp; omega
          have hlt2 : wr.heap.size < (wr.alloc (.cells #[.string (entS l).f0, .int .i64 (entS l).f1, .int .i64 (entS l).f2, .bool (entS l).f3, .bool (entS l).f4] 45)).drew.heap.size := by simp
          clear FW KS HE HU hlt
          generalize (wr.alloc (.cells #[.string (entS l).f0, .int .i64 (entS l).f1, .int .i64 (entS l).f2, .bool (entS l).f3, .bool (entS l).f4] 45)).drew = W at KB HR FR hlt1 hlt2 ⊢
          generalize wr.heap.size = gb at KB hlt2 ⊢
          have HC := Lib.hid (show Below W.heap.size W W.drew from (Below.refl _ _).drew)
          go_upto_region 7 with (fail)
          refine wp_region_held_drew (S := (fun w' => (convert 41 9 (.slice (some ⟨g, F, none⟩) 12 C2)).run Tryz.prog w' = .ok (.string ⟨l.toArray⟩) w')) (by kernel_rfl) (K7.out _ (FR.out.trans (HC.out.mono FR.out.size))) (fun hHeld => ?_)
          refine wpAnyH_ready (rs := [0]) (by kernel_rfl) (by simp) ?_
          refine AllReadyH.cons (o := { dst := some 70, op := Op.call { callee := Callee.value (Operand.func 34), args := #[Operand.tmp 9], argTypes := #[60] }, type := 4, pos := "l16_chains.go:109", after := #[], guard := none }) rfl (fun K hK => ?_) AllReadyH.nil
          go_simp
          go_at_call 34; refine (LE.out _ gb (KB.out.below HC.out hlt2)).mono ?_; rintro e wk1 ⟨rfl, hb1⟩; replace HC := Lib.hid (HC.out.trans (hb1.mono HC.out.size))
          go_wp2_with fail
          refine hK.out _ _ (K7.out _ (FR.out.trans (HC.out.mono FR.out.size))) (fun hHeld => ?_)
          clear hK K
          try simp only [Act.put, List.setIfInBounds_toArray, List.set_cons_zero, List.set_cons_succ]
          refine wpAnyH_take (i := 1) (oi := { dst := some 71, op := Op.unOp UnOp.not 4 (Operand.tmp 70), type := 4, pos := "l16_chains.go:109", after := #[{ on := 0, ground := Ground.data }], guard := none }) (v := ?_) rfl (by kernel_rfl) (by kernel_rfl) (by kernel_rfl) (fun _ _ _ h => h) (Or.inl ⟨by rfl, ?hy⟩) hHeld ?_
          case hy => (intro w' hSw; (try dsimp only at hSw); go_simp; try with_reducible rfl)
          simp only [Act.put, List.setIfInBounds_toArray, List.set_cons_zero, List.set_cons_succ]
          refine wpAnyH_take (i := 2) (oi := { dst := some 72, op := Op.move (Operand.tmp 71), type := 4, pos := "l16_chains.go:109", after := #[{ on := 1, ground := Ground.data }, { on := 0, ground := Ground.chain }], guard := none }) (v := ?_) rfl (by kernel_rfl) (by kernel_rfl) (by kernel_rfl) (fun _ _ _ h => h) (Or.inl ⟨by rfl, ?hy⟩) hHeld ?_
          case hy => (intro w' hSw; (try dsimp only at hSw); go_simp; try with_reducible rfl)
          simp only [Act.put, List.setIfInBounds_toArray, List.set_cons_zero, List.set_cons_succ]
          refine wpAnyH_take (i := 3) (oi := { dst := some 73, op := Op.call { callee := Callee.value (Operand.func 35), args := #[Operand.tmp 9], argTypes := #[60] }, type := 41, pos := "l16_chains.go:109", after := #[{ on := 2, ground := Ground.chain }, { on := 2, ground := Ground.guard }], guard := some (2, false) }) (v := undef) rfl (by kernel_rfl) (by kernel_rfl) (by kernel_rfl) (fun _ _ _ h => h) (Or.inr ⟨by rfl, rfl⟩) hHeld ?_
          simp only [Act.put, List.setIfInBounds_toArray, List.set_cons_zero, List.set_cons_succ]
          refine wpAnyH_take (i := 4) (oi := { dst := some 74, op := Op.convert 41 9 (Operand.tmp 73), type := 9, pos := "l16_chains.go:109", after := #[{ on := 3, ground := Ground.data }, { on := 2, ground := Ground.guard }], guard := some (2, false) }) (v := undef) rfl (by kernel_rfl) (by kernel_rfl) (by kernel_rfl) (fun _ _ _ h => h) (Or.inr ⟨by rfl, rfl⟩) hHeld ?_
          simp only [Act.put, List.setIfInBounds_toArray, List.set_cons_zero, List.set_cons_succ]
          refine wpAnyH_take (i := 5) (oi := { dst := some 75, op := Op.move (Operand.tmp 7), type := 41, pos := "l16_chains.go:109", after := #[{ on := 2, ground := Ground.guard }], guard := some (2, false) }) (v := undef) rfl (by kernel_rfl) (by kernel_rfl) (by kernel_rfl) (fun _ _ _ h => h) (Or.inr ⟨by rfl, rfl⟩) hHeld ?_
          simp only [Act.put, List.setIfInBounds_toArray, List.set_cons_zero, List.set_cons_succ]
          refine wpAnyH_take (i := 6) (oi := { dst := some 76, op := Op.convert 41 9 (Operand.tmp 75), type := 9, pos := "l16_chains.go:109", after := #[{ on := 5, ground := Ground.data }, { on := 2, ground := Ground.guard }], guard := some (2, false) }) (v := undef) rfl (by kernel_rfl) (by kernel_rfl) (by kernel_rfl) (fun _ _ _ h => h) (Or.inr ⟨by rfl, rfl⟩) hHeld ?_
          simp only [Act.put, List.setIfInBounds_toArray, List.set_cons_zero, List.set_cons_succ]
          refine wpAnyH_take (i := 7) (oi := { dst := some 77, op := Op.binOp BinOp.neq 9 (Operand.tmp 74) (Operand.tmp 76) 9, type := 4, pos := "l16_chains.go:109", after := #[{ on := 4, ground := Ground.data }, { on := 6, ground := Ground.data }, { on := 2, ground := Ground.guard }], guard := some (2, false) }) (v := undef) rfl (by kernel_rfl) (by kernel_rfl) (by kernel_rfl) (fun _ _ _ h => h) (Or.inr ⟨by rfl, rfl⟩) hHeld ?_
          simp only [Act.put, List.setIfInBounds_toArray, List.set_cons_zero, List.set_cons_succ]
          refine wpAnyH_take (i := 8) (oi := { dst := some 78, op := Op.pick (Operand.tmp 72) (Operand.const (Value.bool true)) (Operand.tmp 77), type := 4, pos := "l16_chains.go:109", after := #[{ on := 2, ground := Ground.data }, { on := 7, ground := Ground.data }], guard := none }) (v := ?_) rfl (by kernel_rfl) (by kernel_rfl) (by kernel_rfl) (fun _ _ _ h => h) (Or.inl ⟨by rfl, ?hy⟩) hHeld ?_
          case hy => (intro w' hSw; (try dsimp only at hSw); go_simp; try with_reducible rfl)
          simp only [Act.put, List.setIfInBounds_toArray, List.set_cons_zero, List.set_cons_succ]
          refine wpAnyH_done (by kernel_rfl) ?_ _
          replace HR := Lib.hid (HR.out.below HC.out hlt1)
          replace KB := Lib.hid (KB.out.below HC.out hlt2)
          replace FR := Lib.hid (FR.out.trans (HC.out.mono FR.out.size))
          obtain ⟨a0, z0⟩ := HR.out 0 _ rfl
          obtain ⟨a1, z1⟩ := HR.out 1 _ rfl
          obtain ⟨a2, z2⟩ := HR.out 2 _ rfl
          obtain ⟨a3, z3⟩ := HR.out 3 _ rfl
          obtain ⟨a4, z4⟩ := HR.out 4 _ rfl
          go_wp2
          refine bodyPost_ret (v := .tuple #[.agg #[.string ⟨#[]⟩, .int .i64 0, .int .i64 0, .bool false, .bool false], .bool false]) (by simp [results, Tryz.results21, go_sem, a0, a1, a2, a3, a4]) rfl ⟨rfl, ?_⟩
          exact ((((FR.out.setCell (by simp) _).setCell (by simp) _).setCell (by simp) _).setCell (by simp) _).setCell (by simp) _
        · have n8 : ¬ (n : Int) < 8 := by omega
          go_wp2
          refine wp_region_held_drew (S := (fun w' => (convert 41 9 (.slice (some ⟨g, F, none⟩) n C2)).run Tryz.prog w' = .ok (.string ⟨(upZ l).toArray⟩) w' ∧ w'.cell? ⟨g, F + 8, none⟩ = some (.int .u8 (b8 : Int)) ∧ w'.cell? ⟨g, F + 9, none⟩ = some (.int .u8 (b9 : Int)) ∧ w'.cell? ⟨g, F + 10, none⟩ = some (.int .u8 (b10 : Int)) ∧ w'.cell? ⟨g, F + 11, none⟩ = some (.int .u8 (b11 : Int)))) (by kernel_rfl) (KS.out _ FR.out.drew) (fun hHeld => ?_)
          refine wpAnyH_take (i := 0) (oi := { dst := some 43, op := Op.move (Operand.tmp 7), type := 41, pos := "l16_chains.go:108", after := #[], guard := none }) (v := ?_) rfl (by kernel_rfl) (by kernel_rfl) (by kernel_rfl) (fun _ _ _ h => h) (Or.inl ⟨by rfl, ?hy⟩) hHeld ?_
          case hy => (intro w' hSw; (try dsimp only at hSw); go_simp; try with_reducible rfl)
          simp only [Act.put, List.setIfInBounds_toArray, List.set_cons_zero, List.set_cons_succ]
          refine wpAnyH_take (i := 1) (oi := { dst := some 44, op := Op.move (Operand.tmp 8), type := 3, pos := "l16_chains.go:108", after := #[], guard := none }) (v := ?_) rfl (by kernel_rfl) (by kernel_rfl) (by kernel_rfl) (fun _ _ _ h => h) (Or.inl ⟨by rfl, ?hy⟩) hHeld ?_
          case hy => (intro w' hSw; (try dsimp only at hSw); go_simp; try with_reducible rfl)
          simp only [Act.put, List.setIfInBounds_toArray, List.set_cons_zero, List.set_cons_succ]
          refine wpAnyH_take (i := 2) (oi := { dst := some 45, op := Op.slice 41 (Operand.tmp 43) none (some (Operand.tmp 44)) none, type := 41, pos := "l16_chains.go:108", after := #[{ on := 0, ground := Ground.data }, { on := 1, ground := Ground.data }], guard := none }) (v := ?_) rfl (by kernel_rfl) (by kernel_rfl) (by kernel_rfl) (fun _ _ _ h => h) (Or.inl ⟨by rfl, ?hy⟩) hHeld ?_
          case hy => (intro w' hSw; (try dsimp only at hSw); go_simp; try with_reducible rfl)
          simp only [Act.put, List.setIfInBounds_toArray, List.set_cons_zero, List.set_cons_succ]
          refine wpAnyH_take (i := 3) (oi := { dst := some 46, op := Op.convert 41 9 (Operand.tmp 45), type := 9, pos := "l16_chains.go:108", after := #[{ on := 2, ground := Ground.data }], guard := none }) (v := ?_) rfl (by kernel_rfl) (by kernel_rfl) (by kernel_rfl) (fun _ _ _ h => h) (Or.inl ⟨by rfl, ?hy⟩) hHeld ?_
          case hy => (intro w' hSw; (try dsimp only at hSw); go_simp; try with_reducible rfl)
          simp only [Act.put, List.setIfInBounds_toArray, List.set_cons_zero, List.set_cons_succ]
          refine wpAnyH_take (i := 4) (oi := { dst := some 47, op := Op.move (Operand.tmp 7), type := 41, pos := "l16_chains.go:108", after := #[], guard := none }) (v := ?_) rfl (by kernel_rfl) (by kernel_rfl) (by kernel_rfl) (fun _ _ _ h => h) (Or.inl ⟨by rfl, ?hy⟩) hHeld ?_
          case hy => (intro w' hSw; (try dsimp only at hSw); go_simp; try with_reducible rfl)
          simp only [Act.put, List.setIfInBounds_toArray, List.set_cons_zero, List.set_cons_succ]
          refine wpAnyH_take (i := 5) (oi := { dst := some 48, op := Op.indexAddr 41 (Operand.tmp 47) (Operand.const (Value.int IntKind.i64 8)), type := 0, pos := "l16_chains.go:108", after := #[{ on := 4, ground := Ground.data }], guard := none }) (v := ?_) rfl (by kernel_rfl) (by kernel_rfl) (by kernel_rfl) (fun _ _ _ h => h) (Or.inl ⟨by rfl, ?hy⟩) hHeld ?_
          case hy => (intro w' hSw; (try dsimp only at hSw); go_simp; try with_reducible rfl)
          simp only [Act.put, List.setIfInBounds_toArray, List.set_cons_zero, List.set_cons_succ]
          refine wpAnyH_take (i := 6) (oi := { dst := some 49, op := Op.load 5 (Operand.tmp 48), type := 5, pos := "l16_chains.go:108", after := #[{ on := 5, ground := Ground.data }], guard := none }) (v := ?_) rfl (by kernel_rfl) (by kernel_rfl) (by kernel_rfl) (fun _ _ _ h => h) (Or.inl ⟨by rfl, ?hy⟩) hHeld ?_
          case hy => (intro w' hSw; (try dsimp only at hSw); go_simp; try with_reducible rfl)
          simp only [Act.put, List.setIfInBounds_toArray, List.set_cons_zero, List.set_cons_succ]
          refine wpAnyH_take (i := 7) (oi := { dst := some 50, op := Op.convert 5 2 (Operand.tmp 49), type := 2, pos := "l16_chains.go:108", after := #[{ on := 6, ground := Ground.data }], guard := none }) (v := ?_) rfl (by kernel_rfl) (by kernel_rfl) (by kernel_rfl) (fun _ _ _ h => h) (Or.inl ⟨by rfl, ?hy⟩) hHeld ?_
          case hy => (intro w' hSw; (try dsimp only at hSw); go_simp; try with_reducible rfl)
          simp only [Act.put, List.setIfInBounds_toArray, List.set_cons_zero, List.set_cons_succ]
          refine wpAnyH_take (i := 8) (oi := { dst := some 51, op := Op.move (Operand.tmp 7), type := 41, pos := "l16_chains.go:108", after := #[], guard := none }) (v := ?_) rfl (by kernel_rfl) (by kernel_rfl) (by kernel_rfl) (fun _ _ _ h => h) (Or.inl ⟨by rfl, ?hy⟩) hHeld ?_
          case hy => (intro w' hSw; (try dsimp only at hSw); go_simp; try with_reducible rfl)
          simp only [Act.put, List.setIfInBounds_toArray, List.set_cons_zero, List.set_cons_succ]
          refine wpAnyH_take (i := 9) (oi := { dst := some 52, op := Op.indexAddr 41 (Operand.tmp 51) (Operand.const (Value.int IntKind.i64 9)), type := 0, pos := "l16_chains.go:108", after := #[{ on := 8, ground := Ground.data }], guard := none }) (v := ?_) rfl (by kernel_rfl) (by kernel_rfl) (by kernel_rfl) (fun _ _ _ h => h) (Or.inl ⟨by rfl, ?hy⟩) hHeld ?_
          case hy => (intro w' hSw; (try dsimp only at hSw); go_simp; try with_reducible rfl)
          simp only [Act.put, List.setIfInBounds_toArray, List.set_cons_zero, List.set_cons_succ]
          refine wpAnyH_take (i := 10) (oi := { dst := some 53, op := Op.load 5 (Operand.tmp 52), type := 5, pos := "l16_chains.go:108", after := #[{ on := 9, ground := Ground.data }], guard := none }) (v := ?_) rfl (by kernel_rfl) (by kernel_rfl) (by kernel_rfl) (fun _ _ _ h => h) (Or.inl ⟨by rfl, ?hy⟩) hHeld ?_
          case hy => (intro w' hSw; (try dsimp only at hSw); go_simp; try with_reducible rfl)
          simp only [Act.put, List.setIfInBounds_toArray, List.set_cons_zero, List.set_cons_succ]
          refine wpAnyH_take (i := 11) (oi := { dst := some 54, op := Op.convert 5 2 (Operand.tmp 53), type := 2, pos := "l16_chains.go:108", after := #[{ on := 10, ground := Ground.data }], guard := none }) (v := ?_) rfl (by kernel_rfl) (by kernel_rfl) (by kernel_rfl) (fun _ _ _ h => h) (Or.inl ⟨by rfl, ?hy⟩) hHeld ?_
          case hy => (intro w' hSw; (try dsimp only at hSw); go_simp; try with_reducible rfl)
          simp only [Act.put, List.setIfInBounds_toArray, List.set_cons_zero, List.set_cons_succ]
          refine wpAnyH_take (i := 12) (oi := { dst := some 55, op := Op.binOp BinOp.mul 2 (Operand.const (Value.int IntKind.i64 256)) (Operand.tmp 54) 2, type := 2, pos := "l16_chains.go:108", after := #[{ on := 11, ground := Ground.data }], guard := none }) (v := ?_) rfl (by kernel_rfl) (by kernel_rfl) (by kernel_rfl) (fun _ _ _ h => h) (Or.inl ⟨by rfl, ?hy⟩) hHeld ?_
          case hy => (intro w' hSw; (try dsimp only at hSw); go_simp; try with_reducible rfl)
          simp only [Act.put, List.setIfInBounds_toArray, List.set_cons_zero, List.set_cons_succ]
          refine wpAnyH_take (i := 13) (oi := { dst := some 56, op := Op.move (Operand.tmp 7), type := 41, pos := "l16_chains.go:108", after := #[], guard := none }) (v := ?_) rfl (by kernel_rfl) (by kernel_rfl) (by kernel_rfl) (fun _ _ _ h => h) (Or.inl ⟨by rfl, ?hy⟩) hHeld ?_
          case hy => (intro w' hSw; (try dsimp only at hSw); go_simp; try with_reducible rfl)
          simp only [Act.put, List.setIfInBounds_toArray, List.set_cons_zero, List.set_cons_succ]
          refine wpAnyH_take (i := 14) (oi := { dst := some 57, op := Op.indexAddr 41 (Operand.tmp 56) (Operand.const (Value.int IntKind.i64 10)), type := 0, pos := "l16_chains.go:108", after := #[{ on := 13, ground := Ground.data }], guard := none }) (v := ?_) rfl (by kernel_rfl) (by kernel_rfl) (by kernel_rfl) (fun _ _ _ h => h) (Or.inl ⟨by rfl, ?hy⟩) hHeld ?_
          case hy => (intro w' hSw; (try dsimp only at hSw); go_simp; try with_reducible rfl)
          simp only [Act.put, List.setIfInBounds_toArray, List.set_cons_zero, List.set_cons_succ]
          refine wpAnyH_take (i := 15) (oi := { dst := some 58, op := Op.load 5 (Operand.tmp 57), type := 5, pos := "l16_chains.go:108", after := #[{ on := 14, ground := Ground.data }], guard := none }) (v := ?_) rfl (by kernel_rfl) (by kernel_rfl) (by kernel_rfl) (fun _ _ _ h => h) (Or.inl ⟨by rfl, ?hy⟩) hHeld ?_
          case hy => (intro w' hSw; (try dsimp only at hSw); go_simp; try with_reducible rfl)
          simp only [Act.put, List.setIfInBounds_toArray, List.set_cons_zero, List.set_cons_succ]
          refine wpAnyH_take (i := 16) (oi := { dst := some 59, op := Op.convert 5 2 (Operand.tmp 58), type := 2, pos := "l16_chains.go:108", after := #[{ on := 15, ground := Ground.data }], guard := none }) (v := ?_) rfl (by kernel_rfl) (by kernel_rfl) (by kernel_rfl) (fun _ _ _ h => h) (Or.inl ⟨by rfl, ?hy⟩) hHeld ?_
          case hy => (intro w' hSw; (try dsimp only at hSw); go_simp; try with_reducible rfl)
          simp only [Act.put, List.setIfInBounds_toArray, List.set_cons_zero, List.set_cons_succ]
          refine wpAnyH_take (i := 17) (oi := { dst := some 60, op := Op.binOp BinOp.add 2 (Operand.tmp 55) (Operand.tmp 59) 2, type := 2, pos := "l16_chains.go:108", after := #[{ on := 12, ground := Ground.data }, { on := 16, ground := Ground.data }], guard := none }) (v := ?_) rfl (by kernel_rfl) (by kernel_rfl) (by kernel_rfl) (fun _ _ _ h => h) (Or.inl ⟨by rfl, ?hy⟩) hHeld ?_
          case hy => (intro w' hSw; (try dsimp only at hSw); go_simp; try with_reducible rfl)
          simp only [Act.put, List.setIfInBounds_toArray, List.set_cons_zero, List.set_cons_succ]
          refine wpAnyH_take (i := 18) (oi := { dst := some 61, op := Op.move (Operand.tmp 7), type := 41, pos := "l16_chains.go:108", after := #[], guard := none }) (v := ?_) rfl (by kernel_rfl) (by kernel_rfl) (by kernel_rfl) (fun _ _ _ h => h) (Or.inl ⟨by rfl, ?hy⟩) hHeld ?_
          case hy => (intro w' hSw; (try dsimp only at hSw); go_simp; try with_reducible rfl)
          simp only [Act.put, List.setIfInBounds_toArray, List.set_cons_zero, List.set_cons_succ]
          refine wpAnyH_take (i := 19) (oi := { dst := some 62, op := Op.indexAddr 41 (Operand.tmp 61) (Operand.const (Value.int IntKind.i64 11)), type := 0, pos := "l16_chains.go:108", after := #[{ on := 18, ground := Ground.data }], guard := none }) (v := ?_) rfl (by kernel_rfl) (by kernel_rfl) (by kernel_rfl) (fun _ _ _ h => h) (Or.inl ⟨by rfl, ?hy⟩) hHeld ?_
          case hy => (intro w' hSw; (try dsimp only at hSw); go_simp; try with_reducible rfl)
          simp only [Act.put, List.setIfInBounds_toArray, List.set_cons_zero, List.set_cons_succ]
          refine wpAnyH_take (i := 20) (oi := { dst := some 63, op := Op.load 5 (Operand.tmp 62), type := 5, pos := "l16_chains.go:108", after := #[{ on := 19, ground := Ground.data }], guard := none }) (v := ?_) rfl (by kernel_rfl) (by kernel_rfl) (by kernel_rfl) (fun _ _ _ h => h) (Or.inl ⟨by rfl, ?hy⟩) hHeld ?_
          case hy => (intro w' hSw; (try dsimp only at hSw); go_simp; try with_reducible rfl)
          simp only [Act.put, List.setIfInBounds_toArray, List.set_cons_zero, List.set_cons_succ]
          refine wpAnyH_take (i := 21) (oi := { dst := some 64, op := Op.binOp BinOp.eql 5 (Operand.tmp 63) (Operand.const (Value.int IntKind.u8 1)) 5, type := 4, pos := "l16_chains.go:108", after := #[{ on := 20, ground := Ground.data }], guard := none }) (v := ?_) rfl (by kernel_rfl) (by kernel_rfl) (by kernel_rfl) (fun _ _ _ h => h) (Or.inl ⟨by rfl, ?hy⟩) hHeld ?_
          case hy => (intro w' hSw; (try dsimp only at hSw); go_simp; try with_reducible rfl)
          simp only [Act.put, List.setIfInBounds_toArray, List.set_cons_zero, List.set_cons_succ]
          refine wpAnyH_take (i := 22) (oi := { dst := some 65, op := Op.move (Operand.tmp 7), type := 41, pos := "l16_chains.go:108", after := #[], guard := none }) (v := ?_) rfl (by kernel_rfl) (by kernel_rfl) (by kernel_rfl) (fun _ _ _ h => h) (Or.inl ⟨by rfl, ?hy⟩) hHeld ?_
          case hy => (intro w' hSw; (try dsimp only at hSw); go_simp; try with_reducible rfl)
          simp only [Act.put, List.setIfInBounds_toArray, List.set_cons_zero, List.set_cons_succ]
          refine wpAnyH_take (i := 23) (oi := { dst := some 66, op := Op.indexAddr 41 (Operand.tmp 65) (Operand.const (Value.int IntKind.i64 11)), type := 0, pos := "l16_chains.go:108", after := #[{ on := 22, ground := Ground.data }], guard := none }) (v := ?_) rfl (by kernel_rfl) (by kernel_rfl) (by kernel_rfl) (fun _ _ _ h => h) (Or.inl ⟨by rfl, ?hy⟩) hHeld ?_
          case hy => (intro w' hSw; (try dsimp only at hSw); go_simp; try with_reducible rfl)
          simp only [Act.put, List.setIfInBounds_toArray, List.set_cons_zero, List.set_cons_succ]
          refine wpAnyH_take (i := 24) (oi := { dst := some 67, op := Op.load 5 (Operand.tmp 66), type := 5, pos := "l16_chains.go:108", after := #[{ on := 23, ground := Ground.data }], guard := none }) (v := ?_) rfl (by kernel_rfl) (by kernel_rfl) (by kernel_rfl) (fun _ _ _ h => h) (Or.inl ⟨by rfl, ?hy⟩) hHeld ?_
          case hy => (intro w' hSw; (try dsimp only at hSw); go_simp; try with_reducible rfl)
          simp only [Act.put, List.setIfInBounds_toArray, List.set_cons_zero, List.set_cons_succ]
          refine wpAnyH_take (i := 25) (oi := { dst := some 68, op := Op.binOp BinOp.eql 5 (Operand.tmp 67) (Operand.const (Value.int IntKind.u8 2)) 5, type := 4, pos := "l16_chains.go:108", after := #[{ on := 24, ground := Ground.data }], guard := none }) (v := ?_) rfl (by kernel_rfl) (by kernel_rfl) (by kernel_rfl) (fun _ _ _ h => h) (Or.inl ⟨by rfl, ?hy⟩) hHeld ?_
          case hy => (intro w' hSw; (try dsimp only at hSw); go_simp; try with_reducible rfl)
          simp only [Act.put, List.setIfInBounds_toArray, List.set_cons_zero, List.set_cons_succ]
          refine wpAnyH_take (i := 26) (oi := { dst := some 69, op := Op.build 45 #[(0, Operand.tmp 46), (1, Operand.tmp 50), (2, Operand.tmp 60), (3, Operand.tmp 64), (4, Operand.tmp 68)], type := 45, pos := "l16_chains.go:108", after := #[{ on := 3, ground := Ground.data }, { on := 7, ground := Ground.data }, { on := 17, ground := Ground.data }, { on := 21, ground := Ground.data }, { on := 25, ground := Ground.data }], guard := none }) (v := ?_) rfl (by kernel_rfl) (by kernel_rfl) (by kernel_rfl) (fun _ _ _ h => h) (Or.inl ⟨by rfl, ?hy⟩) hHeld ?_
          case hy => (intro w' hSw; (try dsimp only at hSw); go_simp; try with_reducible rfl)
          simp only [Act.put, List.setIfInBounds_toArray, List.set_cons_zero, List.set_cons_succ]
          refine wpAnyH_ready (rs := [27]) (by kernel_rfl) (by simp) ?_
          refine AllReadyH.cons (o := { dst := some 9, op := Op.alloc 45, type := 0, pos := "l16_chains.go:108", after := #[], guard := none }) rfl (fun K hK => ?_) AllReadyH.nil
          go_simp
          refine hK.out _ _ (KS.out _ (by first | exact FR.out.drew | exact (FR.out.alloc FR.out.size _).drew)) (fun hHeld => ?_)
          clear hK K
          try simp only [Act.put, List.setIfInBounds_toArray, List.set_cons_zero, List.set_cons_succ]
          refine wpAnyH_ready (rs := [28]) (by kernel_rfl) (by simp) ?_
          refine AllReadyH.cons (o := { dst := none, op := Op.store 45 (Operand.tmp 9) (Operand.tmp 69), type := 0, pos := "l16_chains.go:108", after := #[{ on := 27, ground := Ground.data }, { on := 26, ground := Ground.data }, { on := 0, ground := Ground.phase }, { on := 1, ground := Ground.phase }, { on := 2, ground := Ground.phase }, { on := 3, ground := Ground.phase }, { on := 4, ground := Ground.phase }, { on := 5, ground := Ground.phase }, { on := 6, ground := Ground.phase }, { on := 7, ground := Ground.phase }, { on := 8, ground := Ground.phase }, { on := 9, ground := Ground.phase }, { on := 10, ground := Ground.phase }, { on := 11, ground := Ground.phase }, { on := 12, ground := Ground.phase }, { on := 13, ground := Ground.phase }, { on := 14, ground := Ground.phase }, { on := 15, ground := Ground.phase }, { on := 16, ground := Ground.phase }, { on := 17, ground := Ground.phase }, { on := 18, ground := Ground.phase }, { on := 19, ground := Ground.phase }, { on := 20, ground := Ground.phase }, { on := 21, ground := Ground.phase }, { on := 22, ground := Ground.phase }, { on := 23, ground := Ground.phase }, { on := 24, ground := Ground.phase }, { on := 25, ground := Ground.phase }, { on := 26, ground := Ground.phase }, { on := 27, ground := Ground.phase }], guard := none }) rfl (fun K hK => ?_) AllReadyH.nil
          go_simp
          refine hK.out _ _ (KS.out _ (by first | exact FR.out.drew | exact (FR.out.alloc FR.out.size _).drew)) (fun hHeld => ?_)
          clear hK K
          try simp only [Act.put, List.setIfInBounds_toArray, List.set_cons_zero, List.set_cons_succ]
          refine wpAnyH_done (by kernel_rfl) ?_ _
          obtain ⟨i0, i1, i2, i3, i4⟩ := HE.out
          rw [i0, i1, i2, i3, i4]
          clear i0 i1 i2 i3 i4
          have FW := Lib.hid (show Below wr.heap.size wr (wr.alloc (.cells #[.string (entS l).f0, .int .i64 (entS l).f1, .int .i64 (entS l).f2, .bool (entS l).f3, .bool (entS l).f4] 45)).drew from ((Below.refl _ _).alloc (Nat.le_refl _) _).drew)
          have KB := Lib.hid (show BoxAt (wr.alloc (.cells #[.string (entS l).f0, .int .i64 (entS l).f1, .int .i64 (entS l).f2, .bool (entS l).f3, .bool (entS l).f4] 45)).drew wr.heap.size #[.string (entS l).f0, .int .i64 (entS l).f1, .int .i64 (entS l).f2, .bool (entS l).f3, .bool (entS l).f4] from BoxAt.new wr #[.string (entS l).f0, .int .i64 (entS l).f1, .int .i64 (entS l).f2, .bool (entS l).f3, .bool (entS l).f4] 45 wr.heap.size rfl)
          replace HR := Lib.hid (HR.out.below FW.out hlt)
          replace FR := Lib.hid (FR.out.trans (FW.out.mono FR.out.size))
          have hlt1 : w.heap.size < (wr.alloc (.cells #[.string (entS l).f0, .int .i64 (entS l).f1, .int .i64 (entS l).f2, .bool (entS l).f3, .bool (entS l).f4] 45)).drew.heap.size := by simp; omega
          have hlt2 : wr.heap.size < (wr.alloc (.cells #[.string (entS l).f0, .int .i64 (entS l).f1, .int .i64 (entS l).f2, .bool (entS l).f3, .bool (entS l).f4] 45)).drew.heap.size := by simp
          clear FW KS HE HU hlt
          generalize (wr.alloc (.cells #[.string (entS l).f0, .int .i64 (entS l).f1, .int .i64 (entS l).f2, .bool (entS l).f3, .bool (entS l).f4] 45)).drew = W at KB HR FR hlt1 hlt2 ⊢
          generalize wr.heap.size = gb at KB hlt2 ⊢
          have HC := Lib.hid (show Below W.heap.size W W.drew from (Below.refl _ _).drew)
          go_upto_region 7 with (fail)
          refine wp_region_held_drew (S := (fun w' => (convert 41 9 (.slice (some ⟨g, F, none⟩) 12 C2)).run Tryz.prog w' = .ok (.string ⟨l.toArray⟩) w')) (by kernel_rfl) (K7.out _ (FR.out.trans (HC.out.mono FR.out.size))) (fun hHeld => ?_)
          refine wpAnyH_ready (rs := [0]) (by kernel_rfl) (by simp) ?_
          refine AllReadyH.cons (o := { dst := some 70, op := Op.call { callee := Callee.value (Operand.func 34), args := #[Operand.tmp 9], argTypes := #[60] }, type := 4, pos := "l16_chains.go:109", after := #[], guard := none }) rfl (fun K hK => ?_) AllReadyH.nil
          go_simp
          go_at_call 34; refine (LE.out _ gb (KB.out.below HC.out hlt2)).mono ?_; rintro e wk1 ⟨rfl, hb1⟩; replace HC := Lib.hid (HC.out.trans (hb1.mono HC.out.size))
          go_wp2_with fail
          refine hK.out _ _ (K7.out _ (FR.out.trans (HC.out.mono FR.out.size))) (fun hHeld => ?_)
          clear hK K
          try simp only [Act.put, List.setIfInBounds_toArray, List.set_cons_zero, List.set_cons_succ]
          refine wpAnyH_take (i := 1) (oi := { dst := some 71, op := Op.unOp UnOp.not 4 (Operand.tmp 70), type := 4, pos := "l16_chains.go:109", after := #[{ on := 0, ground := Ground.data }], guard := none }) (v := ?_) rfl (by kernel_rfl) (by kernel_rfl) (by kernel_rfl) (fun _ _ _ h => h) (Or.inl ⟨by rfl, ?hy⟩) hHeld ?_
          case hy => (intro w' hSw; (try dsimp only at hSw); go_simp; try with_reducible rfl)
          simp only [Act.put, List.setIfInBounds_toArray, List.set_cons_zero, List.set_cons_succ]
          refine wpAnyH_take (i := 2) (oi := { dst := some 72, op := Op.move (Operand.tmp 71), type := 4, pos := "l16_chains.go:109", after := #[{ on := 1, ground := Ground.data }, { on := 0, ground := Ground.chain }], guard := none }) (v := ?_) rfl (by kernel_rfl) (by kernel_rfl) (by kernel_rfl) (fun _ _ _ h => h) (Or.inl ⟨by rfl, ?hy⟩) hHeld ?_
          case hy => (intro w' hSw; (try dsimp only at hSw); go_simp; try with_reducible rfl)
          simp only [Act.put, List.setIfInBounds_toArray, List.set_cons_zero, List.set_cons_succ]
          refine wpAnyH_take (i := 3) (oi := { dst := some 73, op := Op.call { callee := Callee.value (Operand.func 35), args := #[Operand.tmp 9], argTypes := #[60] }, type := 41, pos := "l16_chains.go:109", after := #[{ on := 2, ground := Ground.chain }, { on := 2, ground := Ground.guard }], guard := some (2, false) }) (v := undef) rfl (by kernel_rfl) (by kernel_rfl) (by kernel_rfl) (fun _ _ _ h => h) (Or.inr ⟨by rfl, rfl⟩) hHeld ?_
          simp only [Act.put, List.setIfInBounds_toArray, List.set_cons_zero, List.set_cons_succ]
          refine wpAnyH_take (i := 4) (oi := { dst := some 74, op := Op.convert 41 9 (Operand.tmp 73), type := 9, pos := "l16_chains.go:109", after := #[{ on := 3, ground := Ground.data }, { on := 2, ground := Ground.guard }], guard := some (2, false) }) (v := undef) rfl (by kernel_rfl) (by kernel_rfl) (by kernel_rfl) (fun _ _ _ h => h) (Or.inr ⟨by rfl, rfl⟩) hHeld ?_
          simp only [Act.put, List.setIfInBounds_toArray, List.set_cons_zero, List.set_cons_succ]
          refine wpAnyH_take (i := 5) (oi := { dst := some 75, op := Op.move (Operand.tmp 7), type := 41, pos := "l16_chains.go:109", after := #[{ on := 2, ground := Ground.guard }], guard := some (2, false) }) (v := undef) rfl (by kernel_rfl) (by kernel_rfl) (by kernel_rfl) (fun _ _ _ h => h) (Or.inr ⟨by rfl, rfl⟩) hHeld ?_
          simp only [Act.put, List.setIfInBounds_toArray, List.set_cons_zero, List.set_cons_succ]
          refine wpAnyH_take (i := 6) (oi := { dst := some 76, op := Op.convert 41 9 (Operand.tmp 75), type := 9, pos := "l16_chains.go:109", after := #[{ on := 5, ground := Ground.data }, { on := 2, ground := Ground.guard }], guard := some (2, false) }) (v := undef) rfl (by kernel_rfl) (by kernel_rfl) (by kernel_rfl) (fun _ _ _ h => h) (Or.inr ⟨by rfl, rfl⟩) hHeld ?_
          simp only [Act.put, List.setIfInBounds_toArray, List.set_cons_zero, List.set_cons_succ]
          refine wpAnyH_take (i := 7) (oi := { dst := some 77, op := Op.binOp BinOp.neq 9 (Operand.tmp 74) (Operand.tmp 76) 9, type := 4, pos := "l16_chains.go:109", after := #[{ on := 4, ground := Ground.data }, { on := 6, ground := Ground.data }, { on := 2, ground := Ground.guard }], guard := some (2, false) }) (v := undef) rfl (by kernel_rfl) (by kernel_rfl) (by kernel_rfl) (fun _ _ _ h => h) (Or.inr ⟨by rfl, rfl⟩) hHeld ?_
          simp only [Act.put, List.setIfInBounds_toArray, List.set_cons_zero, List.set_cons_succ]
          refine wpAnyH_take (i := 8) (oi := { dst := some 78, op := Op.pick (Operand.tmp 72) (Operand.const (Value.bool true)) (Operand.tmp 77), type := 4, pos := "l16_chains.go:109", after := #[{ on := 2, ground := Ground.data }, { on := 7, ground := Ground.data }], guard := none }) (v := ?_) rfl (by kernel_rfl) (by kernel_rfl) (by kernel_rfl) (fun _ _ _ h => h) (Or.inl ⟨by rfl, ?hy⟩) hHeld ?_
          case hy => (intro w' hSw; (try dsimp only at hSw); go_simp; try with_reducible rfl)
          simp only [Act.put, List.setIfInBounds_toArray, List.set_cons_zero, List.set_cons_succ]
          refine wpAnyH_done (by kernel_rfl) ?_ _
          replace HR := Lib.hid (HR.out.below HC.out hlt1)
          replace KB := Lib.hid (KB.out.below HC.out hlt2)
          replace FR := Lib.hid (FR.out.trans (HC.out.mono FR.out.size))
          obtain ⟨a0, z0⟩ := HR.out 0 _ rfl
          obtain ⟨a1, z1⟩ := HR.out 1 _ rfl
          obtain ⟨a2, z2⟩ := HR.out 2 _ rfl
          obtain ⟨a3, z3⟩ := HR.out 3 _ rfl
          obtain ⟨a4, z4⟩ := HR.out 4 _ rfl
          go_wp2
          refine bodyPost_ret (v := .tuple #[.agg #[.string ⟨#[]⟩, .int .i64 0, .int .i64 0, .bool false, .bool false], .bool false]) (by simp [results, Tryz.results21, go_sem, a0, a1, a2, a3, a4]) rfl ⟨rfl, ?_⟩
          exact ((((FR.out.setCell (by simp) _).setCell (by simp) _).setCell (by simp) _).setCell (by simp) _).setCell (by simp) _
  have hvb : validBd (entS l) := validE_bds (by rw [← validS_eq]; exact hv)
  have LB := Lib.hid (fun W (b : Nat) hp => l16Bytes_any (entS l) b hvb W hp)
  have HV := Lib.hid (fun (W : World) (b : Nat) (hr : RB W b (bytesS (entS l))) => show (convert 41 9 (.slice (some ⟨b, 0, none⟩) 12 12)).run Tryz.prog W = .ok (.string ⟨(bytesS (entS l)).toArray⟩) W from by
    obtain ⟨C, hC, hr⟩ := hr
    exact hr.conv hC 12 12 (bytesS_len hvb.1))
  rw [hv] at LE
  by_cases hbl : bytesS (entS l) = l
  case neg =>
    have hR2 : (if (validS (entS l) && decide (bytesS (entS l) = l)) = true then entS l else zeroE) = zeroE := by rw [hv, decide_eq_false hbl]; rfl
    rw [hR2, hv, decide_eq_false hbl, Bool.and_false]
    show Calls _ _ _ _ fun x w' => x = .returned (.tuple #[.agg #[.string ⟨#[]⟩, .int .i64 0, .int .i64 0, .bool false, .bool false], .bool false]) ∧ _
    have hne9 : (bytesS (entS l) == l) = false := beq_eq_false_iff_ne.2 hbl
    clear hv hR2 HSS HOK hf0 hbl hvb
    go_enter Tryz.func21, Tryz.ntmps21
    go_wp2
    generalize (w.alloc (.cells #[.string ⟨#[]⟩, .int .i64 0, .int .i64 0, .bool false, .bool false] 45)) = W at *
    have y1 := (FA.out.cell (p := ⟨p, 1, none⟩) hplt).trans x1
    have y3 := (FA.out.cell (p := ⟨p, 3, none⟩) hplt).trans x3
    have y5 := (FA.out.cell (p := ⟨p, 5, none⟩) hplt).trans x5
    clear x1 x3 x5
    go_quiet (fail)
    rename_i nq
    have FB := Lib.hid (show Below w.heap.size w (W.drewN nq) from below_drewN' FA.out nq)
    replace R0 := Lib.hid (show BoxF (W.drewN nq) w.heap.size #[.string ⟨#[]⟩, .int .i64 0, .int .i64 0, .bool false, .bool false] from R0.out.drewN nq)
    have hltB : w.heap.size < (W.drewN nq).heap.size := hltA
    have t5 : (W.drewN nq).cell? ⟨p, 5, none⟩ = some (.slice (some ⟨g, 0, none⟩) N cap) := y5
    clear FA y1 y3 y5 hltA
    generalize W.drewN nq = W1 at *
    have eN : (F : Int) + 12 ≤ (N : Int) := by omega
    have eC : (F : Int) + 12 ≤ (cap : Int) := by omega
    have hF4 : F ≤ 4096 := by omega
    obtain ⟨m, hm⟩ : ∃ m, (upZ l).length = m := ⟨_, rfl⟩
    rw [hm] at hule HU
    go_wp2
    rw [show F + 12 - F = 12 by omega]
    obtain ⟨C2, hC2⟩ : ∃ C2, cap - F = C2 := ⟨_, rfl⟩
    have hc12 : 12 ≤ C2 := by omega
    rw [hC2]
    clear hC2
    go_loopw [8] (fun i wr => ∃ n : Nat, n ≤ m ∧ i = .int .i64 n ∧ BoxF wr w.heap.size #[.string ⟨#[]⟩, .int .i64 0, .int .i64 0, .bool false, .bool false] ∧ Below w.heap.size w wr ∧ w.heap.size < wr.heap.size) (fun i _ => m - (intOf i).toNat)
    case atStart => exact ⟨0, Nat.zero_le _, rfl, R0.out, FB.out, hltB⟩
    case round =>
      obtain ⟨n, hnm, rfl, hr0, hb, hlt⟩ := hrel
      have FR := Lib.hid hb
      have HR := Lib.hid hr0
      clear hb hr0
      by_cases hnlt : n < m
      · have cx := CE.out _ FR.out n (by omega)
        have hne := HU.out.1 n hnlt
        have n8 : (n : Int) < 8 := by omega
        generalize atE l n = bn at *
        go_wp2
        go_roundw
        case rel => exact ⟨n + 1, by omega, by go_num, HR.out, FR.out, hlt⟩
        case measure => simp [intOf]; omega
      · obtain rfl : n = m := by omega
        have KS := Lib.hid (fun w' (hb : Below w.heap.size w w') => (show (fun w' => (convert 41 9 (.slice (some ⟨g, F, none⟩) n C2)).run Tryz.prog w' = .ok (.string ⟨(upZ l).toArray⟩) w' ∧ w'.cell? ⟨g, F + 8, none⟩ = some (.int .u8 (atE l 8 : Int)) ∧ w'.cell? ⟨g, F + 9, none⟩ = some (.int .u8 (atE l 9 : Int)) ∧ w'.cell? ⟨g, F + 10, none⟩ = some (.int .u8 (atE l 10 : Int)) ∧ w'.cell? ⟨g, F + 11, none⟩ = some (.int .u8 (atE l 11 : Int))) w' from
          ⟨by
            have h := conv_of w' ⟨g, F, none⟩ C2 (upZ l) (fun j hj => by
              have e : (⟨g, F, none⟩ : Addr).add j = ⟨g, F + j, none⟩ := by unfold Addr.add; split <;> simp_all
              have hj12 : j < 12 := by omega
              rw [e, CE.out w' hb j hj12]
              have h3 := HU.out.2.2
              have hjl : j < l.length := by rw [H3.out]; exact hj12
              have e2 : (upZ l)[j] = l[j] := by
                have h4 : (upZ l)[j]? = (l.take n)[j]? := by rw [← h3]
                rw [List.getElem?_eq_getElem hj, List.getElem?_take_of_lt (by omega), List.getElem?_eq_getElem hjl] at h4
                exact Option.some.inj h4
              rw [e2]
              unfold atE
              rw [List.getElem?_eq_getElem hjl]
              rfl)
            rw [hm] at h
            exact h, CE.out w' hb 8 (by omega), CE.out w' hb 9 (by omega), CE.out w' hb 10 (by omega), CE.out w' hb 11 (by omega)⟩))
        have HB := Lib.hid (show entS l = ⟨⟨(upZ l).toArray⟩, (atE l 8 : Int), 256 * (atE l 9 : Int) + (atE l 10 : Int), decide (atE l 11 = 1), decide (atE l 11 = 2)⟩ by unfold entS entW; rw [Int.mul_comm])
        have hnC : n ≤ C2 := by omega
        have q8 := atE_lt l 8
        have q9 := atE_lt l 9
        have q10 := atE_lt l 10
        have q11 := atE_lt l 11
        generalize atE l 8 = b8 at *
        generalize atE l 9 = b9 at *
        generalize atE l 10 = b10 at *
        generalize atE l 11 = b11 at *
        have HE := Lib.hid (show (⟨(upZ l).toArray⟩ : ByteArray) = (entS l).f0 ∧ IntKind.i64.wrap (b8 : Int) = (entS l).f1 ∧ IntKind.i64.wrap (IntKind.i64.wrap (256 * IntKind.i64.wrap (b9 : Int)) + IntKind.i64.wrap (b10 : Int)) = (entS l).f2 ∧ ((b11 : Int) == 1) = (entS l).f3 ∧ ((b11 : Int) == 2) = (entS l).f4 by
          rw [HB.out]
          have j1 : IntKind.i64.wrap (b8 : Int) = b8 := IntWalk.i64_in _ (by omega)
          have j2 : IntKind.i64.wrap (b9 : Int) = b9 := IntWalk.i64_in _ (by omega)
          have j3 : IntKind.i64.wrap (b10 : Int) = b10 := IntWalk.i64_in _ (by omega)
          have j4 : IntKind.i64.wrap (256 * (b9 : Int)) = 256 * b9 := IntWalk.i64_in _ (by omega)
          have j5 : IntKind.i64.wrap (256 * (b9 : Int) + b10) = 256 * b9 + b10 := IntWalk.i64_in _ (by omega)
          rw [j1, j2, j3, j4, j5]
          refine ⟨rfl, rfl, rfl, ?_, ?_⟩
          · rw [Bool.eq_iff_iff]; simp; omega
          · rw [Bool.eq_iff_iff]; simp; omega)
        have K7 := Lib.hid (fun w' (hb : Below w.heap.size w w') => (show (fun w' => (convert 41 9 (.slice (some ⟨g, F, none⟩) 12 C2)).run Tryz.prog w' = .ok (.string ⟨l.toArray⟩) w') w' from by
          have h := conv_of w' ⟨g, F, none⟩ C2 l (fun j hj => by
            have e : (⟨g, F, none⟩ : Addr).add j = ⟨g, F + j, none⟩ := by unfold Addr.add; split <;> simp_all
            rw [e, CE.out w' hb j (by rw [← H3.out]; exact hj)]
            unfold atE
            rw [List.getElem?_eq_getElem hj]
            rfl)
          rw [H3.out] at h
          exact h))
        by_cases h8 : n < 8
        · have cx := CE.out _ FR.out n (by omega)
          rw [HU.out.2.1 h8] at cx
          have n8 : (n : Int) < 8 := by omega
          go_wp2
          refine wp_region_held_drew (S := (fun w' => (convert 41 9 (.slice (some ⟨g, F, none⟩) n C2)).run Tryz.prog w' = .ok (.string ⟨(upZ l).toArray⟩) w' ∧ w'.cell? ⟨g, F + 8, none⟩ = some (.int .u8 (b8 : Int)) ∧ w'.cell? ⟨g, F + 9, none⟩ = some (.int .u8 (b9 : Int)) ∧ w'.cell? ⟨g, F + 10, none⟩ = some (.int .u8 (b10 : Int)) ∧ w'.cell? ⟨g, F + 11, none⟩ = some (.int .u8 (b11 : Int)))) (by kernel_rfl) (KS.out _ FR.out.drew) (fun hHeld => ?_)
          refine wpAnyH_take (i := 0) (oi := { dst := some 43, op := Op.move (Operand.tmp 7), type := 41, pos := "l16_chains.go:108", after := #[], guard := none }) (v := ?_) rfl (by kernel_rfl) (by kernel_rfl) (by kernel_rfl) (fun _ _ _ h => h) (Or.inl ⟨by rfl, ?hy⟩) hHeld ?_
          case hy => (intro w' hSw; (try dsimp only at hSw); go_simp; try with_reducible rfl)
          simp only [Act.put, List.setIfInBounds_toArray, List.set_cons_zero, List.set_cons_succ]
          refine wpAnyH_take (i := 1) (oi := { dst := some 44, op := Op.move (Operand.tmp 8), type := 3, pos := "l16_chains.go:108", after := #[], guard := none }) (v := ?_) rfl (by kernel_rfl) (by kernel_rfl) (by kernel_rfl) (fun _ _ _ h => h) (Or.inl ⟨by rfl, ?hy⟩) hHeld ?_
          case hy => (intro w' hSw; (try dsimp only at hSw); go_simp; try with_reducible rfl)
          simp only [Act.put, List.setIfInBounds_toArray, List.set_cons_zero, List.set_cons_succ]
          refine wpAnyH_take (i := 2) (oi := { dst := some 45, op := Op.slice 41 (Operand.tmp 43) none (some (Operand.tmp 44)) none, type := 41, pos := "l16_chains.go:108", after := #[{ on := 0, ground := Ground.data }, { on := 1, ground := Ground.data }], guard := none }) (v := ?_) rfl (by kernel_rfl) (by kernel_rfl) (by kernel_rfl) (fun _ _ _ h => h) (Or.inl ⟨by rfl, ?hy⟩) hHeld ?_
          case hy => (intro w' hSw; (try dsimp only at hSw); go_simp; try with_reducible rfl)
          simp only [Act.put, List.setIfInBounds_toArray, List.set_cons_zero, List.set_cons_succ]
          refine wpAnyH_take (i := 3) (oi := { dst := some 46, op := Op.convert 41 9 (Operand.tmp 45), type := 9, pos := "l16_chains.go:108", after := #[{ on := 2, ground := Ground.data }], guard := none }) (v := ?_) rfl (by kernel_rfl) (by kernel_rfl) (by kernel_rfl) (fun _ _ _ h => h) (Or.inl ⟨by rfl, ?hy⟩) hHeld ?_
          case hy => (intro w' hSw; (try dsimp only at hSw); go_simp; try with_reducible rfl)
          simp only [Act.put, List.setIfInBounds_toArray, List.set_cons_zero, List.set_cons_succ]
          refine wpAnyH_take (i := 4) (oi := { dst := some 47, op := Op.move (Operand.tmp 7), type := 41, pos := "l16_chains.go:108", after := #[], guard := none }) (v := ?_) rfl (by kernel_rfl) (by kernel_rfl) (by kernel_rfl) (fun _ _ _ h => h) (Or.inl ⟨by rfl, ?hy⟩) hHeld ?_
          case hy => (intro w' hSw; (try dsimp only at hSw); go_simp; try with_reducible rfl)
          simp only [Act.put, List.setIfInBounds_toArray, List.set_cons_zero, List.set_cons_succ]
          refine wpAnyH_take (i := 5) (oi := { dst := some 48, op := Op.indexAddr 41 (Operand.tmp 47) (Operand.const (Value.int IntKind.i64 8)), type := 0, pos := "l16_chains.go:108", after := #[{ on := 4, ground := Ground.data }], guard := none }) (v := ?_) rfl (by kernel_rfl) (by kernel_rfl) (by kernel_rfl) (fun _ _ _ h => h) (Or.inl ⟨by rfl, ?hy⟩) hHeld ?_
          case hy => (intro w' hSw; (try dsimp only at hSw); go_simp; try with_reducible rfl)
          simp only [Act.put, List.setIfInBounds_toArray, List.set_cons_zero, List.set_cons_succ]
          refine wpAnyH_take (i := 6) (oi := { dst := some 49, op := Op.load 5 (Operand.tmp 48), type := 5, pos := "l16_chains.go:108", after := #[{ on := 5, ground := Ground.data }], guard := none }) (v := ?_) rfl (by kernel_rfl) (by kernel_rfl) (by kernel_rfl) (fun _ _ _ h => h) (Or.inl ⟨by rfl, ?hy⟩) hHeld ?_
          case hy => (intro w' hSw; (try dsimp only at hSw); go_simp; try with_reducible rfl)
          simp only [Act.put, List.setIfInBounds_toArray, List.set_cons_zero, List.set_cons_succ]
          refine wpAnyH_take (i := 7) (oi := { dst := some 50, op := Op.convert 5 2 (Operand.tmp 49), type := 2, pos := "l16_chains.go:108", after := #[{ on := 6, ground := Ground.data }], guard := none }) (v := ?_) rfl (by kernel_rfl) (by kernel_rfl) (by kernel_rfl) (fun _ _ _ h => h) (Or.inl ⟨by rfl, ?hy⟩) hHeld ?_
          case hy => (intro w' hSw; (try dsimp only at hSw); go_simp; try with_reducible rfl)
          simp only [Act.put, List.setIfInBounds_toArray, List.set_cons_zero, List.set_cons_succ]
          refine wpAnyH_take (i := 8) (oi := { dst := some 51, op := Op.move (Operand.tmp 7), type := 41, pos := "l16_chains.go:108", after := #[], guard := none }) (v := ?_) rfl (by kernel_rfl) (by kernel_rfl) (by kernel_rfl) (fun _ _ _ h => h) (Or.inl ⟨by rfl, ?hy⟩) hHeld ?_
          case hy => (intro w' hSw; (try dsimp only at hSw); go_simp; try with_reducible rfl)
          simp only [Act.put, List.setIfInBounds_toArray, List.set_cons_zero, List.set_cons_succ]
          refine wpAnyH_take (i := 9) (oi := { dst := some 52, op := Op.indexAddr 41 (Operand.tmp 51) (Operand.const (Value.int IntKind.i64 9)), type := 0, pos := "l16_chains.go:108", after := #[{ on := 8, ground := Ground.data }], guard := none }) (v := ?_) rfl (by kernel_rfl) (by kernel_rfl) (by kernel_rfl) (fun _ _ _ h => h) (Or.inl ⟨by rfl, ?hy⟩) hHeld ?_
          case hy => (intro w' hSw; (try dsimp only at hSw); go_simp; try with_reducible rfl)
          simp only [Act.put, List.setIfInBounds_toArray, List.set_cons_zero, List.set_cons_succ]
          refine wpAnyH_take (i := 10) (oi := { dst := some 53, op := Op.load 5 (Operand.tmp 52), type := 5, pos := "l16_chains.go:108", after := #[{ on := 9, ground := Ground.data }], guard := none }) (v := ?_) rfl (by kernel_rfl) (by kernel_rfl) (by kernel_rfl) (fun _ _ _ h => h) (Or.inl ⟨by rfl, ?hy⟩) hHeld ?_
          case hy => (intro w' hSw; (try dsimp only at hSw); go_simp; try with_reducible rfl)
          simp only [Act.put, List.setIfInBounds_toArray, List.set_cons_zero, List.set_cons_succ]
          refine wpAnyH_take (i := 11) (oi := { dst := some 54, op := Op.convert 5 2 (Operand.tmp 53), type := 2, pos := "l16_chains.go:108", after := #[{ on := 10, ground := Ground.data }], guard := none }) (v := ?_) rfl (by kernel_rfl) (by kernel_rfl) (by kernel_rfl) (fun _ _ _ h => h) (Or.inl ⟨by rfl, ?hy⟩) hHeld ?_
          case hy => (intro w' hSw; (try dsimp only at hSw); go_simp; try with_reducible rfl)
          simp only [Act.put, List.setIfInBounds_toArray, List.set_cons_zero, List.set_cons_succ]
          refine wpAnyH_take (i := 12) (oi := { dst := some 55, op := Op.binOp BinOp.mul 2 (Operand.const (Value.int IntKind.i64 256)) (Operand.tmp 54) 2, type := 2, pos := "l16_chains.go:108", after := #[{ on := 11, ground := Ground.data }], guard := none }) (v := ?_) rfl (by kernel_rfl) (by kernel_rfl) (by kernel_rfl) (fun _ _ _ h => h) (Or.inl ⟨by rfl, ?hy⟩) hHeld ?_
          case hy => (intro w' hSw; (try dsimp only at hSw); go_simp; try with_reducible rfl)
          simp only [Act.put, List.setIfInBounds_toArray, List.set_cons_zero, List.set_cons_succ]
          refine wpAnyH_take (i := 13) (oi := { dst := some 56, op := Op.move (Operand.tmp 7), type := 41, pos := "l16_chains.go:108", after := #[], guard := none }) (v := ?_) rfl (by kernel_rfl) (by kernel_rfl) (by kernel_rfl) (fun _ _ _ h => h) (Or.inl ⟨by rfl, ?hy⟩) hHeld ?_
          case hy => (intro w' hSw; (try dsimp only at hSw); go_simp; try with_reducible rfl)
          simp only [Act.put, List.setIfInBounds_toArray, List.set_cons_zero, List.set_cons_succ]
          refine wpAnyH_take (i := 14) (oi := { dst := some 57, op := Op.indexAddr 41 (Operand.tmp 56) (Operand.const (Value.int IntKind.i64 10)), type := 0, pos := "l16_chains.go:108", after := #[{ on := 13, ground := Ground.data }], guard := none }) (v := ?_) rfl (by kernel_rfl) (by kernel_rfl) (by kernel_rfl) (fun _ _ _ h => h) (Or.inl ⟨by rfl, ?hy⟩) hHeld ?_
          case hy => (intro w' hSw; (try dsimp only at hSw); go_simp; try with_reducible rfl)
          simp only [Act.put, List.setIfInBounds_toArray, List.set_cons_zero, List.set_cons_succ]
          refine wpAnyH_take (i := 15) (oi := { dst := some 58, op := Op.load 5 (Operand.tmp 57), type := 5, pos := "l16_chains.go:108", after := #[{ on := 14, ground := Ground.data }], guard := none }) (v := ?_) rfl (by kernel_rfl) (by kernel_rfl) (by kernel_rfl) (fun _ _ _ h => h) (Or.inl ⟨by rfl, ?hy⟩) hHeld ?_
          case hy => (intro w' hSw; (try dsimp only at hSw); go_simp; try with_reducible rfl)
          simp only [Act.put, List.setIfInBounds_toArray, List.set_cons_zero, List.set_cons_succ]
          refine wpAnyH_take (i := 16) (oi := { dst := some 59, op := Op.convert 5 2 (Operand.tmp 58), type := 2, pos := "l16_chains.go:108", after := #[{ on := 15, ground := Ground.data }], guard := none }) (v := ?_) rfl (by kernel_rfl) (by kernel_rfl) (by kernel_rfl) (fun _ _ _ h => h) (Or.inl ⟨by rfl, ?hy⟩) hHeld ?_
          case hy => (intro w' hSw; (try dsimp only at hSw); go_simp; try with_reducible rfl)
          simp only [Act.put, List.setIfInBounds_toArray, List.set_cons_zero, List.set_cons_succ]
          refine wpAnyH_take (i := 17) (oi := { dst := some 60, op := Op.binOp BinOp.add 2 (Operand.tmp 55) (Operand.tmp 59) 2, type := 2, pos := "l16_chains.go:108", after := #[{ on := 12, ground := Ground.data }, { on := 16, ground := Ground.data }], guard := none }) (v := ?_) rfl (by kernel_rfl) (by kernel_rfl) (by kernel_rfl) (fun _ _ _ h => h) (Or.inl ⟨by rfl, ?hy⟩) hHeld ?_
          case hy => (intro w' hSw; (try dsimp only at hSw); go_simp; try with_reducible rfl)
          simp only [Act.put, List.setIfInBounds_toArray, List.set_cons_zero, List.set_cons_succ]
          refine wpAnyH_take (i := 18) (oi := { dst := some 61, op := Op.move (Operand.tmp 7), type := 41, pos := "l16_chains.go:108", after := #[], guard := none }) (v := ?_) rfl (by kernel_rfl) (by kernel_rfl) (by kernel_rfl) (fun _ _ _ h => h) (Or.inl ⟨by rfl, ?hy⟩) hHeld ?_
          case hy => (intro w' hSw; (try dsimp only at hSw); go_simp; try with_reducible rfl)
          simp only [Act.put, List.setIfInBounds_toArray, List.set_cons_zero, List.set_cons_succ]
          refine wpAnyH_take (i := 19) (oi := { dst := some 62, op := Op.indexAddr 41 (Operand.tmp 61) (Operand.const (Value.int IntKind.i64 11)), type := 0, pos := "l16_chains.go:108", after := #[{ on := 18, ground := Ground.data }], guard := none }) (v := ?_) rfl (by kernel_rfl) (by kernel_rfl) (by kernel_rfl) (fun _ _ _ h => h) (Or.inl ⟨by rfl, ?hy⟩) hHeld ?_
          case hy => (intro w' hSw; (try dsimp only at hSw); go_simp; try with_reducible rfl)
          simp only [Act.put, List.setIfInBounds_toArray, List.set_cons_zero, List.set_cons_succ]
          refine wpAnyH_take (i := 20) (oi := { dst := some 63, op := Op.load 5 (Operand.tmp 62), type := 5, pos := "l16_chains.go:108", after := #[{ on := 19, ground := Ground.data }], guard := none }) (v := ?_) rfl (by kernel_rfl) (by kernel_rfl) (by kernel_rfl) (fun _ _ _ h => h) (Or.inl ⟨by rfl, ?hy⟩) hHeld ?_
          case hy => (intro w' hSw; (try dsimp only at hSw); go_simp; try with_reducible rfl)
          simp only [Act.put, List.setIfInBounds_toArray, List.set_cons_zero, List.set_cons_succ]
          refine wpAnyH_take (i := 21) (oi := { dst := some 64, op := Op.binOp BinOp.eql 5 (Operand.tmp 63) (Operand.const (Value.int IntKind.u8 1)) 5, type := 4, pos := "l16_chains.go:108", after := #[{ on := 20, ground := Ground.data }], guard := none }) (v := ?_) rfl (by kernel_rfl) (by kernel_rfl) (by kernel_rfl) (fun _ _ _ h => h) (Or.inl ⟨by rfl, ?hy⟩) hHeld ?_
          case hy => (intro w' hSw; (try dsimp only at hSw); go_simp; try with_reducible rfl)
          simp only [Act.put, List.setIfInBounds_toArray, List.set_cons_zero, List.set_cons_succ]
          refine wpAnyH_take (i := 22) (oi := { dst := some 65, op := Op.move (Operand.tmp 7), type := 41, pos := "l16_chains.go:108", after := #[], guard := none }) (v := ?_) rfl (by kernel_rfl) (by kernel_rfl) (by kernel_rfl) (fun _ _ _ h => h) (Or.inl ⟨by rfl, ?hy⟩) hHeld ?_
          case hy => (intro w' hSw; (try dsimp only at hSw); go_simp; try with_reducible rfl)
          simp only [Act.put, List.setIfInBounds_toArray, List.set_cons_zero, List.set_cons_succ]
          refine wpAnyH_take (i := 23) (oi := { dst := some 66, op := Op.indexAddr 41 (Operand.tmp 65) (Operand.const (Value.int IntKind.i64 11)), type := 0, pos := "l16_chains.go:108", after := #[{ on := 22, ground := Ground.data }], guard := none }) (v := ?_) rfl (by kernel_rfl) (by kernel_rfl) (by kernel_rfl) (fun _ _ _ h => h) (Or.inl ⟨by rfl, ?hy⟩) hHeld ?_
          case hy => (intro w' hSw; (try dsimp only at hSw); go_simp; try with_reducible rfl)
          simp only [Act.put, List.setIfInBounds_toArray, List.set_cons_zero, List.set_cons_succ]
          refine wpAnyH_take (i := 24) (oi := { dst := some 67, op := Op.load 5 (Operand.tmp 66), type := 5, pos := "l16_chains.go:108", after := #[{ on := 23, ground := Ground.data }], guard := none }) (v := ?_) rfl (by kernel_rfl) (by kernel_rfl) (by kernel_rfl) (fun _ _ _ h => h) (Or.inl ⟨by rfl, ?hy⟩) hHeld ?_
          case hy => (intro w' hSw; (try dsimp only at hSw); go_simp; try with_reducible rfl)
          simp only [Act.put, List.setIfInBounds_toArray, List.set_cons_zero, List.set_cons_succ]
          refine wpAnyH_take (i := 25) (oi := { dst := some 68, op := Op.binOp BinOp.eql 5 (Operand.tmp 67) (Operand.const (Value.int IntKind.u8 2)) 5, type := 4, pos := "l16_chains.go:108", after := #[{ on := 24, ground := Ground.data }], guard := none }) (v := ?_) rfl (by kernel_rfl) (by kernel_rfl) (by kernel_rfl) (fun _ _ _ h => h) (Or.inl ⟨by rfl, ?hy⟩) hHeld ?_
          case hy => (intro w' hSw; (try dsimp only at hSw); go_simp; try with_reducible rfl)
          simp only [Act.put, List.setIfInBounds_toArray, List.set_cons_zero, List.set_cons_succ]
          refine wpAnyH_take (i := 26) (oi := { dst := some 69, op := Op.build 45 #[(0, Operand.tmp 46), (1, Operand.tmp 50), (2, Operand.tmp 60), (3, Operand.tmp 64), (4, Operand.tmp 68)], type := 45, pos := "l16_chains.go:108", after := #[{ on := 3, ground := Ground.data }, { on := 7, ground := Ground.data }, { on := 17, ground := Ground.data }, { on := 21, ground := Ground.data }, { on := 25, ground := Ground.data }], guard := none }) (v := ?_) rfl (by kernel_rfl) (by kernel_rfl) (by kernel_rfl) (fun _ _ _ h => h) (Or.inl ⟨by rfl, ?hy⟩) hHeld ?_
          case hy => (intro w' hSw; (try dsimp only at hSw); go_simp; try with_reducible rfl)
          simp only [Act.put, List.setIfInBounds_toArray, List.set_cons_zero, List.set_cons_succ]
          refine wpAnyH_ready (rs := [27]) (by kernel_rfl) (by simp) ?_
          refine AllReadyH.cons (o := { dst := some 9, op := Op.alloc 45, type := 0, pos := "l16_chains.go:108", after := #[], guard := none }) rfl (fun K hK => ?_) AllReadyH.nil
          go_simp
          refine hK.out _ _ (KS.out _ (by first | exact FR.out.drew | exact (FR.out.alloc FR.out.size _).drew)) (fun hHeld => ?_)
          clear hK K
          try simp only [Act.put, List.setIfInBounds_toArray, List.set_cons_zero, List.set_cons_succ]
          refine wpAnyH_ready (rs := [28]) (by kernel_rfl) (by simp) ?_
          refine AllReadyH.cons (o := { dst := none, op := Op.store 45 (Operand.tmp 9) (Operand.tmp 69), type := 0, pos := "l16_chains.go:108", after := #[{ on := 27, ground := Ground.data }, { on := 26, ground := Ground.data }, { on := 0, ground := Ground.phase }, { on := 1, ground := Ground.phase }, { on := 2, ground := Ground.phase }, { on := 3, ground := Ground.phase }, { on := 4, ground := Ground.phase }, { on := 5, ground := Ground.phase }, { on := 6, ground := Ground.phase }, { on := 7, ground := Ground.phase }, { on := 8, ground := Ground.phase }, { on := 9, ground := Ground.phase }, { on := 10, ground := Ground.phase }, { on := 11, ground := Ground.phase }, { on := 12, ground := Ground.phase }, { on := 13, ground := Ground.phase }, { on := 14, ground := Ground.phase }, { on := 15, ground := Ground.phase }, { on := 16, ground := Ground.phase }, { on := 17, ground := Ground.phase }, { on := 18, ground := Ground.phase }, { on := 19, ground := Ground.phase }, { on := 20, ground := Ground.phase }, { on := 21, ground := Ground.phase }, { on := 22, ground := Ground.phase }, { on := 23, ground := Ground.phase }, { on := 24, ground := Ground.phase }, { on := 25, ground := Ground.phase }, { on := 26, ground := Ground.phase }, { on := 27, ground := Ground.phase }], guard := none }) rfl (fun K hK => ?_) AllReadyH.nil
          go_simp
          refine hK.out _ _ (KS.out _ (by first | exact FR.out.drew | exact (FR.out.alloc FR.out.size _).drew)) (fun hHeld => ?_)
          clear hK K
          try simp only [Act.put, List.setIfInBounds_toArray, List.set_cons_zero, List.set_cons_succ]
          refine wpAnyH_done (by kernel_rfl) ?_ _
          obtain ⟨i0, i1, i2, i3, i4⟩ := HE.out
          rw [i0, i1, i2, i3, i4]
          clear i0 i1 i2 i3 i4
          have FW := Lib.hid (show Below wr.heap.size wr (wr.alloc (.cells #[.string (entS l).f0, .int .i64 (entS l).f1, .int .i64 (entS l).f2, .bool (entS l).f3, .bool (entS l).f4] 45)).drew from ((Below.refl _ _).alloc (Nat.le_refl _) _).drew)
          have KB := Lib.hid (show BoxAt (wr.alloc (.cells #[.string (entS l).f0, .int .i64 (entS l).f1, .int .i64 (entS l).f2, .bool (entS l).f3, .bool (entS l).f4] 45)).drew wr.heap.size #[.string (entS l).f0, .int .i64 (entS l).f1, .int .i64 (entS l).f2, .bool (entS l).f3, .bool (entS l).f4] from BoxAt.new wr #[.string (entS l).f0, .int .i64 (entS l).f1, .int .i64 (entS l).f2, .bool (entS l).f3, .bool (entS l).f4] 45 wr.heap.size rfl)
          replace HR := Lib.hid (HR.out.below FW.out hlt)
          replace FR := Lib.hid (FR.out.trans (FW.out.mono FR.out.size))
          have hlt1 : w.heap.size < (wr.alloc (.cells #[.string (entS l).f0, .int .i64 (entS l).f1, .int .i64 (entS l).f2, .bool (entS l).f3, .bool (entS l).f4] 45)).drew.heap.size := by simp; omega
          have hlt2 : wr.heap.size < (wr.alloc (.cells #[.string (entS l).f0, .int .i64 (entS l).f1, .int .i64 (entS l).f2, .bool (entS l).f3, .bool (entS l).f4] 45)).drew.heap.size := by simp
          clear FW KS HE HU hlt
          generalize (wr.alloc (.cells #[.string (entS l).f0, .int .i64 (entS l).f1, .int .i64 (entS l).f2, .bool (entS l).f3, .bool (entS l).f4] 45)).drew = W at KB HR FR hlt1 hlt2 ⊢
          generalize wr.heap.size = gb at KB hlt2 ⊢
          have HC := Lib.hid (show Below W.heap.size W W.drew from (Below.refl _ _).drew)
          go_upto_region 7 with (fail)
          refine wp_region_held_drew (S := (fun w' => (convert 41 9 (.slice (some ⟨g, F, none⟩) 12 C2)).run Tryz.prog w' = .ok (.string ⟨l.toArray⟩) w')) (by kernel_rfl) (K7.out _ (FR.out.trans (HC.out.mono FR.out.size))) (fun hHeld => ?_)
          refine wpAnyH_ready (rs := [0]) (by kernel_rfl) (by simp) ?_
          refine AllReadyH.cons (o := { dst := some 70, op := Op.call { callee := Callee.value (Operand.func 34), args := #[Operand.tmp 9], argTypes := #[60] }, type := 4, pos := "l16_chains.go:109", after := #[], guard := none }) rfl (fun K hK => ?_) AllReadyH.nil
          go_simp
          go_at_call 34; refine (LE.out _ gb (KB.out.below HC.out hlt2)).mono ?_; rintro e wk1 ⟨rfl, hb1⟩; replace HC := Lib.hid (HC.out.trans (hb1.mono HC.out.size))
          go_wp2_with fail
          refine hK.out _ _ (K7.out _ (FR.out.trans (HC.out.mono FR.out.size))) (fun hHeld => ?_)
          clear hK K
          try simp only [Act.put, List.setIfInBounds_toArray, List.set_cons_zero, List.set_cons_succ]
          refine wpAnyH_take (i := 1) (oi := { dst := some 71, op := Op.unOp UnOp.not 4 (Operand.tmp 70), type := 4, pos := "l16_chains.go:109", after := #[{ on := 0, ground := Ground.data }], guard := none }) (v := ?_) rfl (by kernel_rfl) (by kernel_rfl) (by kernel_rfl) (fun _ _ _ h => h) (Or.inl ⟨by rfl, ?hy⟩) hHeld ?_
          case hy => (intro w' hSw; (try dsimp only at hSw); go_simp; try with_reducible rfl)
          simp only [Act.put, List.setIfInBounds_toArray, List.set_cons_zero, List.set_cons_succ]
          refine wpAnyH_take (i := 2) (oi := { dst := some 72, op := Op.move (Operand.tmp 71), type := 4, pos := "l16_chains.go:109", after := #[{ on := 1, ground := Ground.data }, { on := 0, ground := Ground.chain }], guard := none }) (v := ?_) rfl (by kernel_rfl) (by kernel_rfl) (by kernel_rfl) (fun _ _ _ h => h) (Or.inl ⟨by rfl, ?hy⟩) hHeld ?_
          case hy => (intro w' hSw; (try dsimp only at hSw); go_simp; try with_reducible rfl)
          simp only [Act.put, List.setIfInBounds_toArray, List.set_cons_zero, List.set_cons_succ]
          refine wpAnyH_take (i := 5) (oi := { dst := some 75, op := Op.move (Operand.tmp 7), type := 41, pos := "l16_chains.go:109", after := #[{ on := 2, ground := Ground.guard }], guard := some (2, false) }) (v := ?_) rfl (by kernel_rfl) (by kernel_rfl) (by kernel_rfl) (fun _ _ _ h => h) (Or.inl ⟨by rfl, ?hy⟩) hHeld ?_
          case hy => (intro w' hSw; (try dsimp only at hSw); go_simp; try with_reducible rfl)
          simp only [Act.put, List.setIfInBounds_toArray, List.set_cons_zero, List.set_cons_succ]
          refine wpAnyH_take (i := 6) (oi := { dst := some 76, op := Op.convert 41 9 (Operand.tmp 75), type := 9, pos := "l16_chains.go:109", after := #[{ on := 5, ground := Ground.data }, { on := 2, ground := Ground.guard }], guard := some (2, false) }) (v := ?_) rfl (by kernel_rfl) (by kernel_rfl) (by kernel_rfl) (fun _ _ _ h => h) (Or.inl ⟨by rfl, ?hy⟩) hHeld ?_
          case hy => (intro w' hSw; (try dsimp only at hSw); go_simp; try with_reducible rfl)
          simp only [Act.put, List.setIfInBounds_toArray, List.set_cons_zero, List.set_cons_succ]
          refine wpAnyH_ready (rs := [3]) (by kernel_rfl) (by simp) ?_
          refine AllReadyH.cons (o := { dst := some 73, op := Op.call { callee := Callee.value (Operand.func 35), args := #[Operand.tmp 9], argTypes := #[60] }, type := 41, pos := "l16_chains.go:109", after := #[{ on := 2, ground := Ground.chain }, { on := 2, ground := Ground.guard }], guard := some (2, false) }) rfl (fun K hK => ?_) AllReadyH.nil
          go_simp
          go_at_call 35; refine (LB.out _ gb (KB.out.below HC.out hlt2)).mono ?_; rintro e wk ⟨g2, rfl, hrb, hg2, hbk⟩; replace HC := Lib.hid (HC.out.trans (hbk.mono HC.out.size)); (have hcv4 := HV.out wk g2 hrb; clear hrb)
          go_wp2_with fail
          refine hK.out _ _ (K7.out _ (FR.out.trans (HC.out.mono FR.out.size))) (fun hHeld => ?_)
          clear hK K
          try simp only [Act.put, List.setIfInBounds_toArray, List.set_cons_zero, List.set_cons_succ]
          refine wpAnyH_ready (rs := [4]) (by kernel_rfl) (by simp) ?_
          refine AllReadyH.cons (o := { dst := some 74, op := Op.convert 41 9 (Operand.tmp 73), type := 9, pos := "l16_chains.go:109", after := #[{ on := 3, ground := Ground.data }, { on := 2, ground := Ground.guard }], guard := some (2, false) }) rfl (fun K hK => ?_) AllReadyH.nil
          go_simp
          skip
          go_wp2_with fail
          refine hK.out _ _ (K7.out _ (FR.out.trans (HC.out.mono FR.out.size))) (fun hHeld => ?_)
          clear hK K
          try simp only [Act.put, List.setIfInBounds_toArray, List.set_cons_zero, List.set_cons_succ]
          refine wpAnyH_take (i := 7) (oi := { dst := some 77, op := Op.binOp BinOp.neq 9 (Operand.tmp 74) (Operand.tmp 76) 9, type := 4, pos := "l16_chains.go:109", after := #[{ on := 4, ground := Ground.data }, { on := 6, ground := Ground.data }, { on := 2, ground := Ground.guard }], guard := some (2, false) }) (v := ?_) rfl (by kernel_rfl) (by kernel_rfl) (by kernel_rfl) (fun _ _ _ h => h) (Or.inl ⟨by rfl, ?hy⟩) hHeld ?_
          case hy => (intro w' hSw; (try dsimp only at hSw); go_simp; try with_reducible rfl)
          simp only [Act.put, List.setIfInBounds_toArray, List.set_cons_zero, List.set_cons_succ]
          refine wpAnyH_take (i := 8) (oi := { dst := some 78, op := Op.pick (Operand.tmp 72) (Operand.const (Value.bool true)) (Operand.tmp 77), type := 4, pos := "l16_chains.go:109", after := #[{ on := 2, ground := Ground.data }, { on := 7, ground := Ground.data }], guard := none }) (v := ?_) rfl (by kernel_rfl) (by kernel_rfl) (by kernel_rfl) (fun _ _ _ h => h) (Or.inl ⟨by rfl, ?hy⟩) hHeld ?_
          case hy => (intro w' hSw; (try dsimp only at hSw); go_simp; try with_reducible rfl)
          simp only [Act.put, List.setIfInBounds_toArray, List.set_cons_zero, List.set_cons_succ]
          refine wpAnyH_done (by kernel_rfl) ?_ _
          replace HR := Lib.hid (HR.out.below HC.out hlt1)
          replace KB := Lib.hid (KB.out.below HC.out hlt2)
          replace FR := Lib.hid (FR.out.trans (HC.out.mono FR.out.size))
          obtain ⟨a0, z0⟩ := HR.out 0 _ rfl
          obtain ⟨a1, z1⟩ := HR.out 1 _ rfl
          obtain ⟨a2, z2⟩ := HR.out 2 _ rfl
          obtain ⟨a3, z3⟩ := HR.out 3 _ rfl
          obtain ⟨a4, z4⟩ := HR.out 4 _ rfl
          go_wp2
          refine bodyPost_ret (v := .tuple #[.agg #[.string ⟨#[]⟩, .int .i64 0, .int .i64 0, .bool false, .bool false], .bool false]) (by simp [results, Tryz.results21, go_sem, a0, a1, a2, a3, a4]) rfl ⟨rfl, ?_⟩
          exact ((((FR.out.setCell (by simp) _).setCell (by simp) _).setCell (by simp) _).setCell (by simp) _).setCell (by simp) _
        · have n8 : ¬ (n : Int) < 8 := by omega
          go_wp2
          refine wp_region_held_drew (S := (fun w' => (convert 41 9 (.slice (some ⟨g, F, none⟩) n C2)).run Tryz.prog w' = .ok (.string ⟨(upZ l).toArray⟩) w' ∧ w'.cell? ⟨g, F + 8, none⟩ = some (.int .u8 (b8 : Int)) ∧ w'.cell? ⟨g, F + 9, none⟩ = some (.int .u8 (b9 : Int)) ∧ w'.cell? ⟨g, F + 10, none⟩ = some (.int .u8 (b10 : Int)) ∧ w'.cell? ⟨g, F + 11, none⟩ = some (.int .u8 (b11 : Int)))) (by kernel_rfl) (KS.out _ FR.out.drew) (fun hHeld => ?_)
          refine wpAnyH_take (i := 0) (oi := { dst := some 43, op := Op.move (Operand.tmp 7), type := 41, pos := "l16_chains.go:108", after := #[], guard := none }) (v := ?_) rfl (by kernel_rfl) (by kernel_rfl) (by kernel_rfl) (fun _ _ _ h => h) (Or.inl ⟨by rfl, ?hy⟩) hHeld ?_
          case hy => (intro w' hSw; (try dsimp only at hSw); go_simp; try with_reducible rfl)
          simp only [Act.put, List.setIfInBounds_toArray, List.set_cons_zero, List.set_cons_succ]
          refine wpAnyH_take (i := 1) (oi := { dst := some 44, op := Op.move (Operand.tmp 8), type := 3, pos := "l16_chains.go:108", after := #[], guard := none }) (v := ?_) rfl (by kernel_rfl) (by kernel_rfl) (by kernel_rfl) (fun _ _ _ h => h) (Or.inl ⟨by rfl, ?hy⟩) hHeld ?_
          case hy => (intro w' hSw; (try dsimp only at hSw); go_simp; try with_reducible rfl)
          simp only [Act.put, List.setIfInBounds_toArray, List.set_cons_zero, List.set_cons_succ]
          refine wpAnyH_take (i := 2) (oi := { dst := some 45, op := Op.slice 41 (Operand.tmp 43) none (some (Operand.tmp 44)) none, type := 41, pos := "l16_chains.go:108", after := #[{ on := 0, ground := Ground.data }, { on := 1, ground := Ground.data }], guard := none }) (v := ?_) rfl (by kernel_rfl) (by kernel_rfl) (by kernel_rfl) (fun _ _ _ h => h) (Or.inl ⟨by rfl, ?hy⟩) hHeld ?_
          case hy => (intro w' hSw; (try dsimp only at hSw); go_simp; try with_reducible rfl)
          simp only [Act.put, List.setIfInBounds_toArray, List.set_cons_zero, List.set_cons_succ]
          refine wpAnyH_take (i := 3) (oi := { dst := some 46, op := Op.convert 41 9 (Operand.tmp 45), type := 9, pos := "l16_chains.go:108", after := #[{ on := 2, ground := Ground.data }], guard := none }) (v := ?_) rfl (by kernel_rfl) (by kernel_rfl) (by kernel_rfl) (fun _ _ _ h => h) (Or.inl ⟨by rfl, ?hy⟩) hHeld ?_
          case hy => (intro w' hSw; (try dsimp only at hSw); go_simp; try with_reducible rfl)
          simp only [Act.put, List.setIfInBounds_toArray, List.set_cons_zero, List.set_cons_succ]
          refine wpAnyH_take (i := 4) (oi := { dst := some 47, op := Op.move (Operand.tmp 7), type := 41, pos := "l16_chains.go:108", after := #[], guard := none }) (v := ?_) rfl (by kernel_rfl) (by kernel_rfl) (by kernel_rfl) (fun _ _ _ h => h) (Or.inl ⟨by rfl, ?hy⟩) hHeld ?_
          case hy => (intro w' hSw; (try dsimp only at hSw); go_simp; try with_reducible rfl)
          simp only [Act.put, List.setIfInBounds_toArray, List.set_cons_zero, List.set_cons_succ]
          refine wpAnyH_take (i := 5) (oi := { dst := some 48, op := Op.indexAddr 41 (Operand.tmp 47) (Operand.const (Value.int IntKind.i64 8)), type := 0, pos := "l16_chains.go:108", after := #[{ on := 4, ground := Ground.data }], guard := none }) (v := ?_) rfl (by kernel_rfl) (by kernel_rfl) (by kernel_rfl) (fun _ _ _ h => h) (Or.inl ⟨by rfl, ?hy⟩) hHeld ?_
          case hy => (intro w' hSw; (try dsimp only at hSw); go_simp; try with_reducible rfl)
          simp only [Act.put, List.setIfInBounds_toArray, List.set_cons_zero, List.set_cons_succ]
          refine wpAnyH_take (i := 6) (oi := { dst := some 49, op := Op.load 5 (Operand.tmp 48), type := 5, pos := "l16_chains.go:108", after := #[{ on := 5, ground := Ground.data }], guard := none }) (v := ?_) rfl (by kernel_rfl) (by kernel_rfl) (by kernel_rfl) (fun _ _ _ h => h) (Or.inl ⟨by rfl, ?hy⟩) hHeld ?_
          case hy => (intro w' hSw; (try dsimp only at hSw); go_simp; try with_reducible rfl)
          simp only [Act.put, List.setIfInBounds_toArray, List.set_cons_zero, List.set_cons_succ]
          refine wpAnyH_take (i := 7) (oi := { dst := some 50, op := Op.convert 5 2 (Operand.tmp 49), type := 2, pos := "l16_chains.go:108", after := #[{ on := 6, ground := Ground.data }], guard := none }) (v := ?_) rfl (by kernel_rfl) (by kernel_rfl) (by kernel_rfl) (fun _ _ _ h => h) (Or.inl ⟨by rfl, ?hy⟩) hHeld ?_
          case hy => (intro w' hSw; (try dsimp only at hSw); go_simp; try with_reducible rfl)
          simp only [Act.put, List.setIfInBounds_toArray, List.set_cons_zero, List.set_cons_succ]
          refine wpAnyH_take (i := 8) (oi := { dst := some 51, op := Op.move (Operand.tmp 7), type := 41, pos := "l16_chains.go:108", after := #[], guard := none }) (v := ?_) rfl (by kernel_rfl) (by kernel_rfl) (by kernel_rfl) (fun _ _ _ h => h) (Or.inl ⟨by rfl, ?hy⟩) hHeld ?_
          case hy => (intro w' hSw; (try dsimp only at hSw); go_simp; try with_reducible rfl)
          simp only [Act.put, List.setIfInBounds_toArray, List.set_cons_zero, List.set_cons_succ]
          refine wpAnyH_take (i := 9) (oi := { dst := some 52, op := Op.indexAddr 41 (Operand.tmp 51) (Operand.const (Value.int IntKind.i64 9)), type := 0, pos := "l16_chains.go:108", after := #[{ on := 8, ground := Ground.data }], guard := none }) (v := ?_) rfl (by kernel_rfl) (by kernel_rfl) (by kernel_rfl) (fun _ _ _ h => h) (Or.inl ⟨by rfl, ?hy⟩) hHeld ?_
          case hy => (intro w' hSw; (try dsimp only at hSw); go_simp; try with_reducible rfl)
          simp only [Act.put, List.setIfInBounds_toArray, List.set_cons_zero, List.set_cons_succ]
          refine wpAnyH_take (i := 10) (oi := { dst := some 53, op := Op.load 5 (Operand.tmp 52), type := 5, pos := "l16_chains.go:108", after := #[{ on := 9, ground := Ground.data }], guard := none }) (v := ?_) rfl (by kernel_rfl) (by kernel_rfl) (by kernel_rfl) (fun _ _ _ h => h) (Or.inl ⟨by rfl, ?hy⟩) hHeld ?_
          case hy => (intro w' hSw; (try dsimp only at hSw); go_simp; try with_reducible rfl)
          simp only [Act.put, List.setIfInBounds_toArray, List.set_cons_zero, List.set_cons_succ]
          refine wpAnyH_take (i := 11) (oi := { dst := some 54, op := Op.convert 5 2 (Operand.tmp 53), type := 2, pos := "l16_chains.go:108", after := #[{ on := 10, ground := Ground.data }], guard := none }) (v := ?_) rfl (by kernel_rfl) (by kernel_rfl) (by kernel_rfl) (fun _ _ _ h => h) (Or.inl ⟨by rfl, ?hy⟩) hHeld ?_
          case hy => (intro w' hSw; (try dsimp only at hSw); go_simp; try with_reducible rfl)
          simp only [Act.put, List.setIfInBounds_toArray, List.set_cons_zero, List.set_cons_succ]
          refine wpAnyH_take (i := 12) (oi := { dst := some 55, op := Op.binOp BinOp.mul 2 (Operand.const (Value.int IntKind.i64 256)) (Operand.tmp 54) 2, type := 2, pos := "l16_chains.go:108", after := #[{ on := 11, ground := Ground.data }], guard := none }) (v := ?_) rfl (by kernel_rfl) (by kernel_rfl) (by kernel_rfl) (fun _ _ _ h => h) (Or.inl ⟨by rfl, ?hy⟩) hHeld ?_
          case hy => (intro w' hSw; (try dsimp only at hSw); go_simp; try with_reducible rfl)
          simp only [Act.put, List.setIfInBounds_toArray, List.set_cons_zero, List.set_cons_succ]
          refine wpAnyH_take (i := 13) (oi := { dst := some 56, op := Op.move (Operand.tmp 7), type := 41, pos := "l16_chains.go:108", after := #[], guard := none }) (v := ?_) rfl (by kernel_rfl) (by kernel_rfl) (by kernel_rfl) (fun _ _ _ h => h) (Or.inl ⟨by rfl, ?hy⟩) hHeld ?_
          case hy => (intro w' hSw; (try dsimp only at hSw); go_simp; try with_reducible rfl)
          simp only [Act.put, List.setIfInBounds_toArray, List.set_cons_zero, List.set_cons_succ]
          refine wpAnyH_take (i := 14) (oi := { dst := some 57, op := Op.indexAddr 41 (Operand.tmp 56) (Operand.const (Value.int IntKind.i64 10)), type := 0, pos := "l16_chains.go:108", after := #[{ on := 13, ground := Ground.data }], guard := none }) (v := ?_) rfl (by kernel_rfl) (by kernel_rfl) (by kernel_rfl) (fun _ _ _ h => h) (Or.inl ⟨by rfl, ?hy⟩) hHeld ?_
          case hy => (intro w' hSw; (try dsimp only at hSw); go_simp; try with_reducible rfl)
          simp only [Act.put, List.setIfInBounds_toArray, List.set_cons_zero, List.set_cons_succ]
          refine wpAnyH_take (i := 15) (oi := { dst := some 58, op := Op.load 5 (Operand.tmp 57), type := 5, pos := "l16_chains.go:108", after := #[{ on := 14, ground := Ground.data }], guard := none }) (v := ?_) rfl (by kernel_rfl) (by kernel_rfl) (by kernel_rfl) (fun _ _ _ h => h) (Or.inl ⟨by rfl, ?hy⟩) hHeld ?_
          case hy => (intro w' hSw; (try dsimp only at hSw); go_simp; try with_reducible rfl)
          simp only [Act.put, List.setIfInBounds_toArray, List.set_cons_zero, List.set_cons_succ]
          refine wpAnyH_take (i := 16) (oi := { dst := some 59, op := Op.convert 5 2 (Operand.tmp 58), type := 2, pos := "l16_chains.go:108", after := #[{ on := 15, ground := Ground.data }], guard := none }) (v := ?_) rfl (by kernel_rfl) (by kernel_rfl) (by kernel_rfl) (fun _ _ _ h => h) (Or.inl ⟨by rfl, ?hy⟩) hHeld ?_
          case hy => (intro w' hSw; (try dsimp only at hSw); go_simp; try with_reducible rfl)
          simp only [Act.put, List.setIfInBounds_toArray, List.set_cons_zero, List.set_cons_succ]
          refine wpAnyH_take (i := 17) (oi := { dst := some 60, op := Op.binOp BinOp.add 2 (Operand.tmp 55) (Operand.tmp 59) 2, type := 2, pos := "l16_chains.go:108", after := #[{ on := 12, ground := Ground.data }, { on := 16, ground := Ground.data }], guard := none }) (v := ?_) rfl (by kernel_rfl) (by kernel_rfl) (by kernel_rfl) (fun _ _ _ h => h) (Or.inl ⟨by rfl, ?hy⟩) hHeld ?_
          case hy => (intro w' hSw; (try dsimp only at hSw); go_simp; try with_reducible rfl)
          simp only [Act.put, List.setIfInBounds_toArray, List.set_cons_zero, List.set_cons_succ]
          refine wpAnyH_take (i := 18) (oi := { dst := some 61, op := Op.move (Operand.tmp 7), type := 41, pos := "l16_chains.go:108", after := #[], guard := none }) (v := ?_) rfl (by kernel_rfl) (by kernel_rfl) (by kernel_rfl) (fun _ _ _ h => h) (Or.inl ⟨by rfl, ?hy⟩) hHeld ?_
          case hy => (intro w' hSw; (try dsimp only at hSw); go_simp; try with_reducible rfl)
          simp only [Act.put, List.setIfInBounds_toArray, List.set_cons_zero, List.set_cons_succ]
          refine wpAnyH_take (i := 19) (oi := { dst := some 62, op := Op.indexAddr 41 (Operand.tmp 61) (Operand.const (Value.int IntKind.i64 11)), type := 0, pos := "l16_chains.go:108", after := #[{ on := 18, ground := Ground.data }], guard := none }) (v := ?_) rfl (by kernel_rfl) (by kernel_rfl) (by kernel_rfl) (fun _ _ _ h => h) (Or.inl ⟨by rfl, ?hy⟩) hHeld ?_
          case hy => (intro w' hSw; (try dsimp only at hSw); go_simp; try with_reducible rfl)
          simp only [Act.put, List.setIfInBounds_toArray, List.set_cons_zero, List.set_cons_succ]
          refine wpAnyH_take (i := 20) (oi := { dst := some 63, op := Op.load 5 (Operand.tmp 62), type := 5, pos := "l16_chains.go:108", after := #[{ on := 19, ground := Ground.data }], guard := none }) (v := ?_) rfl (by kernel_rfl) (by kernel_rfl) (by kernel_rfl) (fun _ _ _ h => h) (Or.inl ⟨by rfl, ?hy⟩) hHeld ?_
          case hy => (intro w' hSw; (try dsimp only at hSw); go_simp; try with_reducible rfl)
          simp only [Act.put, List.setIfInBounds_toArray, List.set_cons_zero, List.set_cons_succ]
          refine wpAnyH_take (i := 21) (oi := { dst := some 64, op := Op.binOp BinOp.eql 5 (Operand.tmp 63) (Operand.const (Value.int IntKind.u8 1)) 5, type := 4, pos := "l16_chains.go:108", after := #[{ on := 20, ground := Ground.data }], guard := none }) (v := ?_) rfl (by kernel_rfl) (by kernel_rfl) (by kernel_rfl) (fun _ _ _ h => h) (Or.inl ⟨by rfl, ?hy⟩) hHeld ?_
          case hy => (intro w' hSw; (try dsimp only at hSw); go_simp; try with_reducible rfl)
          simp only [Act.put, List.setIfInBounds_toArray, List.set_cons_zero, List.set_cons_succ]
          refine wpAnyH_take (i := 22) (oi := { dst := some 65, op := Op.move (Operand.tmp 7), type := 41, pos := "l16_chains.go:108", after := #[], guard := none }) (v := ?_) rfl (by kernel_rfl) (by kernel_rfl) (by kernel_rfl) (fun _ _ _ h => h) (Or.inl ⟨by rfl, ?hy⟩) hHeld ?_
          case hy => (intro w' hSw; (try dsimp only at hSw); go_simp; try with_reducible rfl)
          simp only [Act.put, List.setIfInBounds_toArray, List.set_cons_zero, List.set_cons_succ]
          refine wpAnyH_take (i := 23) (oi := { dst := some 66, op := Op.indexAddr 41 (Operand.tmp 65) (Operand.const (Value.int IntKind.i64 11)), type := 0, pos := "l16_chains.go:108", after := #[{ on := 22, ground := Ground.data }], guard := none }) (v := ?_) rfl (by kernel_rfl) (by kernel_rfl) (by kernel_rfl) (fun _ _ _ h => h) (Or.inl ⟨by rfl, ?hy⟩) hHeld ?_
          case hy => (intro w' hSw; (try dsimp only at hSw); go_simp; try with_reducible rfl)
          simp only [Act.put, List.setIfInBounds_toArray, List.set_cons_zero, List.set_cons_succ]
          refine wpAnyH_take (i := 24) (oi := { dst := some 67, op := Op.load 5 (Operand.tmp 66), type := 5, pos := "l16_chains.go:108", after := #[{ on := 23, ground := Ground.data }], guard := none }) (v := ?_) rfl (by kernel_rfl) (by kernel_rfl) (by kernel_rfl) (fun _ _ _ h => h) (Or.inl ⟨by rfl, ?hy⟩) hHeld ?_
          case hy => (intro w' hSw; (try dsimp only at hSw); go_simp; try with_reducible rfl)
          simp only [Act.put, List.setIfInBounds_toArray, List.set_cons_zero, List.set_cons_succ]
          refine wpAnyH_take (i := 25) (oi := { dst := some 68, op := Op.binOp BinOp.eql 5 (Operand.tmp 67) (Operand.const (Value.int IntKind.u8 2)) 5, type := 4, pos := "l16_chains.go:108", after := #[{ on := 24, ground := Ground.data }], guard := none }) (v := ?_) rfl (by kernel_rfl) (by kernel_rfl) (by kernel_rfl) (fun _ _ _ h => h) (Or.inl ⟨by rfl, ?hy⟩) hHeld ?_
          case hy => (intro w' hSw; (try dsimp only at hSw); go_simp; try with_reducible rfl)
          simp only [Act.put, List.setIfInBounds_toArray, List.set_cons_zero, List.set_cons_succ]
          refine wpAnyH_take (i := 26) (oi := { dst := some 69, op := Op.build 45 #[(0, Operand.tmp 46), (1, Operand.tmp 50), (2, Operand.tmp 60), (3, Operand.tmp 64), (4, Operand.tmp 68)], type := 45, pos := "l16_chains.go:108", after := #[{ on := 3, ground := Ground.data }, { on := 7, ground := Ground.data }, { on := 17, ground := Ground.data }, { on := 21, ground := Ground.data }, { on := 25, ground := Ground.data }], guard := none }) (v := ?_) rfl (by kernel_rfl) (by kernel_rfl) (by kernel_rfl) (fun _ _ _ h => h) (Or.inl ⟨by rfl, ?hy⟩) hHeld ?_
          case hy => (intro w' hSw; (try dsimp only at hSw); go_simp; try with_reducible rfl)
          simp only [Act.put, List.setIfInBounds_toArray, List.set_cons_zero, List.set_cons_succ]
          refine wpAnyH_ready (rs := [27]) (by kernel_rfl) (by simp) ?_
          refine AllReadyH.cons (o := { dst := some 9, op := Op.alloc 45, type := 0, pos := "l16_chains.go:108", after := #[], guard := none }) rfl (fun K hK => ?_) AllReadyH.nil
          go_simp
          refine hK.out _ _ (KS.out _ (by first | exact FR.out.drew | exact (FR.out.alloc FR.out.size _).drew)) (fun hHeld => ?_)
          clear hK K
          try simp only [Act.put, List.setIfInBounds_toArray, List.set_cons_zero, List.set_cons_succ]
          refine wpAnyH_ready (rs := [28]) (by kernel_rfl) (by simp) ?_
          refine AllReadyH.cons (o := { dst := none, op := Op.store 45 (Operand.tmp 9) (Operand.tmp 69), type := 0, pos := "l16_chains.go:108", after := #[{ on := 27, ground := Ground.data }, { on := 26, ground := Ground.data }, { on := 0, ground := Ground.phase }, { on := 1, ground := Ground.phase }, { on := 2, ground := Ground.phase }, { on := 3, ground := Ground.phase }, { on := 4, ground := Ground.phase }, { on := 5, ground := Ground.phase }, { on := 6, ground := Ground.phase }, { on := 7, ground := Ground.phase }, { on := 8, ground := Ground.phase }, { on := 9, ground := Ground.phase }, { on := 10, ground := Ground.phase }, { on := 11, ground := Ground.phase }, { on := 12, ground := Ground.phase }, { on := 13, ground := Ground.phase }, { on := 14, ground := Ground.phase }, { on := 15, ground := Ground.phase }, { on := 16, ground := Ground.phase }, { on := 17, ground := Ground.phase }, { on := 18, ground := Ground.phase }, { on := 19, ground := Ground.phase }, { on := 20, ground := Ground.phase }, { on := 21, ground := Ground.phase }, { on := 22, ground := Ground.phase }, { on := 23, ground := Ground.phase }, { on := 24, ground := Ground.phase }, { on := 25, ground := Ground.phase }, { on := 26, ground := Ground.phase }, { on := 27, ground := Ground.phase }], guard := none }) rfl (fun K hK => ?_) AllReadyH.nil
          go_simp
          refine hK.out _ _ (KS.out _ (by first | exact FR.out.drew | exact (FR.out.alloc FR.out.size _).drew)) (fun hHeld => ?_)
          clear hK K
          try simp only [Act.put, List.setIfInBounds_toArray, List.set_cons_zero, List.set_cons_succ]
          refine wpAnyH_done (by kernel_rfl) ?_ _
          obtain ⟨i0, i1, i2, i3, i4⟩ := HE.out
          rw [i0, i1, i2, i3, i4]
          clear i0 i1 i2 i3 i4
          have FW := Lib.hid (show Below wr.heap.size wr (wr.alloc (.cells #[.string (entS l).f0, .int .i64 (entS l).f1, .int .i64 (entS l).f2, .bool (entS l).f3, .bool (entS l).f4] 45)).drew from ((Below.refl _ _).alloc (Nat.le_refl _) _).drew)
          have KB := Lib.hid (show BoxAt (wr.alloc (.cells #[.string (entS l).f0, .int .i64 (entS l).f1, .int .i64 (entS l).f2, .bool (entS l).f3, .bool (entS l).f4] 45)).drew wr.heap.size #[.string (entS l).f0, .int .i64 (entS l).f1, .int .i64 (entS l).f2, .bool (entS l).f3, .bool (entS l).f4] from BoxAt.new wr #[.string (entS l).f0, .int .i64 (entS l).f1, .int .i64 (entS l).f2, .bool (entS l).f3, .bool (entS l).f4] 45 wr.heap.size rfl)
          replace HR := Lib.hid (HR.out.below FW.out hlt)
          replace FR := Lib.hid (FR.out.trans (FW.out.mono FR.out.size))
          have hlt1 : w.heap.size < (wr.alloc (.cells #[.string (entS l).f0, .int .i64 (entS l).f1, .int .i64 (entS l).f2, .bool (entS l).f3, .bool (entS l).f4] 45)).drew.heap.size := by simp; omega
          have hlt2 : wr.heap.size < (wr.alloc (.cells #[.string (entS l).f0, .int .i64 (entS l).f1, .int .i64 (entS l).f2, .bool (entS l).f3, .bool (entS l).f4] 45)).drew.heap.size := by simp
          clear FW KS HE HU hlt
          generalize (wr.alloc (.cells #[.string (entS l).f0, .int .i64 (entS l).f1, .int .i64 (entS l).f2, .bool (entS l).f3, .bool (entS l).f4] 45)).drew = W at KB HR FR hlt1 hlt2 ⊢
          generalize wr.heap.size = gb at KB hlt2 ⊢
          have HC := Lib.hid (show Below W.heap.size W W.drew from (Below.refl _ _).drew)
          go_upto_region 7 with (fail)
          refine wp_region_held_drew (S := (fun w' => (convert 41 9 (.slice (some ⟨g, F, none⟩) 12 C2)).run Tryz.prog w' = .ok (.string ⟨l.toArray⟩) w')) (by kernel_rfl) (K7.out _ (FR.out.trans (HC.out.mono FR.out.size))) (fun hHeld => ?_)
          refine wpAnyH_ready (rs := [0]) (by kernel_rfl) (by simp) ?_
          refine AllReadyH.cons (o := { dst := some 70, op := Op.call { callee := Callee.value (Operand.func 34), args := #[Operand.tmp 9], argTypes := #[60] }, type := 4, pos := "l16_chains.go:109", after := #[], guard := none }) rfl (fun K hK => ?_) AllReadyH.nil
          go_simp
          go_at_call 34; refine (LE.out _ gb (KB.out.below HC.out hlt2)).mono ?_; rintro e wk1 ⟨rfl, hb1⟩; replace HC := Lib.hid (HC.out.trans (hb1.mono HC.out.size))
          go_wp2_with fail
          refine hK.out _ _ (K7.out _ (FR.out.trans (HC.out.mono FR.out.size))) (fun hHeld => ?_)
          clear hK K
          try simp only [Act.put, List.setIfInBounds_toArray, List.set_cons_zero, List.set_cons_succ]
          refine wpAnyH_take (i := 1) (oi := { dst := some 71, op := Op.unOp UnOp.not 4 (Operand.tmp 70), type := 4, pos := "l16_chains.go:109", after := #[{ on := 0, ground := Ground.data }], guard := none }) (v := ?_) rfl (by kernel_rfl) (by kernel_rfl) (by kernel_rfl) (fun _ _ _ h => h) (Or.inl ⟨by rfl, ?hy⟩) hHeld ?_
          case hy => (intro w' hSw; (try dsimp only at hSw); go_simp; try with_reducible rfl)
          simp only [Act.put, List.setIfInBounds_toArray, List.set_cons_zero, List.set_cons_succ]
          refine wpAnyH_take (i := 2) (oi := { dst := some 72, op := Op.move (Operand.tmp 71), type := 4, pos := "l16_chains.go:109", after := #[{ on := 1, ground := Ground.data }, { on := 0, ground := Ground.chain }], guard := none }) (v := ?_) rfl (by kernel_rfl) (by kernel_rfl) (by kernel_rfl) (fun _ _ _ h => h) (Or.inl ⟨by rfl, ?hy⟩) hHeld ?_
          case hy => (intro w' hSw; (try dsimp only at hSw); go_simp; try with_reducible rfl)
          simp only [Act.put, List.setIfInBounds_toArray, List.set_cons_zero, List.set_cons_succ]
          refine wpAnyH_take (i := 5) (oi := { dst := some 75, op := Op.move (Operand.tmp 7), type := 41, pos := "l16_chains.go:109", after := #[{ on := 2, ground := Ground.guard }], guard := some (2, false) }) (v := ?_) rfl (by kernel_rfl) (by kernel_rfl) (by kernel_rfl) (fun _ _ _ h => h) (Or.inl ⟨by rfl, ?hy⟩) hHeld ?_
          case hy => (intro w' hSw; (try dsimp only at hSw); go_simp; try with_reducible rfl)
          simp only [Act.put, List.setIfInBounds_toArray, List.set_cons_zero, List.set_cons_succ]
          refine wpAnyH_take (i := 6) (oi := { dst := some 76, op := Op.convert 41 9 (Operand.tmp 75), type := 9, pos := "l16_chains.go:109", after := #[{ on := 5, ground := Ground.data }, { on := 2, ground := Ground.guard }], guard := some (2, false) }) (v := ?_) rfl (by kernel_rfl) (by kernel_rfl) (by kernel_rfl) (fun _ _ _ h => h) (Or.inl ⟨by rfl, ?hy⟩) hHeld ?_
          case hy => (intro w' hSw; (try dsimp only at hSw); go_simp; try with_reducible rfl)
          simp only [Act.put, List.setIfInBounds_toArray, List.set_cons_zero, List.set_cons_succ]
          refine wpAnyH_ready (rs := [3]) (by kernel_rfl) (by simp) ?_
          refine AllReadyH.cons (o := { dst := some 73, op := Op.call { callee := Callee.value (Operand.func 35), args := #[Operand.tmp 9], argTypes := #[60] }, type := 41, pos := "l16_chains.go:109", after := #[{ on := 2, ground := Ground.chain }, { on := 2, ground := Ground.guard }], guard := some (2, false) }) rfl (fun K hK => ?_) AllReadyH.nil
          go_simp
          go_at_call 35; refine (LB.out _ gb (KB.out.below HC.out hlt2)).mono ?_; rintro e wk ⟨g2, rfl, hrb, hg2, hbk⟩; replace HC := Lib.hid (HC.out.trans (hbk.mono HC.out.size)); (have hcv4 := HV.out wk g2 hrb; clear hrb)
          go_wp2_with fail
          refine hK.out _ _ (K7.out _ (FR.out.trans (HC.out.mono FR.out.size))) (fun hHeld => ?_)
          clear hK K
          try simp only [Act.put, List.setIfInBounds_toArray, List.set_cons_zero, List.set_cons_succ]
          refine wpAnyH_ready (rs := [4]) (by kernel_rfl) (by simp) ?_
          refine AllReadyH.cons (o := { dst := some 74, op := Op.convert 41 9 (Operand.tmp 73), type := 9, pos := "l16_chains.go:109", after := #[{ on := 3, ground := Ground.data }, { on := 2, ground := Ground.guard }], guard := some (2, false) }) rfl (fun K hK => ?_) AllReadyH.nil
          go_simp
          skip
          go_wp2_with fail
          refine hK.out _ _ (K7.out _ (FR.out.trans (HC.out.mono FR.out.size))) (fun hHeld => ?_)
          clear hK K
          try simp only [Act.put, List.setIfInBounds_toArray, List.set_cons_zero, List.set_cons_succ]
          refine wpAnyH_take (i := 7) (oi := { dst := some 77, op := Op.binOp BinOp.neq 9 (Operand.tmp 74) (Operand.tmp 76) 9, type := 4, pos := "l16_chains.go:109", after := #[{ on := 4, ground := Ground.data }, { on := 6, ground := Ground.data }, { on := 2, ground := Ground.guard }], guard := some (2, false) }) (v := ?_) rfl (by kernel_rfl) (by kernel_rfl) (by kernel_rfl) (fun _ _ _ h => h) (Or.inl ⟨by rfl, ?hy⟩) hHeld ?_
          case hy => (intro w' hSw; (try dsimp only at hSw); go_simp; try with_reducible rfl)
          simp only [Act.put, List.setIfInBounds_toArray, List.set_cons_zero, List.set_cons_succ]
          refine wpAnyH_take (i := 8) (oi := { dst := some 78, op := Op.pick (Operand.tmp 72) (Operand.const (Value.bool true)) (Operand.tmp 77), type := 4, pos := "l16_chains.go:109", after := #[{ on := 2, ground := Ground.data }, { on := 7, ground := Ground.data }], guard := none }) (v := ?_) rfl (by kernel_rfl) (by kernel_rfl) (by kernel_rfl) (fun _ _ _ h => h) (Or.inl ⟨by rfl, ?hy⟩) hHeld ?_
          case hy => (intro w' hSw; (try dsimp only at hSw); go_simp; try with_reducible rfl)
          simp only [Act.put, List.setIfInBounds_toArray, List.set_cons_zero, List.set_cons_succ]
          refine wpAnyH_done (by kernel_rfl) ?_ _
          replace HR := Lib.hid (HR.out.below HC.out hlt1)
          replace KB := Lib.hid (KB.out.below HC.out hlt2)
          replace FR := Lib.hid (FR.out.trans (HC.out.mono FR.out.size))
          obtain ⟨a0, z0⟩ := HR.out 0 _ rfl
          obtain ⟨a1, z1⟩ := HR.out 1 _ rfl
          obtain ⟨a2, z2⟩ := HR.out 2 _ rfl
          obtain ⟨a3, z3⟩ := HR.out 3 _ rfl
          obtain ⟨a4, z4⟩ := HR.out 4 _ rfl
          go_wp2
          refine bodyPost_ret (v := .tuple #[.agg #[.string ⟨#[]⟩, .int .i64 0, .int .i64 0, .bool false, .bool false], .bool false]) (by simp [results, Tryz.results21, go_sem, a0, a1, a2, a3, a4]) rfl ⟨rfl, ?_⟩
          exact ((((FR.out.setCell (by simp) _).setCell (by simp) _).setCell (by simp) _).setCell (by simp) _).setCell (by simp) _
  case pos =>
    have hR2 : (if (validS (entS l) && decide (bytesS (entS l) = l)) = true then entS l else zeroE) = entS l := by rw [hv, decide_eq_true hbl]; rfl
    rw [hR2, hv, decide_eq_true hbl, Bool.and_true]
    rw [hbl] at HV LB
    clear hv hR2 HSS HOK hf0 hbl hvb
    go_enter Tryz.func21, Tryz.ntmps21
    go_wp2
    generalize (w.alloc (.cells #[.string ⟨#[]⟩, .int .i64 0, .int .i64 0, .bool false, .bool false] 45)) = W at *
    have y1 := (FA.out.cell (p := ⟨p, 1, none⟩) hplt).trans x1
    have y3 := (FA.out.cell (p := ⟨p, 3, none⟩) hplt).trans x3
    have y5 := (FA.out.cell (p := ⟨p, 5, none⟩) hplt).trans x5
    clear x1 x3 x5
    go_quiet (fail)
    rename_i nq
    have FB := Lib.hid (show Below w.heap.size w (W.drewN nq) from below_drewN' FA.out nq)
    replace R0 := Lib.hid (show BoxF (W.drewN nq) w.heap.size #[.string ⟨#[]⟩, .int .i64 0, .int .i64 0, .bool false, .bool false] from R0.out.drewN nq)
    have hltB : w.heap.size < (W.drewN nq).heap.size := hltA
    have t5 : (W.drewN nq).cell? ⟨p, 5, none⟩ = some (.slice (some ⟨g, 0, none⟩) N cap) := y5
    clear FA y1 y3 y5 hltA
    generalize W.drewN nq = W1 at *
    have eN : (F : Int) + 12 ≤ (N : Int) := by omega
    have eC : (F : Int) + 12 ≤ (cap : Int) := by omega
    have hF4 : F ≤ 4096 := by omega
    obtain ⟨m, hm⟩ : ∃ m, (upZ l).length = m := ⟨_, rfl⟩
    rw [hm] at hule HU
    go_wp2
    rw [show F + 12 - F = 12 by omega]
    obtain ⟨C2, hC2⟩ : ∃ C2, cap - F = C2 := ⟨_, rfl⟩
    have hc12 : 12 ≤ C2 := by omega
    rw [hC2]
    clear hC2
    go_loopw [8] (fun i wr => ∃ n : Nat, n ≤ m ∧ i = .int .i64 n ∧ BoxF wr w.heap.size #[.string ⟨#[]⟩, .int .i64 0, .int .i64 0, .bool false, .bool false] ∧ Below w.heap.size w wr ∧ w.heap.size < wr.heap.size) (fun i _ => m - (intOf i).toNat)
    case atStart => exact ⟨0, Nat.zero_le _, rfl, R0.out, FB.out, hltB⟩
    case round =>
      obtain ⟨n, hnm, rfl, hr0, hb, hlt⟩ := hrel
      have FR := Lib.hid hb
      have HR := Lib.hid hr0
      clear hb hr0
      by_cases hnlt : n < m
      · have cx := CE.out _ FR.out n (by omega)
        have hne := HU.out.1 n hnlt
        have n8 : (n : Int) < 8 := by omega
        generalize atE l n = bn at *
        go_wp2
        go_roundw
        case rel => exact ⟨n + 1, by omega, by go_num, HR.out, FR.out, hlt⟩
        case measure => simp [intOf]; omega
      · obtain rfl : n = m := by omega
        have KS := Lib.hid (fun w' (hb : Below w.heap.size w w') => (show (fun w' => (convert 41 9 (.slice (some ⟨g, F, none⟩) n C2)).run Tryz.prog w' = .ok (.string ⟨(upZ l).toArray⟩) w' ∧ w'.cell? ⟨g, F + 8, none⟩ = some (.int .u8 (atE l 8 : Int)) ∧ w'.cell? ⟨g, F + 9, none⟩ = some (.int .u8 (atE l 9 : Int)) ∧ w'.cell? ⟨g, F + 10, none⟩ = some (.int .u8 (atE l 10 : Int)) ∧ w'.cell? ⟨g, F + 11, none⟩ = some (.int .u8 (atE l 11 : Int))) w' from
          ⟨by
            have h := conv_of w' ⟨g, F, none⟩ C2 (upZ l) (fun j hj => by
              have e : (⟨g, F, none⟩ : Addr).add j = ⟨g, F + j, none⟩ := by unfold Addr.add; split <;> simp_all
              have hj12 : j < 12 := by omega
              rw [e, CE.out w' hb j hj12]
              have h3 := HU.out.2.2
              have hjl : j < l.length := by rw [H3.out]; exact hj12
              have e2 : (upZ l)[j] = l[j] := by
                have h4 : (upZ l)[j]? = (l.take n)[j]? := by rw [← h3]
                rw [List.getElem?_eq_getElem hj, List.getElem?_take_of_lt (by omega), List.getElem?_eq_getElem hjl] at h4
                exact Option.some.inj h4
              rw [e2]
              unfold atE
              rw [List.getElem?_eq_getElem hjl]
              rfl)
            rw [hm] at h
            exact h, CE.out w' hb 8 (by omega), CE.out w' hb 9 (by omega), CE.out w' hb 10 (by omega), CE.out w' hb 11 (by omega)⟩))
        have HB := Lib.hid (show entS l = ⟨⟨(upZ l).toArray⟩, (atE l 8 : Int), 256 * (atE l 9 : Int) + (atE l 10 : Int), decide (atE l 11 = 1), decide (atE l 11 = 2)⟩ by unfold entS entW; rw [Int.mul_comm])
        have hnC : n ≤ C2 := by omega
        have q8 := atE_lt l 8
        have q9 := atE_lt l 9
        have q10 := atE_lt l 10
        have q11 := atE_lt l 11
        generalize atE l 8 = b8 at *
        generalize atE l 9 = b9 at *
        generalize atE l 10 = b10 at *
        generalize atE l 11 = b11 at *
        have HE := Lib.hid (show (⟨(upZ l).toArray⟩ : ByteArray) = (entS l).f0 ∧ IntKind.i64.wrap (b8 : Int) = (entS l).f1 ∧ IntKind.i64.wrap (IntKind.i64.wrap (256 * IntKind.i64.wrap (b9 : Int)) + IntKind.i64.wrap (b10 : Int)) = (entS l).f2 ∧ ((b11 : Int) == 1) = (entS l).f3 ∧ ((b11 : Int) == 2) = (entS l).f4 by
          rw [HB.out]
          have j1 : IntKind.i64.wrap (b8 : Int) = b8 := IntWalk.i64_in _ (by omega)
          have j2 : IntKind.i64.wrap (b9 : Int) = b9 := IntWalk.i64_in _ (by omega)
          have j3 : IntKind.i64.wrap (b10 : Int) = b10 := IntWalk.i64_in _ (by omega)
          have j4 : IntKind.i64.wrap (256 * (b9 : Int)) = 256 * b9 := IntWalk.i64_in _ (by omega)
          have j5 : IntKind.i64.wrap (256 * (b9 : Int) + b10) = 256 * b9 + b10 := IntWalk.i64_in _ (by omega)
          rw [j1, j2, j3, j4, j5]
          refine ⟨rfl, rfl, rfl, ?_, ?_⟩
          · rw [Bool.eq_iff_iff]; simp; omega
          · rw [Bool.eq_iff_iff]; simp; omega)
        have K7 := Lib.hid (fun w' (hb : Below w.heap.size w w') => (show (fun w' => (convert 41 9 (.slice (some ⟨g, F, none⟩) 12 C2)).run Tryz.prog w' = .ok (.string ⟨l.toArray⟩) w') w' from by
          have h := conv_of w' ⟨g, F, none⟩ C2 l (fun j hj => by
            have e : (⟨g, F, none⟩ : Addr).add j = ⟨g, F + j, none⟩ := by unfold Addr.add; split <;> simp_all
            rw [e, CE.out w' hb j (by rw [← H3.out]; exact hj)]
            unfold atE
            rw [List.getElem?_eq_getElem hj]
            rfl)
          rw [H3.out] at h
          exact h))
        by_cases h8 : n < 8
        · have cx := CE.out _ FR.out n (by omega)
          rw [HU.out.2.1 h8] at cx
          have n8 : (n : Int) < 8 := by omega
          go_wp2
          refine wp_region_held_drew (S := (fun w' => (convert 41 9 (.slice (some ⟨g, F, none⟩) n C2)).run Tryz.prog w' = .ok (.string ⟨(upZ l).toArray⟩) w' ∧ w'.cell? ⟨g, F + 8, none⟩ = some (.int .u8 (b8 : Int)) ∧ w'.cell? ⟨g, F + 9, none⟩ = some (.int .u8 (b9 : Int)) ∧ w'.cell? ⟨g, F + 10, none⟩ = some (.int .u8 (b10 : Int)) ∧ w'.cell? ⟨g, F + 11, none⟩ = some (.int .u8 (b11 : Int)))) (by kernel_rfl) (KS.out _ FR.out.drew) (fun hHeld => ?_)
          refine wpAnyH_take (i := 0) (oi := { dst := some 43, op := Op.move (Operand.tmp 7), type := 41, pos := "l16_chains.go:108", after := #[], guard := none }) (v := ?_) rfl (by kernel_rfl) (by kernel_rfl) (by kernel_rfl) (fun _ _ _ h => h) (Or.inl ⟨by rfl, ?hy⟩) hHeld ?_
          case hy => (intro w' hSw; (try dsimp only at hSw); go_simp; try with_reducible rfl)
          simp only [Act.put, List.setIfInBounds_toArray, List.set_cons_zero, List.set_cons_succ]
          refine wpAnyH_take (i := 1) (oi := { dst := some 44, op := Op.move (Operand.tmp 8), type := 3, pos := "l16_chains.go:108", after := #[], guard := none }) (v := ?_) rfl (by kernel_rfl) (by kernel_rfl) (by kernel_rfl) (fun _ _ _ h => h) (Or.inl ⟨by rfl, ?hy⟩) hHeld ?_
          case hy => (intro w' hSw; (try dsimp only at hSw); go_simp; try with_reducible rfl)
          simp only [Act.put, List.setIfInBounds_toArray, List.set_cons_zero, List.set_cons_succ]
          refine wpAnyH_take (i := 2) (oi := { dst := some 45, op := Op.slice 41 (Operand.tmp 43) none (some (Operand.tmp 44)) none, type := 41, pos := "l16_chains.go:108", after := #[{ on := 0, ground := Ground.data }, { on := 1, ground := Ground.data }], guard := none }) (v := ?_) rfl (by kernel_rfl) (by kernel_rfl) (by kernel_rfl) (fun _ _ _ h => h) (Or.inl ⟨by rfl, ?hy⟩) hHeld ?_
          case hy => (intro w' hSw; (try dsimp only at hSw); go_simp; try with_reducible rfl)
          simp only [Act.put, List.setIfInBounds_toArray, List.set_cons_zero, List.set_cons_succ]
          refine wpAnyH_take (i := 3) (oi := { dst := some 46, op := Op.convert 41 9 (Operand.tmp 45), type := 9, pos := "l16_chains.go:108", after := #[{ on := 2, ground := Ground.data }], guard := none }) (v := ?_) rfl (by kernel_rfl) (by kernel_rfl) (by kernel_rfl) (fun _ _ _ h => h) (Or.inl ⟨by rfl, ?hy⟩) hHeld ?_
          case hy => (intro w' hSw; (try dsimp only at hSw); go_simp; try with_reducible rfl)
          simp only [Act.put, List.setIfInBounds_toArray, List.set_cons_zero, List.set_cons_succ]
          refine wpAnyH_take (i := 4) (oi := { dst := some 47, op := Op.move (Operand.tmp 7), type := 41, pos := "l16_chains.go:108", after := #[], guard := none }) (v := ?_) rfl (by kernel_rfl) (by kernel_rfl) (by kernel_rfl) (fun _ _ _ h => h) (Or.inl ⟨by rfl, ?hy⟩) hHeld ?_
          case hy => (intro w' hSw; (try dsimp only at hSw); go_simp; try with_reducible rfl)
          simp only [Act.put, List.setIfInBounds_toArray, List.set_cons_zero, List.set_cons_succ]
          refine wpAnyH_take (i := 5) (oi := { dst := some 48, op := Op.indexAddr 41 (Operand.tmp 47) (Operand.const (Value.int IntKind.i64 8)), type := 0, pos := "l16_chains.go:108", after := #[{ on := 4, ground := Ground.data }], guard := none }) (v := ?_) rfl (by kernel_rfl) (by kernel_rfl) (by kernel_rfl) (fun _ _ _ h => h) (Or.inl ⟨by rfl, ?hy⟩) hHeld ?_
          case hy => (intro w' hSw; (try dsimp only at hSw); go_simp; try with_reducible rfl)
          simp only [Act.put, List.setIfInBounds_toArray, List.set_cons_zero, List.set_cons_succ]
          refine wpAnyH_take (i := 6) (oi := { dst := some 49, op := Op.load 5 (Operand.tmp 48), type := 5, pos := "l16_chains.go:108", after := #[{ on := 5, ground := Ground.data }], guard := none }) (v := ?_) rfl (by kernel_rfl) (by kernel_rfl) (by kernel_rfl) (fun _ _ _ h => h) (Or.inl ⟨by rfl, ?hy⟩) hHeld ?_
          case hy => (intro w' hSw; (try dsimp only at hSw); go_simp; try with_reducible rfl)
          simp only [Act.put, List.setIfInBounds_toArray, List.set_cons_zero, List.set_cons_succ]
          refine wpAnyH_take (i := 7) (oi := { dst := some 50, op := Op.convert 5 2 (Operand.tmp 49), type := 2, pos := "l16_chains.go:108", after := #[{ on := 6, ground := Ground.data }], guard := none }) (v := ?_) rfl (by kernel_rfl) (by kernel_rfl) (by kernel_rfl) (fun _ _ _ h => h) (Or.inl ⟨by rfl, ?hy⟩) hHeld ?_
          case hy => (intro w' hSw; (try dsimp only at hSw); go_simp; try with_reducible rfl)
          simp only [Act.put, List.setIfInBounds_toArray, List.set_cons_zero, List.set_cons_succ]
          refine wpAnyH_take (i := 8) (oi := { dst := some 51, op := Op.move (Operand.tmp 7), type := 41, pos := "l16_chains.go:108", after := #[], guard := none }) (v := ?_) rfl (by kernel_rfl) (by kernel_rfl) (by kernel_rfl) (fun _ _ _ h => h) (Or.inl ⟨by rfl, ?hy⟩) hHeld ?_
          case hy => (intro w' hSw; (try dsimp only at hSw); go_simp; try with_reducible rfl)
          simp only [Act.put, List.setIfInBounds_toArray, List.set_cons_zero, List.set_cons_succ]
          refine wpAnyH_take (i := 9) (oi := { dst := some 52, op := Op.indexAddr 41 (Operand.tmp 51) (Operand.const (Value.int IntKind.i64 9)), type := 0, pos := "l16_chains.go:108", after := #[{ on := 8, ground := Ground.data }], guard := none }) (v := ?_) rfl (by kernel_rfl) (by kernel_rfl) (by kernel_rfl) (fun _ _ _ h => h) (Or.inl ⟨by rfl, ?hy⟩) hHeld ?_
          case hy => (intro w' hSw; (try dsimp only at hSw); go_simp; try with_reducible rfl)
          simp only [Act.put, List.setIfInBounds_toArray, List.set_cons_zero, List.set_cons_succ]
          refine wpAnyH_take (i := 10) (oi := { dst := some 53, op := Op.load 5 (Operand.tmp 52), type := 5, pos := "l16_chains.go:108", after := #[{ on := 9, ground := Ground.data }], guard := none }) (v := ?_) rfl (by kernel_rfl) (by kernel_rfl) (by kernel_rfl) (fun _ _ _ h => h) (Or.inl ⟨by rfl, ?hy⟩) hHeld ?_
          case hy => (intro w' hSw; (try dsimp only at hSw); go_simp; try with_reducible rfl)
          simp only [Act.put, List.setIfInBounds_toArray, List.set_cons_zero, List.set_cons_succ]
          refine wpAnyH_take (i := 11) (oi := { dst := some 54, op := Op.convert 5 2 (Operand.tmp 53), type := 2, pos := "l16_chains.go:108", after := #[{ on := 10, ground := Ground.data }], guard := none }) (v := ?_) rfl (by kernel_rfl) (by kernel_rfl) (by kernel_rfl) (fun _ _ _ h => h) (Or.inl ⟨by rfl, ?hy⟩) hHeld ?_
          case hy => (intro w' hSw; (try dsimp only at hSw); go_simp; try with_reducible rfl)
          simp only [Act.put, List.setIfInBounds_toArray, List.set_cons_zero, List.set_cons_succ]
          refine wpAnyH_take (i := 12) (oi := { dst := some 55, op := Op.binOp BinOp.mul 2 (Operand.const (Value.int IntKind.i64 256)) (Operand.tmp 54) 2, type := 2, pos := "l16_chains.go:108", after := #[{ on := 11, ground := Ground.data }], guard := none }) (v := ?_) rfl (by kernel_rfl) (by kernel_rfl) (by kernel_rfl) (fun _ _ _ h => h) (Or.inl ⟨by rfl, ?hy⟩) hHeld ?_
          case hy => (intro w' hSw; (try dsimp only at hSw); go_simp; try with_reducible rfl)
          simp only [Act.put, List.setIfInBounds_toArray, List.set_cons_zero, List.set_cons_succ]
          refine wpAnyH_take (i := 13) (oi := { dst := some 56, op := Op.move (Operand.tmp 7), type := 41, pos := "l16_chains.go:108", after := #[], guard := none }) (v := ?_) rfl (by kernel_rfl) (by kernel_rfl) (by kernel_rfl) (fun _ _ _ h => h) (Or.inl ⟨by rfl, ?hy⟩) hHeld ?_
          case hy => (intro w' hSw; (try dsimp only at hSw); go_simp; try with_reducible rfl)
          simp only [Act.put, List.setIfInBounds_toArray, List.set_cons_zero, List.set_cons_succ]
          refine wpAnyH_take (i := 14) (oi := { dst := some 57, op := Op.indexAddr 41 (Operand.tmp 56) (Operand.const (Value.int IntKind.i64 10)), type := 0, pos := "l16_chains.go:108", after := #[{ on := 13, ground := Ground.data }], guard := none }) (v := ?_) rfl (by kernel_rfl) (by kernel_rfl) (by kernel_rfl) (fun _ _ _ h => h) (Or.inl ⟨by rfl, ?hy⟩) hHeld ?_
          case hy => (intro w' hSw; (try dsimp only at hSw); go_simp; try with_reducible rfl)
          simp only [Act.put, List.setIfInBounds_toArray, List.set_cons_zero, List.set_cons_succ]
          refine wpAnyH_take (i := 15) (oi := { dst := some 58, op := Op.load 5 (Operand.tmp 57), type := 5, pos := "l16_chains.go:108", after := #[{ on := 14, ground := Ground.data }], guard := none }) (v := ?_) rfl (by kernel_rfl) (by kernel_rfl) (by kernel_rfl) (fun _ _ _ h => h) (Or.inl ⟨by rfl, ?hy⟩) hHeld ?_
          case hy => (intro w' hSw; (try dsimp only at hSw); go_simp; try with_reducible rfl)
          simp only [Act.put, List.setIfInBounds_toArray, List.set_cons_zero, List.set_cons_succ]
          refine wpAnyH_take (i := 16) (oi := { dst := some 59, op := Op.convert 5 2 (Operand.tmp 58), type := 2, pos := "l16_chains.go:108", after := #[{ on := 15, ground := Ground.data }], guard := none }) (v := ?_) rfl (by kernel_rfl) (by kernel_rfl) (by kernel_rfl) (fun _ _ _ h => h) (Or.inl ⟨by rfl, ?hy⟩) hHeld ?_
          case hy => (intro w' hSw; (try dsimp only at hSw); go_simp; try with_reducible rfl)
          simp only [Act.put, List.setIfInBounds_toArray, List.set_cons_zero, List.set_cons_succ]
          refine wpAnyH_take (i := 17) (oi := { dst := some 60, op := Op.binOp BinOp.add 2 (Operand.tmp 55) (Operand.tmp 59) 2, type := 2, pos := "l16_chains.go:108", after := #[{ on := 12, ground := Ground.data }, { on := 16, ground := Ground.data }], guard := none }) (v := ?_) rfl (by kernel_rfl) (by kernel_rfl) (by kernel_rfl) (fun _ _ _ h => h) (Or.inl ⟨by rfl, ?hy⟩) hHeld ?_
          case hy => (intro w' hSw; (try dsimp only at hSw); go_simp; try with_reducible rfl)
          simp only [Act.put, List.setIfInBounds_toArray, List.set_cons_zero, List.set_cons_succ]
          refine wpAnyH_take (i := 18) (oi := { dst := some 61, op := Op.move (Operand.tmp 7), type := 41, pos := "l16_chains.go:108", after := #[], guard := none }) (v := ?_) rfl (by kernel_rfl) (by kernel_rfl) (by kernel_rfl) (fun _ _ _ h => h) (Or.inl ⟨by rfl, ?hy⟩) hHeld ?_
          case hy => (intro w' hSw; (try dsimp only at hSw); go_simp; try with_reducible rfl)
          simp only [Act.put, List.setIfInBounds_toArray, List.set_cons_zero, List.set_cons_succ]
          refine wpAnyH_take (i := 19) (oi := { dst := some 62, op := Op.indexAddr 41 (Operand.tmp 61) (Operand.const (Value.int IntKind.i64 11)), type := 0, pos := "l16_chains.go:108", after := #[{ on := 18, ground := Ground.data }], guard := none }) (v := ?_) rfl (by kernel_rfl) (by kernel_rfl) (by kernel_rfl) (fun _ _ _ h => h) (Or.inl ⟨by rfl, ?hy⟩) hHeld ?_
          case hy => (intro w' hSw; (try dsimp only at hSw); go_simp; try with_reducible rfl)
          simp only [Act.put, List.setIfInBounds_toArray, List.set_cons_zero, List.set_cons_succ]
          refine wpAnyH_take (i := 20) (oi := { dst := some 63, op := Op.load 5 (Operand.tmp 62), type := 5, pos := "l16_chains.go:108", after := #[{ on := 19, ground := Ground.data }], guard := none }) (v := ?_) rfl (by kernel_rfl) (by kernel_rfl) (by kernel_rfl) (fun _ _ _ h => h) (Or.inl ⟨by rfl, ?hy⟩) hHeld ?_
          case hy => (intro w' hSw; (try dsimp only at hSw); go_simp; try with_reducible rfl)
          simp only [Act.put, List.setIfInBounds_toArray, List.set_cons_zero, List.set_cons_succ]
          refine wpAnyH_take (i := 21) (oi := { dst := some 64, op := Op.binOp BinOp.eql 5 (Operand.tmp 63) (Operand.const (Value.int IntKind.u8 1)) 5, type := 4, pos := "l16_chains.go:108", after := #[{ on := 20, ground := Ground.data }], guard := none }) (v := ?_) rfl (by kernel_rfl) (by kernel_rfl) (by kernel_rfl) (fun _ _ _ h => h) (Or.inl ⟨by rfl, ?hy⟩) hHeld ?_
          case hy => (intro w' hSw; (try dsimp only at hSw); go_simp; try with_reducible rfl)
          simp only [Act.put, List.setIfInBounds_toArray, List.set_cons_zero, List.set_cons_succ]
          refine wpAnyH_take (i := 22) (oi := { dst := some 65, op := Op.move (Operand.tmp 7), type := 41, pos := "l16_chains.go:108", after := #[], guard := none }) (v := ?_) rfl (by kernel_rfl) (by kernel_rfl) (by kernel_rfl) (fun _ _ _ h => h) (Or.inl ⟨by rfl, ?hy⟩) hHeld ?_
          case hy => (intro w' hSw; (try dsimp only at hSw); go_simp; try with_reducible rfl)
          simp only [Act.put, List.setIfInBounds_toArray, List.set_cons_zero, List.set_cons_succ]
          refine wpAnyH_take (i := 23) (oi := { dst := some 66, op := Op.indexAddr 41 (Operand.tmp 65) (Operand.const (Value.int IntKind.i64 11)), type := 0, pos := "l16_chains.go:108", after := #[{ on := 22, ground := Ground.data }], guard := none }) (v := ?_) rfl (by kernel_rfl) (by kernel_rfl) (by kernel_rfl) (fun _ _ _ h => h) (Or.inl ⟨by rfl, ?hy⟩) hHeld ?_
          case hy => (intro w' hSw; (try dsimp only at hSw); go_simp; try with_reducible rfl)
          simp only [Act.put, List.setIfInBounds_toArray, List.set_cons_zero, List.set_cons_succ]
          refine wpAnyH_take (i := 24) (oi := { dst := some 67, op := Op.load 5 (Operand.tmp 66), type := 5, pos := "l16_chains.go:108", after := #[{ on := 23, ground := Ground.data }], guard := none }) (v := ?_) rfl (by kernel_rfl) (by kernel_rfl) (by kernel_rfl) (fun _ _ _ h => h) (Or.inl ⟨by rfl, ?hy⟩) hHeld ?_
          case hy => (intro w' hSw; (try dsimp only at hSw); go_simp; try with_reducible rfl)
          simp only [Act.put, List.setIfInBounds_toArray, List.set_cons_zero, List.set_cons_succ]
          refine wpAnyH_take (i := 25) (oi := { dst := some 68, op := Op.binOp BinOp.eql 5 (Operand.tmp 67) (Operand.const (Value.int IntKind.u8 2)) 5, type := 4, pos := "l16_chains.go:108", after := #[{ on := 24, ground := Ground.data }], guard := none }) (v := ?_) rfl (by kernel_rfl) (by kernel_rfl) (by kernel_rfl) (fun _ _ _ h => h) (Or.inl ⟨by rfl, ?hy⟩) hHeld ?_
          case hy => (intro w' hSw; (try dsimp only at hSw); go_simp; try with_reducible rfl)
          simp only [Act.put, List.setIfInBounds_toArray, List.set_cons_zero, List.set_cons_succ]
          refine wpAnyH_take (i := 26) (oi := { dst := some 69, op := Op.build 45 #[(0, Operand.tmp 46), (1, Operand.tmp 50), (2, Operand.tmp 60), (3, Operand.tmp 64), (4, Operand.tmp 68)], type := 45, pos := "l16_chains.go:108", after := #[{ on := 3, ground := Ground.data }, { on := 7, ground := Ground.data }, { on := 17, ground := Ground.data }, { on := 21, ground := Ground.data }, { on := 25, ground := Ground.data }], guard := none }) (v := ?_) rfl (by kernel_rfl) (by kernel_rfl) (by kernel_rfl) (fun _ _ _ h => h) (Or.inl ⟨by rfl, ?hy⟩) hHeld ?_
          case hy => (intro w' hSw; (try dsimp only at hSw); go_simp; try with_reducible rfl)
          simp only [Act.put, List.setIfInBounds_toArray, List.set_cons_zero, List.set_cons_succ]
          refine wpAnyH_ready (rs := [27]) (by kernel_rfl) (by simp) ?_
          refine AllReadyH.cons (o := { dst := some 9, op := Op.alloc 45, type := 0, pos := "l16_chains.go:108", after := #[], guard := none }) rfl (fun K hK => ?_) AllReadyH.nil
          go_simp
          refine hK.out _ _ (KS.out _ (by first | exact FR.out.drew | exact (FR.out.alloc FR.out.size _).drew)) (fun hHeld => ?_)
          clear hK K
          try simp only [Act.put, List.setIfInBounds_toArray, List.set_cons_zero, List.set_cons_succ]
          refine wpAnyH_ready (rs := [28]) (by kernel_rfl) (by simp) ?_
          refine AllReadyH.cons (o := { dst := none, op := Op.store 45 (Operand.tmp 9) (Operand.tmp 69), type := 0, pos := "l16_chains.go:108", after := #[{ on := 27, ground := Ground.data }, { on := 26, ground := Ground.data }, { on := 0, ground := Ground.phase }, { on := 1, ground := Ground.phase }, { on := 2, ground := Ground.phase }, { on := 3, ground := Ground.phase }, { on := 4, ground := Ground.phase }, { on := 5, ground := Ground.phase }, { on := 6, ground := Ground.phase }, { on := 7, ground := Ground.phase }, { on := 8, ground := Ground.phase }, { on := 9, ground := Ground.phase }, { on := 10, ground := Ground.phase }, { on := 11, ground := Ground.phase }, { on := 12, ground := Ground.phase }, { on := 13, ground := Ground.phase }, { on := 14, ground := Ground.phase }, { on := 15, ground := Ground.phase }, { on := 16, ground := Ground.phase }, { on := 17, ground := Ground.phase }, { on := 18, ground := Ground.phase }, { on := 19, ground := Ground.phase }, { on := 20, ground := Ground.phase }, { on := 21, ground := Ground.phase }, { on := 22, ground := Ground.phase }, { on := 23, ground := Ground.phase }, { on := 24, ground := Ground.phase }, { on := 25, ground := Ground.phase }, { on := 26, ground := Ground.phase }, { on := 27, ground := Ground.phase }], guard := none }) rfl (fun K hK => ?_) AllReadyH.nil
          go_simp
          refine hK.out _ _ (KS.out _ (by first | exact FR.out.drew | exact (FR.out.alloc FR.out.size _).drew)) (fun hHeld => ?_)
          clear hK K
          try simp only [Act.put, List.setIfInBounds_toArray, List.set_cons_zero, List.set_cons_succ]
          refine wpAnyH_done (by kernel_rfl) ?_ _
          obtain ⟨i0, i1, i2, i3, i4⟩ := HE.out
          rw [i0, i1, i2, i3, i4]
          clear i0 i1 i2 i3 i4
          have FW := Lib.hid (show Below wr.heap.size wr (wr.alloc (.cells #[.string (entS l).f0, .int .i64 (entS l).f1, .int .i64 (entS l).f2, .bool (entS l).f3, .bool (entS l).f4] 45)).drew from ((Below.refl _ _).alloc (Nat.le_refl _) _).drew)
          have KB := Lib.hid (show BoxAt (wr.alloc (.cells #[.string (entS l).f0, .int .i64 (entS l).f1, .int .i64 (entS l).f2, .bool (entS l).f3, .bool (entS l).f4] 45)).drew wr.heap.size #[.string (entS l).f0, .int .i64 (entS l).f1, .int .i64 (entS l).f2, .bool (entS l).f3, .bool (entS l).f4] from BoxAt.new wr #[.string (entS l).f0, .int .i64 (entS l).f1, .int .i64 (entS l).f2, .bool (entS l).f3, .bool (entS l).f4] 45 wr.heap.size rfl)
          replace HR := Lib.hid (HR.out.below FW.out hlt)
          replace FR := Lib.hid (FR.out.trans (FW.out.mono FR.out.size))
          have hlt1 : w.heap.size < (wr.alloc (.cells #[.string (entS l).f0, .int .i64 (entS l).f1, .int .i64 (entS l).f2, .bool (entS l).f3, .bool (entS l).f4] 45)).drew.heap.size := by simp; omega
          have hlt2 : wr.heap.size < (wr.alloc (.cells #[.string (entS l).f0, .int .i64 (entS l).f1, .int .i64 (entS l).f2, .bool (entS l).f3, .bool (entS l).f4] 45)).drew.heap.size := by simp
          clear FW KS HE HU hlt
          generalize (wr.alloc (.cells #[.string (entS l).f0, .int .i64 (entS l).f1, .int .i64 (entS l).f2, .bool (entS l).f3, .bool (entS l).f4] 45)).drew = W at KB HR FR hlt1 hlt2 ⊢
          generalize wr.heap.size = gb at KB hlt2 ⊢
          have HC := Lib.hid (show Below W.heap.size W W.drew from (Below.refl _ _).drew)
          go_upto_region 7 with (fail)
          refine wp_region_held_drew (S := (fun w' => (convert 41 9 (.slice (some ⟨g, F, none⟩) 12 C2)).run Tryz.prog w' = .ok (.string ⟨l.toArray⟩) w')) (by kernel_rfl) (K7.out _ (FR.out.trans (HC.out.mono FR.out.size))) (fun hHeld => ?_)
          refine wpAnyH_ready (rs := [0]) (by kernel_rfl) (by simp) ?_
          refine AllReadyH.cons (o := { dst := some 70, op := Op.call { callee := Callee.value (Operand.func 34), args := #[Operand.tmp 9], argTypes := #[60] }, type := 4, pos := "l16_chains.go:109", after := #[], guard := none }) rfl (fun K hK => ?_) AllReadyH.nil
          go_simp
          go_at_call 34; refine (LE.out _ gb (KB.out.below HC.out hlt2)).mono ?_; rintro e wk1 ⟨rfl, hb1⟩; replace HC := Lib.hid (HC.out.trans (hb1.mono HC.out.size))
          go_wp2_with fail
          refine hK.out _ _ (K7.out _ (FR.out.trans (HC.out.mono FR.out.size))) (fun hHeld => ?_)
          clear hK K
          try simp only [Act.put, List.setIfInBounds_toArray, List.set_cons_zero, List.set_cons_succ]
          refine wpAnyH_take (i := 1) (oi := { dst := some 71, op := Op.unOp UnOp.not 4 (Operand.tmp 70), type := 4, pos := "l16_chains.go:109", after := #[{ on := 0, ground := Ground.data }], guard := none }) (v := ?_) rfl (by kernel_rfl) (by kernel_rfl) (by kernel_rfl) (fun _ _ _ h => h) (Or.inl ⟨by rfl, ?hy⟩) hHeld ?_
          case hy => (intro w' hSw; (try dsimp only at hSw); go_simp; try with_reducible rfl)
          simp only [Act.put, List.setIfInBounds_toArray, List.set_cons_zero, List.set_cons_succ]
          refine wpAnyH_take (i := 2) (oi := { dst := some 72, op := Op.move (Operand.tmp 71), type := 4, pos := "l16_chains.go:109", after := #[{ on := 1, ground := Ground.data }, { on := 0, ground := Ground.chain }], guard := none }) (v := ?_) rfl (by kernel_rfl) (by kernel_rfl) (by kernel_rfl) (fun _ _ _ h => h) (Or.inl ⟨by rfl, ?hy⟩) hHeld ?_
          case hy => (intro w' hSw; (try dsimp only at hSw); go_simp; try with_reducible rfl)
          simp only [Act.put, List.setIfInBounds_toArray, List.set_cons_zero, List.set_cons_succ]
          refine wpAnyH_take (i := 5) (oi := { dst := some 75, op := Op.move (Operand.tmp 7), type := 41, pos := "l16_chains.go:109", after := #[{ on := 2, ground := Ground.guard }], guard := some (2, false) }) (v := ?_) rfl (by kernel_rfl) (by kernel_rfl) (by kernel_rfl) (fun _ _ _ h => h) (Or.inl ⟨by rfl, ?hy⟩) hHeld ?_
          case hy => (intro w' hSw; (try dsimp only at hSw); go_simp; try with_reducible rfl)
          simp only [Act.put, List.setIfInBounds_toArray, List.set_cons_zero, List.set_cons_succ]
          refine wpAnyH_take (i := 6) (oi := { dst := some 76, op := Op.convert 41 9 (Operand.tmp 75), type := 9, pos := "l16_chains.go:109", after := #[{ on := 5, ground := Ground.data }, { on := 2, ground := Ground.guard }], guard := some (2, false) }) (v := ?_) rfl (by kernel_rfl) (by kernel_rfl) (by kernel_rfl) (fun _ _ _ h => h) (Or.inl ⟨by rfl, ?hy⟩) hHeld ?_
          case hy => (intro w' hSw; (try dsimp only at hSw); go_simp; try with_reducible rfl)
          simp only [Act.put, List.setIfInBounds_toArray, List.set_cons_zero, List.set_cons_succ]
          refine wpAnyH_ready (rs := [3]) (by kernel_rfl) (by simp) ?_
          refine AllReadyH.cons (o := { dst := some 73, op := Op.call { callee := Callee.value (Operand.func 35), args := #[Operand.tmp 9], argTypes := #[60] }, type := 41, pos := "l16_chains.go:109", after := #[{ on := 2, ground := Ground.chain }, { on := 2, ground := Ground.guard }], guard := some (2, false) }) rfl (fun K hK => ?_) AllReadyH.nil
          go_simp
          go_at_call 35; refine (LB.out _ gb (KB.out.below HC.out hlt2)).mono ?_; rintro e wk ⟨g2, rfl, hrb, hg2, hbk⟩; replace HC := Lib.hid (HC.out.trans (hbk.mono HC.out.size)); (have hcv4 := HV.out wk g2 hrb; clear hrb)
          go_wp2_with fail
          refine hK.out _ _ (K7.out _ (FR.out.trans (HC.out.mono FR.out.size))) (fun hHeld => ?_)
          clear hK K
          try simp only [Act.put, List.setIfInBounds_toArray, List.set_cons_zero, List.set_cons_succ]
          refine wpAnyH_ready (rs := [4]) (by kernel_rfl) (by simp) ?_
          refine AllReadyH.cons (o := { dst := some 74, op := Op.convert 41 9 (Operand.tmp 73), type := 9, pos := "l16_chains.go:109", after := #[{ on := 3, ground := Ground.data }, { on := 2, ground := Ground.guard }], guard := some (2, false) }) rfl (fun K hK => ?_) AllReadyH.nil
          go_simp
          skip
          go_wp2_with fail
          refine hK.out _ _ (K7.out _ (FR.out.trans (HC.out.mono FR.out.size))) (fun hHeld => ?_)
          clear hK K
          try simp only [Act.put, List.setIfInBounds_toArray, List.set_cons_zero, List.set_cons_succ]
          refine wpAnyH_take (i := 7) (oi := { dst := some 77, op := Op.binOp BinOp.neq 9 (Operand.tmp 74) (Operand.tmp 76) 9, type := 4, pos := "l16_chains.go:109", after := #[{ on := 4, ground := Ground.data }, { on := 6, ground := Ground.data }, { on := 2, ground := Ground.guard }], guard := some (2, false) }) (v := ?_) rfl (by kernel_rfl) (by kernel_rfl) (by kernel_rfl) (fun _ _ _ h => h) (Or.inl ⟨by rfl, ?hy⟩) hHeld ?_
          case hy => (intro w' hSw; (try dsimp only at hSw); go_simp; try with_reducible rfl)
          simp only [Act.put, List.setIfInBounds_toArray, List.set_cons_zero, List.set_cons_succ]
          refine wpAnyH_take (i := 8) (oi := { dst := some 78, op := Op.pick (Operand.tmp 72) (Operand.const (Value.bool true)) (Operand.tmp 77), type := 4, pos := "l16_chains.go:109", after := #[{ on := 2, ground := Ground.data }, { on := 7, ground := Ground.data }], guard := none }) (v := ?_) rfl (by kernel_rfl) (by kernel_rfl) (by kernel_rfl) (fun _ _ _ h => h) (Or.inl ⟨by rfl, ?hy⟩) hHeld ?_
          case hy => (intro w' hSw; (try dsimp only at hSw); go_simp; try with_reducible rfl)
          simp only [Act.put, List.setIfInBounds_toArray, List.set_cons_zero, List.set_cons_succ]
          refine wpAnyH_done (by kernel_rfl) ?_ _
          replace HR := Lib.hid (HR.out.below HC.out hlt1)
          replace KB := Lib.hid (KB.out.below HC.out hlt2)
          replace FR := Lib.hid (FR.out.trans (HC.out.mono FR.out.size))
          obtain ⟨a0, z0⟩ := HR.out 0 _ rfl
          obtain ⟨a1, z1⟩ := HR.out 1 _ rfl
          obtain ⟨a2, z2⟩ := HR.out 2 _ rfl
          obtain ⟨a3, z3⟩ := HR.out 3 _ rfl
          obtain ⟨a4, z4⟩ := HR.out 4 _ rfl
          have k0 := KB.out 0 _ rfl
          have k1 := KB.out 1 _ rfl
          have k2 := KB.out 2 _ rfl
          have k3 := KB.out 3 _ rfl
          have k4 := KB.out 4 _ rfl
          go_wp2
          refine bodyPost_ret (v := .tuple #[.agg #[.string (entS l).f0, .int .i64 (entS l).f1, .int .i64 (entS l).f2, .bool (entS l).f3, .bool (entS l).f4], .bool true]) (by simp [results, Tryz.results21, go_sem, a0, a1, a2, a3, a4]) rfl ⟨rfl, ?_⟩
          exact ((((FR.out.setCell (by simp) _).setCell (by simp) _).setCell (by simp) _).setCell (by simp) _).setCell (by simp) _
        · have n8 : ¬ (n : Int) < 8 := by omega
          go_wp2
          refine wp_region_held_drew (S := (fun w' => (convert 41 9 (.slice (some ⟨g, F, none⟩) n C2)).run Tryz.prog w' = .ok (.string ⟨(upZ l).toArray⟩) w' ∧ w'.cell? ⟨g, F + 8, none⟩ = some (.int .u8 (b8 : Int)) ∧ w'.cell? ⟨g, F + 9, none⟩ = some (.int .u8 (b9 : Int)) ∧ w'.cell? ⟨g, F + 10, none⟩ = some (.int .u8 (b10 : Int)) ∧ w'.cell? ⟨g, F + 11, none⟩ = some (.int .u8 (b11 : Int)))) (by kernel_rfl) (KS.out _ FR.out.drew) (fun hHeld => ?_)
          refine wpAnyH_take (i := 0) (oi := { dst := some 43, op := Op.move (Operand.tmp 7), type := 41, pos := "l16_chains.go:108", after := #[], guard := none }) (v := ?_) rfl (by kernel_rfl) (by kernel_rfl) (by kernel_rfl) (fun _ _ _ h => h) (Or.inl ⟨by rfl, ?hy⟩) hHeld ?_
          case hy => (intro w' hSw; (try dsimp only at hSw); go_simp; try with_reducible rfl)
          simp only [Act.put, List.setIfInBounds_toArray, List.set_cons_zero, List.set_cons_succ]
          refine wpAnyH_take (i := 1) (oi := { dst := some 44, op := Op.move (Operand.tmp 8), type := 3, pos := "l16_chains.go:108", after := #[], guard := none }) (v := ?_) rfl (by kernel_rfl) (by kernel_rfl) (by kernel_rfl) (fun _ _ _ h => h) (Or.inl ⟨by rfl, ?hy⟩) hHeld ?_
          case hy => (intro w' hSw; (try dsimp only at hSw); go_simp; try with_reducible rfl)
          simp only [Act.put, List.setIfInBounds_toArray, List.set_cons_zero, List.set_cons_succ]
          refine wpAnyH_take (i := 2) (oi := { dst := some 45, op := Op.slice 41 (Operand.tmp 43) none (some (Operand.tmp 44)) none, type := 41, pos := "l16_chains.go:108", after := #[{ on := 0, ground := Ground.data }, { on := 1, ground := Ground.data }], guard := none }) (v := ?_) rfl (by kernel_rfl) (by kernel_rfl) (by kernel_rfl) (fun _ _ _ h => h) (Or.inl ⟨by rfl, ?hy⟩) hHeld ?_
          case hy => (intro w' hSw; (try dsimp only at hSw); go_simp; try with_reducible rfl)
          simp only [Act.put, List.setIfInBounds_toArray, List.set_cons_zero, List.set_cons_succ]
          refine wpAnyH_take (i := 3) (oi := { dst := some 46, op := Op.convert 41 9 (Operand.tmp 45), type := 9, pos := "l16_chains.go:108", after := #[{ on := 2, ground := Ground.data }], guard := none }) (v := ?_) rfl (by kernel_rfl) (by kernel_rfl) (by kernel_rfl) (fun _ _ _ h => h) (Or.inl ⟨by rfl, ?hy⟩) hHeld ?_
          case hy => (intro w' hSw; (try dsimp only at hSw); go_simp; try with_reducible rfl)
          simp only [Act.put, List.setIfInBounds_toArray, List.set_cons_zero, List.set_cons_succ]
          refine wpAnyH_take (i := 4) (oi := { dst := some 47, op := Op.move (Operand.tmp 7), type := 41, pos := "l16_chains.go:108", after := #[], guard := none }) (v := ?_) rfl (by kernel_rfl) (by kernel_rfl) (by kernel_rfl) (fun _ _ _ h => h) (Or.inl ⟨by rfl, ?hy⟩) hHeld ?_
          case hy => (intro w' hSw; (try dsimp only at hSw); go_simp; try with_reducible rfl)
          simp only [Act.put, List.setIfInBounds_toArray, List.set_cons_zero, List.set_cons_succ]
          refine wpAnyH_take (i := 5) (oi := { dst := some 48, op := Op.indexAddr 41 (Operand.tmp 47) (Operand.const (Value.int IntKind.i64 8)), type := 0, pos := "l16_chains.go:108", after := #[{ on := 4, ground := Ground.data }], guard := none }) (v := ?_) rfl (by kernel_rfl) (by kernel_rfl) (by kernel_rfl) (fun _ _ _ h => h) (Or.inl ⟨by rfl, ?hy⟩) hHeld ?_
          case hy => (intro w' hSw; (try dsimp only at hSw); go_simp; try with_reducible rfl)
          simp only [Act.put, List.setIfInBounds_toArray, List.set_cons_zero, List.set_cons_succ]
          refine wpAnyH_take (i := 6) (oi := { dst := some 49, op := Op.load 5 (Operand.tmp 48), type := 5, pos := "l16_chains.go:108", after := #[{ on := 5, ground := Ground.data }], guard := none }) (v := ?_) rfl (by kernel_rfl) (by kernel_rfl) (by kernel_rfl) (fun _ _ _ h => h) (Or.inl ⟨by rfl, ?hy⟩) hHeld ?_
          case hy => (intro w' hSw; (try dsimp only at hSw); go_simp; try with_reducible rfl)
          simp only [Act.put, List.setIfInBounds_toArray, List.set_cons_zero, List.set_cons_succ]
          refine wpAnyH_take (i := 7) (oi := { dst := some 50, op := Op.convert 5 2 (Operand.tmp 49), type := 2, pos := "l16_chains.go:108", after := #[{ on := 6, ground := Ground.data }], guard := none }) (v := ?_) rfl (by kernel_rfl) (by kernel_rfl) (by kernel_rfl) (fun _ _ _ h => h) (Or.inl ⟨by rfl, ?hy⟩) hHeld ?_
          case hy => (intro w' hSw; (try dsimp only at hSw); go_simp; try with_reducible rfl)
          simp only [Act.put, List.setIfInBounds_toArray, List.set_cons_zero, List.set_cons_succ]
          refine wpAnyH_take (i := 8) (oi := { dst := some 51, op := Op.move (Operand.tmp 7), type := 41, pos := "l16_chains.go:108", after := #[], guard := none }) (v := ?_) rfl (by kernel_rfl) (by kernel_rfl) (by kernel_rfl) (fun _ _ _ h => h) (Or.inl ⟨by rfl, ?hy⟩) hHeld ?_
          case hy => (intro w' hSw; (try dsimp only at hSw); go_simp; try with_reducible rfl)
          simp only [Act.put, List.setIfInBounds_toArray, List.set_cons_zero, List.set_cons_succ]
          refine wpAnyH_take (i := 9) (oi := { dst := some 52, op := Op.indexAddr 41 (Operand.tmp 51) (Operand.const (Value.int IntKind.i64 9)), type := 0, pos := "l16_chains.go:108", after := #[{ on := 8, ground := Ground.data }], guard := none }) (v := ?_) rfl (by kernel_rfl) (by kernel_rfl) (by kernel_rfl) (fun _ _ _ h => h) (Or.inl ⟨by rfl, ?hy⟩) hHeld ?_
          case hy => (intro w' hSw; (try dsimp only at hSw); go_simp; try with_reducible rfl)
          simp only [Act.put, List.setIfInBounds_toArray, List.set_cons_zero, List.set_cons_succ]
          refine wpAnyH_take (i := 10) (oi := { dst := some 53, op := Op.load 5 (Operand.tmp 52), type := 5, pos := "l16_chains.go:108", after := #[{ on := 9, ground := Ground.data }], guard := none }) (v := ?_) rfl (by kernel_rfl) (by kernel_rfl) (by kernel_rfl) (fun _ _ _ h => h) (Or.inl ⟨by rfl, ?hy⟩) hHeld ?_
          case hy => (intro w' hSw; (try dsimp only at hSw); go_simp; try with_reducible rfl)
          simp only [Act.put, List.setIfInBounds_toArray, List.set_cons_zero, List.set_cons_succ]
          refine wpAnyH_take (i := 11) (oi := { dst := some 54, op := Op.convert 5 2 (Operand.tmp 53), type := 2, pos := "l16_chains.go:108", after := #[{ on := 10, ground := Ground.data }], guard := none }) (v := ?_) rfl (by kernel_rfl) (by kernel_rfl) (by kernel_rfl) (fun _ _ _ h => h) (Or.inl ⟨by rfl, ?hy⟩) hHeld ?_
          case hy => (intro w' hSw; (try dsimp only at hSw); go_simp; try with_reducible rfl)
          simp only [Act.put, List.setIfInBounds_toArray, List.set_cons_zero, List.set_cons_succ]
          refine wpAnyH_take (i := 12) (oi := { dst := some 55, op := Op.binOp BinOp.mul 2 (Operand.const (Value.int IntKind.i64 256)) (Operand.tmp 54) 2, type := 2, pos := "l16_chains.go:108", after := #[{ on := 11, ground := Ground.data }], guard := none }) (v := ?_) rfl (by kernel_rfl) (by kernel_rfl) (by kernel_rfl) (fun _ _ _ h => h) (Or.inl ⟨by rfl, ?hy⟩) hHeld ?_
          case hy => (intro w' hSw; (try dsimp only at hSw); go_simp; try with_reducible rfl)
          simp only [Act.put, List.setIfInBounds_toArray, List.set_cons_zero, List.set_cons_succ]
          refine wpAnyH_take (i := 13) (oi := { dst := some 56, op := Op.move (Operand.tmp 7), type := 41, pos := "l16_chains.go:108", after := #[], guard := none }) (v := ?_) rfl (by kernel_rfl) (by kernel_rfl) (by kernel_rfl) (fun _ _ _ h => h) (Or.inl ⟨by rfl, ?hy⟩) hHeld ?_
          case hy => (intro w' hSw; (try dsimp only at hSw); go_simp; try with_reducible rfl)
          simp only [Act.put, List.setIfInBounds_toArray, List.set_cons_zero, List.set_cons_succ]
          refine wpAnyH_take (i := 14) (oi := { dst := some 57, op := Op.indexAddr 41 (Operand.tmp 56) (Operand.const (Value.int IntKind.i64 10)), type := 0, pos := "l16_chains.go:108", after := #[{ on := 13, ground := Ground.data }], guard := none }) (v := ?_) rfl (by kernel_rfl) (by kernel_rfl) (by kernel_rfl) (fun _ _ _ h => h) (Or.inl ⟨by rfl, ?hy⟩) hHeld ?_
          case hy => (intro w' hSw; (try dsimp only at hSw); go_simp; try with_reducible rfl)
          simp only [Act.put, List.setIfInBounds_toArray, List.set_cons_zero, List.set_cons_succ]
          refine wpAnyH_take (i := 15) (oi := { dst := some 58, op := Op.load 5 (Operand.tmp 57), type := 5, pos := "l16_chains.go:108", after := #[{ on := 14, ground := Ground.data }], guard := none }) (v := ?_) rfl (by kernel_rfl) (by kernel_rfl) (by kernel_rfl) (fun _ _ _ h => h) (Or.inl ⟨by rfl, ?hy⟩) hHeld ?_
          case hy => (intro w' hSw; (try dsimp only at hSw); go_simp; try with_reducible rfl)
          simp only [Act.put, List.setIfInBounds_toArray, List.set_cons_zero, List.set_cons_succ]
          refine wpAnyH_take (i := 16) (oi := { dst := some 59, op := Op.convert 5 2 (Operand.tmp 58), type := 2, pos := "l16_chains.go:108", after := #[{ on := 15, ground := Ground.data }], guard := none }) (v := ?_) rfl (by kernel_rfl) (by kernel_rfl) (by kernel_rfl) (fun _ _ _ h => h) (Or.inl ⟨by rfl, ?hy⟩) hHeld ?_
          case hy => (intro w' hSw; (try dsimp only at hSw); go_simp; try with_reducible rfl)
          simp only [Act.put, List.setIfInBounds_toArray, List.set_cons_zero, List.set_cons_succ]
          refine wpAnyH_take (i := 17) (oi := { dst := some 60, op := Op.binOp BinOp.add 2 (Operand.tmp 55) (Operand.tmp 59) 2, type := 2, pos := "l16_chains.go:108", after := #[{ on := 12, ground := Ground.data }, { on := 16, ground := Ground.data }], guard := none }) (v := ?_) rfl (by kernel_rfl) (by kernel_rfl) (by kernel_rfl) (fun _ _ _ h => h) (Or.inl ⟨by rfl, ?hy⟩) hHeld ?_
          case hy => (intro w' hSw; (try dsimp only at hSw); go_simp; try with_reducible rfl)
          simp only [Act.put, List.setIfInBounds_toArray, List.set_cons_zero, List.set_cons_succ]
          refine wpAnyH_take (i := 18) (oi := { dst := some 61, op := Op.move (Operand.tmp 7), type := 41, pos := "l16_chains.go:108", after := #[], guard := none }) (v := ?_) rfl (by kernel_rfl) (by kernel_rfl) (by kernel_rfl) (fun _ _ _ h => h) (Or.inl ⟨by rfl, ?hy⟩) hHeld ?_
          case hy => (intro w' hSw; (try dsimp only at hSw); go_simp; try with_reducible rfl)
          simp only [Act.put, List.setIfInBounds_toArray, List.set_cons_zero, List.set_cons_succ]
          refine wpAnyH_take (i := 19) (oi := { dst := some 62, op := Op.indexAddr 41 (Operand.tmp 61) (Operand.const (Value.int IntKind.i64 11)), type := 0, pos := "l16_chains.go:108", after := #[{ on := 18, ground := Ground.data }], guard := none }) (v := ?_) rfl (by kernel_rfl) (by kernel_rfl) (by kernel_rfl) (fun _ _ _ h => h) (Or.inl ⟨by rfl, ?hy⟩) hHeld ?_
          case hy => (intro w' hSw; (try dsimp only at hSw); go_simp; try with_reducible rfl)
          simp only [Act.put, List.setIfInBounds_toArray, List.set_cons_zero, List.set_cons_succ]
          refine wpAnyH_take (i := 20) (oi := { dst := some 63, op := Op.load 5 (Operand.tmp 62), type := 5, pos := "l16_chains.go:108", after := #[{ on := 19, ground := Ground.data }], guard := none }) (v := ?_) rfl (by kernel_rfl) (by kernel_rfl) (by kernel_rfl) (fun _ _ _ h => h) (Or.inl ⟨by rfl, ?hy⟩) hHeld ?_
          case hy => (intro w' hSw; (try dsimp only at hSw); go_simp; try with_reducible rfl)
          simp only [Act.put, List.setIfInBounds_toArray, List.set_cons_zero, List.set_cons_succ]
          refine wpAnyH_take (i := 21) (oi := { dst := some 64, op := Op.binOp BinOp.eql 5 (Operand.tmp 63) (Operand.const (Value.int IntKind.u8 1)) 5, type := 4, pos := "l16_chains.go:108", after := #[{ on := 20, ground := Ground.data }], guard := none }) (v := ?_) rfl (by kernel_rfl) (by kernel_rfl) (by kernel_rfl) (fun _ _ _ h => h) (Or.inl ⟨by rfl, ?hy⟩) hHeld ?_
          case hy => (intro w' hSw; (try dsimp only at hSw); go_simp; try with_reducible rfl)
          simp only [Act.put, List.setIfInBounds_toArray, List.set_cons_zero, List.set_cons_succ]
          refine wpAnyH_take (i := 22) (oi := { dst := some 65, op := Op.move (Operand.tmp 7), type := 41, pos := "l16_chains.go:108", after := #[], guard := none }) (v := ?_) rfl (by kernel_rfl) (by kernel_rfl) (by kernel_rfl) (fun _ _ _ h => h) (Or.inl ⟨by rfl, ?hy⟩) hHeld ?_
          case hy => (intro w' hSw; (try dsimp only at hSw); go_simp; try with_reducible rfl)
          simp only [Act.put, List.setIfInBounds_toArray, List.set_cons_zero, List.set_cons_succ]
          refine wpAnyH_take (i := 23) (oi := { dst := some 66, op := Op.indexAddr 41 (Operand.tmp 65) (Operand.const (Value.int IntKind.i64 11)), type := 0, pos := "l16_chains.go:108", after := #[{ on := 22, ground := Ground.data }], guard := none }) (v := ?_) rfl (by kernel_rfl) (by kernel_rfl) (by kernel_rfl) (fun _ _ _ h => h) (Or.inl ⟨by rfl, ?hy⟩) hHeld ?_
          case hy => (intro w' hSw; (try dsimp only at hSw); go_simp; try with_reducible rfl)
          simp only [Act.put, List.setIfInBounds_toArray, List.set_cons_zero, List.set_cons_succ]
          refine wpAnyH_take (i := 24) (oi := { dst := some 67, op := Op.load 5 (Operand.tmp 66), type := 5, pos := "l16_chains.go:108", after := #[{ on := 23, ground := Ground.data }], guard := none }) (v := ?_) rfl (by kernel_rfl) (by kernel_rfl) (by kernel_rfl) (fun _ _ _ h => h) (Or.inl ⟨by rfl, ?hy⟩) hHeld ?_
          case hy => (intro w' hSw; (try dsimp only at hSw); go_simp; try with_reducible rfl)
          simp only [Act.put, List.setIfInBounds_toArray, List.set_cons_zero, List.set_cons_succ]
          refine wpAnyH_take (i := 25) (oi := { dst := some 68, op := Op.binOp BinOp.eql 5 (Operand.tmp 67) (Operand.const (Value.int IntKind.u8 2)) 5, type := 4, pos := "l16_chains.go:108", after := #[{ on := 24, ground := Ground.data }], guard := none }) (v := ?_) rfl (by kernel_rfl) (by kernel_rfl) (by kernel_rfl) (fun _ _ _ h => h) (Or.inl ⟨by rfl, ?hy⟩) hHeld ?_
          case hy => (intro w' hSw; (try dsimp only at hSw); go_simp; try with_reducible rfl)
          simp only [Act.put, List.setIfInBounds_toArray, List.set_cons_zero, List.set_cons_succ]
          refine wpAnyH_take (i := 26) (oi := { dst := some 69, op := Op.build 45 #[(0, Operand.tmp 46), (1, Operand.tmp 50), (2, Operand.tmp 60), (3, Operand.tmp 64), (4, Operand.tmp 68)], type := 45, pos := "l16_chains.go:108", after := #[{ on := 3, ground := Ground.data }, { on := 7, ground := Ground.data }, { on := 17, ground := Ground.data }, { on := 21, ground := Ground.data }, { on := 25, ground := Ground.data }], guard := none }) (v := ?_) rfl (by kernel_rfl) (by kernel_rfl) (by kernel_rfl) (fun _ _ _ h => h) (Or.inl ⟨by rfl, ?hy⟩) hHeld ?_
          case hy => (intro w' hSw; (try dsimp only at hSw); go_simp; try with_reducible rfl)
          simp only [Act.put, List.setIfInBounds_toArray, List.set_cons_zero, List.set_cons_succ]
          refine wpAnyH_ready (rs := [27]) (by kernel_rfl) (by simp) ?_
          refine AllReadyH.cons (o := { dst := some 9, op := Op.alloc 45, type := 0, pos := "l16_chains.go:108", after := #[], guard := none }) rfl (fun K hK => ?_) AllReadyH.nil
          go_simp
          refine hK.out _ _ (KS.out _ (by first | exact FR.out.drew | exact (FR.out.alloc FR.out.size _).drew)) (fun hHeld => ?_)
          clear hK K
          try simp only [Act.put, List.setIfInBounds_toArray, List.set_cons_zero, List.set_cons_succ]
          refine wpAnyH_ready (rs := [28]) (by kernel_rfl) (by simp) ?_
          refine AllReadyH.cons (o := { dst := none, op := Op.store 45 (Operand.tmp 9) (Operand.tmp 69), type := 0, pos := "l16_chains.go:108", after := #[{ on := 27, ground := Ground.data }, { on := 26, ground := Ground.data }, { on := 0, ground := Ground.phase }, { on := 1, ground := Ground.phase }, { on := 2, ground := Ground.phase }, { on := 3, ground := Ground.phase }, { on := 4, ground := Ground.phase }, { on := 5, ground := Ground.phase }, { on := 6, ground := Ground.phase }, { on := 7, ground := Ground.phase }, { on := 8, ground := Ground.phase }, { on := 9, ground := Ground.phase }, { on := 10, ground := Ground.phase }, { on := 11, ground := Ground.phase }, { on := 12, ground := Ground.phase }, { on := 13, ground := Ground.phase }, { on := 14, ground := Ground.phase }, { on := 15, ground := Ground.phase }, { on := 16, ground := Ground.phase }, { on := 17, ground := Ground.phase }, { on := 18, ground := Ground.phase }, { on := 19, ground := Ground.phase }, { on := 20, ground := Ground.phase }, { on := 21, ground := Ground.phase }, { on := 22, ground := Ground.phase }, { on := 23, ground := Ground.phase }, { on := 24, ground := Ground.phase }, { on := 25, ground := Ground.phase }, { on := 26, ground := Ground.phase }, { on := 27, ground := Ground.phase }], guard := none }) rfl (fun K hK => ?_) AllReadyH.nil
          go_simp
          refine hK.out _ _ (KS.out _ (by first | exact FR.out.drew | exact (FR.out.alloc FR.out.size _).drew)) (fun hHeld => ?_)
          clear hK K
          try simp only [Act.put, List.setIfInBounds_toArray, List.set_cons_zero, List.set_cons_succ]
          refine wpAnyH_done (by kernel_rfl) ?_ _
          obtain ⟨i0, i1, i2, i3, i4⟩ := HE.out
          rw [i0, i1, i2, i3, i4]
          clear i0 i1 i2 i3 i4
          have FW := Lib.hid (show Below wr.heap.size wr (wr.alloc (.cells #[.string (entS l).f0, .int .i64 (entS l).f1, .int .i64 (entS l).f2, .bool (entS l).f3, .bool (entS l).f4] 45)).drew from ((Below.refl _ _).alloc (Nat.le_refl _) _).drew)
          have KB := Lib.hid (show BoxAt (wr.alloc (.cells #[.string (entS l).f0, .int .i64 (entS l).f1, .int .i64 (entS l).f2, .bool (entS l).f3, .bool (entS l).f4] 45)).drew wr.heap.size #[.string (entS l).f0, .int .i64 (entS l).f1, .int .i64 (entS l).f2, .bool (entS l).f3, .bool (entS l).f4] from BoxAt.new wr #[.string (entS l).f0, .int .i64 (entS l).f1, .int .i64 (entS l).f2, .bool (entS l).f3, .bool (entS l).f4] 45 wr.heap.size rfl)
          replace HR := Lib.hid (HR.out.below FW.out hlt)
          replace FR := Lib.hid (FR.out.trans (FW.out.mono FR.out.size))
          have hlt1 : w.heap.size < (wr.alloc (.cells #[.string (entS l).f0, .int .i64 (entS l).f1, .int .i64 (entS l).f2, .bool (entS l).f3, .bool (entS l).f4] 45)).drew.heap.size := by simp; omega
          have hlt2 : wr.heap.size < (wr.alloc (.cells #[.string (entS l).f0, .int .i64 (entS l).f1, .int .i64 (entS l).f2, .bool (entS l).f3, .bool (entS l).f4] 45)).drew.heap.size := by simp
          clear FW KS HE HU hlt
          generalize (wr.alloc (.cells #[.string (entS l).f0, .int .i64 (entS l).f1, .int .i64 (entS l).f2, .bool (entS l).f3, .bool (entS l).f4] 45)).drew = W at KB HR FR hlt1 hlt2 ⊢
          generalize wr.heap.size = gb at KB hlt2 ⊢
          have HC := Lib.hid (show Below W.heap.size W W.drew from (Below.refl _ _).drew)
          go_upto_region 7 with (fail)
          refine wp_region_held_drew (S := (fun w' => (convert 41 9 (.slice (some ⟨g, F, none⟩) 12 C2)).run Tryz.prog w' = .ok (.string ⟨l.toArray⟩) w')) (by kernel_rfl) (K7.out _ (FR.out.trans (HC.out.mono FR.out.size))) (fun hHeld => ?_)
          refine wpAnyH_ready (rs := [0]) (by kernel_rfl) (by simp) ?_
          refine AllReadyH.cons (o := { dst := some 70, op := Op.call { callee := Callee.value (Operand.func 34), args := #[Operand.tmp 9], argTypes := #[60] }, type := 4, pos := "l16_chains.go:109", after := #[], guard := none }) rfl (fun K hK => ?_) AllReadyH.nil
          go_simp
          go_at_call 34; refine (LE.out _ gb (KB.out.below HC.out hlt2)).mono ?_; rintro e wk1 ⟨rfl, hb1⟩; replace HC := Lib.hid (HC.out.trans (hb1.mono HC.out.size))
          go_wp2_with fail
          refine hK.out _ _ (K7.out _ (FR.out.trans (HC.out.mono FR.out.size))) (fun hHeld => ?_)
          clear hK K
          try simp only [Act.put, List.setIfInBounds_toArray, List.set_cons_zero, List.set_cons_succ]
          refine wpAnyH_take (i := 1) (oi := { dst := some 71, op := Op.unOp UnOp.not 4 (Operand.tmp 70), type := 4, pos := "l16_chains.go:109", after := #[{ on := 0, ground := Ground.data }], guard := none }) (v := ?_) rfl (by kernel_rfl) (by kernel_rfl) (by kernel_rfl) (fun _ _ _ h => h) (Or.inl ⟨by rfl, ?hy⟩) hHeld ?_
          case hy => (intro w' hSw; (try dsimp only at hSw); go_simp; try with_reducible rfl)
          simp only [Act.put, List.setIfInBounds_toArray, List.set_cons_zero, List.set_cons_succ]
          refine wpAnyH_take (i := 2) (oi := { dst := some 72, op := Op.move (Operand.tmp 71), type := 4, pos := "l16_chains.go:109", after := #[{ on := 1, ground := Ground.data }, { on := 0, ground := Ground.chain }], guard := none }) (v := ?_) rfl (by kernel_rfl) (by kernel_rfl) (by kernel_rfl) (fun _ _ _ h => h) (Or.inl ⟨by rfl, ?hy⟩) hHeld ?_
          case hy => (intro w' hSw; (try dsimp only at hSw); go_simp; try with_reducible rfl)
          simp only [Act.put, List.setIfInBounds_toArray, List.set_cons_zero, List.set_cons_succ]
          refine wpAnyH_take (i := 5) (oi := { dst := some 75, op := Op.move (Operand.tmp 7), type := 41, pos := "l16_chains.go:109", after := #[{ on := 2, ground := Ground.guard }], guard := some (2, false) }) (v := ?_) rfl (by kernel_rfl) (by kernel_rfl) (by kernel_rfl) (fun _ _ _ h => h) (Or.inl ⟨by rfl, ?hy⟩) hHeld ?_
          case hy => (intro w' hSw; (try dsimp only at hSw); go_simp; try with_reducible rfl)
          simp only [Act.put, List.setIfInBounds_toArray, List.set_cons_zero, List.set_cons_succ]
          refine wpAnyH_take (i := 6) (oi := { dst := some 76, op := Op.convert 41 9 (Operand.tmp 75), type := 9, pos := "l16_chains.go:109", after := #[{ on := 5, ground := Ground.data }, { on := 2, ground := Ground.guard }], guard := some (2, false) }) (v := ?_) rfl (by kernel_rfl) (by kernel_rfl) (by kernel_rfl) (fun _ _ _ h => h) (Or.inl ⟨by rfl, ?hy⟩) hHeld ?_
          case hy => (intro w' hSw; (try dsimp only at hSw); go_simp; try with_reducible rfl)
          simp only [Act.put, List.setIfInBounds_toArray, List.set_cons_zero, List.set_cons_succ]
          refine wpAnyH_ready (rs := [3]) (by kernel_rfl) (by simp) ?_
          refine AllReadyH.cons (o := { dst := some 73, op := Op.call { callee := Callee.value (Operand.func 35), args := #[Operand.tmp 9], argTypes := #[60] }, type := 41, pos := "l16_chains.go:109", after := #[{ on := 2, ground := Ground.chain }, { on := 2, ground := Ground.guard }], guard := some (2, false) }) rfl (fun K hK => ?_) AllReadyH.nil
          go_simp
          go_at_call 35; refine (LB.out _ gb (KB.out.below HC.out hlt2)).mono ?_; rintro e wk ⟨g2, rfl, hrb, hg2, hbk⟩; replace HC := Lib.hid (HC.out.trans (hbk.mono HC.out.size)); (have hcv4 := HV.out wk g2 hrb; clear hrb)
          go_wp2_with fail
          refine hK.out _ _ (K7.out _ (FR.out.trans (HC.out.mono FR.out.size))) (fun hHeld => ?_)
          clear hK K
          try simp only [Act.put, List.setIfInBounds_toArray, List.set_cons_zero, List.set_cons_succ]
          refine wpAnyH_ready (rs := [4]) (by kernel_rfl) (by simp) ?_
          refine AllReadyH.cons (o := { dst := some 74, op := Op.convert 41 9 (Operand.tmp 73), type := 9, pos := "l16_chains.go:109", after := #[{ on := 3, ground := Ground.data }, { on := 2, ground := Ground.guard }], guard := some (2, false) }) rfl (fun K hK => ?_) AllReadyH.nil
          go_simp
          skip
          go_wp2_with fail
          refine hK.out _ _ (K7.out _ (FR.out.trans (HC.out.mono FR.out.size))) (fun hHeld => ?_)
          clear hK K
          try simp only [Act.put, List.setIfInBounds_toArray, List.set_cons_zero, List.set_cons_succ]
          refine wpAnyH_take (i := 7) (oi := { dst := some 77, op := Op.binOp BinOp.neq 9 (Operand.tmp 74) (Operand.tmp 76) 9, type := 4, pos := "l16_chains.go:109", after := #[{ on := 4, ground := Ground.data }, { on := 6, ground := Ground.data }, { on := 2, ground := Ground.guard }], guard := some (2, false) }) (v := ?_) rfl (by kernel_rfl) (by kernel_rfl) (by kernel_rfl) (fun _ _ _ h => h) (Or.inl ⟨by rfl, ?hy⟩) hHeld ?_
          case hy => (intro w' hSw; (try dsimp only at hSw); go_simp; try with_reducible rfl)
          simp only [Act.put, List.setIfInBounds_toArray, List.set_cons_zero, List.set_cons_succ]
          refine wpAnyH_take (i := 8) (oi := { dst := some 78, op := Op.pick (Operand.tmp 72) (Operand.const (Value.bool true)) (Operand.tmp 77), type := 4, pos := "l16_chains.go:109", after := #[{ on := 2, ground := Ground.data }, { on := 7, ground := Ground.data }], guard := none }) (v := ?_) rfl (by kernel_rfl) (by kernel_rfl) (by kernel_rfl) (fun _ _ _ h => h) (Or.inl ⟨by rfl, ?hy⟩) hHeld ?_
          case hy => (intro w' hSw; (try dsimp only at hSw); go_simp; try with_reducible rfl)
          simp only [Act.put, List.setIfInBounds_toArray, List.set_cons_zero, List.set_cons_succ]
          refine wpAnyH_done (by kernel_rfl) ?_ _
          replace HR := Lib.hid (HR.out.below HC.out hlt1)
          replace KB := Lib.hid (KB.out.below HC.out hlt2)
          replace FR := Lib.hid (FR.out.trans (HC.out.mono FR.out.size))
          obtain ⟨a0, z0⟩ := HR.out 0 _ rfl
          obtain ⟨a1, z1⟩ := HR.out 1 _ rfl
          obtain ⟨a2, z2⟩ := HR.out 2 _ rfl
          obtain ⟨a3, z3⟩ := HR.out 3 _ rfl
          obtain ⟨a4, z4⟩ := HR.out 4 _ rfl
          have k0 := KB.out 0 _ rfl
          have k1 := KB.out 1 _ rfl
          have k2 := KB.out 2 _ rfl
          have k3 := KB.out 3 _ rfl
          have k4 := KB.out 4 _ rfl
          go_wp2
          refine bodyPost_ret (v := .tuple #[.agg #[.string (entS l).f0, .int .i64 (entS l).f1, .int .i64 (entS l).f2, .bool (entS l).f3, .bool (entS l).f4], .bool true]) (by simp [results, Tryz.results21, go_sem, a0, a1, a2, a3, a4]) rfl ⟨rfl, ?_⟩
          exact ((((FR.out.setCell (by simp) _).setCell (by simp) _).setCell (by simp) _).setCell (by simp) _).setCell (by simp) _
end Go.Proofs.YtpdodpnhohmjaaaGreatDoor
