/- impl.groupValues, impl.GcrValue, spec.GcrValue -/
import Derived.Test.YtffefhgemmjkoaaDoorGcrTab
import Derived.Test.YtffefhgemmjkoaaDoorGcrDist
import Derived.Laws.Rows
import Derived.Laws.Tables
import Derived.Great.BuildSlice
namespace Go.Proofs.YtffefhgemmjkoaaDoor
open Go.RowKit
set_option maxRecDepth 20000
set_option linter.unusedVariables false
/-- The number of a group, when k groups of the table are looked at; -1: none. -/
def valF : Nat → Nat → Int
  | 0, _ => -1
  | k + 1, j => if gcrN k = j then (k : Int) else valF k j
/-- The numbers of all groups. -/
def valsV : Array Value := ((List.range 32).map fun j => Value.int .i64 (valF 16 j)).toArray
theorem valsV_at (j : Nat) (h : j < 32) : valsV[j]? = some (.int .i64 (valF 16 j)) := by
  simp [valsV, h]
theorem vals_one : valsV.all (·.oneCell') = true := by kernel_rfl
theorem vals_size : valsV.size = 32 := rfl
def valN (x : Nat) : Int := valF 16 x
theorem valN_bd : ∀ x, x < 32 → -1 ≤ valN x ∧ valN x < 16 := by decide +kernel
/-- A row of 32 numbers. -/
def Row32 (C : Array Value) (f : Nat → Int) : Prop := C.size = 32 ∧ ∀ j, j < 32 → C[j]? = some (.int .i64 (f j))
theorem Row32.set {C : Array Value} {f : Nat → Int} (h : Row32 C f) (k : Nat) (x : Int) (hk : k < 32) : Row32 (C.setIfInBounds k (.int .i64 x)) (fun j => if k = j then x else f j) := by
  refine ⟨by simpa using h.1, ?_⟩
  intro j hj
  rw [Array.getElem?_setIfInBounds]
  by_cases e : k = j
  · subst e
    rw [if_pos rfl, if_pos (by rw [h.1]; exact hk)]
    simp
  · rw [if_neg e]
    simp only [if_neg e]
    exact h.2 j hj
theorem Row32.eq {C : Array Value} {f : Nat → Int} (h : Row32 C f) : C = ((List.range 32).map fun j => Value.int .i64 (f j)).toArray := by
  apply Array.ext_getElem?
  intro j
  by_cases hj : j < 32
  · rw [h.2 j hj]; simp [hj]
  · rw [Array.getElem?_eq_none (by rw [h.1]; omega), Array.getElem?_eq_none (by simp; omega)]
theorem run_index_arr {P : Program} (t e : TypeId) (n : Nat) (cs : Array Value) (k kk : IntKind) (i : Nat) (w : World) (v : Value) (inf : TypeInfo) (h : P.underlying t = some (.array n e)) (hi : i < n)
    (he : P.underlying e = some (.int kk)) (hinf : P.info? e = some inf) (hs : inf.size = 1) (hv : cs[i]? = some v) :
    (Instr.index t (.agg cs) (.int k (i : Int))).run P w = .ok v w := by
  have h1 : (0 : Int) ≤ (i : Int) ∧ (i : Int) < (n : Int) := by omega
  have hagg : (isAgg e).run P w = .ok false w := by
    unfold isAgg
    rw [Sem.run_bind, run_underlying he w]
    simp
  simp [Instr.index, run_underlying h, asIntOf, h1, go_sem, part, sizeOf, typeInfo, hinf, hs, hagg, hv, Sem.run_bind]
  intro h; omega
theorem i64inf : (Tryd.prog.info? 2).map (fun i => (i.zero, i.size, i.bytes)) = some (some (.int .i64 0), 1, 8) := by kernel_rfl
theorem u8inf : (Tryd.prog.info? 5).map (fun i => (i.zero, i.size, i.bytes)) = some (some (.int .u8 0), 1, 1) := by kernel_rfl
theorem index_vals (x : Nat) (hx : x < 32) (w : World) : (Instr.index 71 (.agg valsV) (.int .u8 (x : Int))).run Tryd.prog w = .ok (.int .i64 (valN x)) w := by
  obtain ⟨inf, hi, _, hs, _⟩ := info_parts i64inf
  exact run_index_arr _ 2 32 _ _ .i64 x w _ inf Tryd.underlying71 hx Tryd.underlying2 hi hs (valsV_at x hx)
theorem index_codes (k : Nat) (hk : k < 16) (w : World) : (Instr.index 70 (.agg codeRow) (.int .i64 (k : Int))).run Tryd.prog w = .ok (.int .u8 (gcrN k : Int)) w := by
  obtain ⟨inf, hi, _, hs, _⟩ := info_parts u8inf
  exact run_index_arr _ 5 16 _ _ .u8 k w _ inf Tryd.underlying70 hk Tryd.underlying5 hi hs (codeRow_at k hk)
def z32 : Array Value := #[.int .i64 0, .int .i64 0, .int .i64 0, .int .i64 0, .int .i64 0, .int .i64 0, .int .i64 0, .int .i64 0, .int .i64 0, .int .i64 0, .int .i64 0, .int .i64 0, .int .i64 0, .int .i64 0, .int .i64 0, .int .i64 0, .int .i64 0, .int .i64 0, .int .i64 0, .int .i64 0, .int .i64 0, .int .i64 0, .int .i64 0, .int .i64 0, .int .i64 0, .int .i64 0, .int .i64 0, .int .i64 0, .int .i64 0, .int .i64 0, .int .i64 0, .int .i64 0]
theorem zero32 : z32 = Array.replicate 32 (.int .i64 0) := rfl
set_option maxHeartbeats 4000000 in
theorem groupValues_any (w : World) (hw : 0 < w.heap.size) (ht : GrpTab w) :
    Calls Tryd.prog 57 #[] w fun e w' => e = .returned (.agg valsV) ∧ Below w.heap.size w w' := by
  have HT := Lib.hid ht; clear ht
  go_enter Tryd.func57, Tryd.ntmps57
  go_wp2
  have hB0 : Below w.heap.size w ((w.alloc (.cells z32 71)).alloc (.cells z32 71)) := ((Below.refl _ _).alloc (Nat.le_refl _) _).alloc (by simp) _
  have hR0 := heap_alloc2_old w (.cells z32 71) (.cells z32 71)
  have hV0 := heap_alloc2_new w (.cells z32 71) (.cells z32 71)
  go_loopw [2, 5] (fun _ i wr => ∃ k : Nat, k ≤ 32 ∧ i = .int .i64 k ∧ (∃ C, wr.heap[w.heap.size + 1]? = some (.cells C 71 (0, 0)) ∧ C.size = 32 ∧ ∀ j, j < k → C[j]? = some (.int .i64 (-1))) ∧ (∃ R, wr.heap[w.heap.size]? = some (.cells R 71 (0, 0)) ∧ R.size = 32) ∧ Below w.heap.size w wr) (fun _ i _ => 32 - (intOf i).toNat)
  case atStart => exact ⟨0, Nat.zero_le _, rfl, ⟨_, hV0, by rw [zero32]; simp, fun j hj => by omega⟩, ⟨_, hR0, by rw [zero32]; simp⟩, hB0⟩
  case round =>
    clear hB0 hR0 hV0
    obtain ⟨k, hk, rfl, ⟨C, hC, hCs, hCa⟩, ⟨R, hR, hRs⟩, hbr⟩ := hrel
    by_cases hlt : k < 32
    · have e1 : (k : Int) < 32 := by omega
      have hsome : C[k]?.isSome = true := by simp; omega
      obtain ⟨old, hold⟩ := Option.isSome_iff_exists.1 hsome
      have hcell : wr.cell? ⟨w.heap.size + 1, k, none⟩ = some old := by simp only [World.cell?, hC]; exact hold
      have hfz : wr.frozen? ⟨w.heap.size + 1, k, none⟩ = false := by simp [World.frozen?, hC]
      have HC := Lib.hid (And.intro hC (And.intro hCs (And.intro hCa (And.intro hR (And.intro hRs hbr))))); clear hC hCs hCa hR hRs hbr hold hsome
      go_wp2
      go_roundw
      case rel =>
        obtain ⟨hC, hCs, hCa, hR, hRs, hbr⟩ := HC.out
        refine ⟨k + 1, by omega, by go_num, ⟨_, heap_set_marked _ _ _ _ _ _ _ hC, by simpa using hCs, ?_⟩, ⟨R, by rw [Below.heap_setCell _ _ _ _ (by simp)]; exact hR, hRs⟩, hbr.setCell (p := ⟨w.heap.size + 1, k, none⟩) (by simp) _⟩
        intro j hj
        rw [Array.getElem?_setIfInBounds]
        by_cases e : k = j
        · rw [if_pos e, if_pos (by omega)]
        · rw [if_neg e]; exact hCa j (by omega)
      case measure => simp [intOf] <;> omega
    · obtain rfl : k = 32 := by omega
      have HR32 : Row32 C (valF 0) := ⟨hCs, fun j hj => hCa j hj⟩
      have hT := (HT.out.below hbr hw)
      obtain ⟨T, fr, hrow⟩ := hT
      have HH := Lib.hid (And.intro hC (And.intro hCs (And.intro HR32 (And.intro hR (And.intro hRs (And.intro hbr hrow)))))); clear hC hCs hCa hR hRs hbr HR32
      have HROW := Lib.hid hrow; clear hrow
      go_wp2_with (refine wpList_load_row rfl 70 _ rfl 0 rfl T codeRow fr _ HROW.out Tryd.underlying70 rfl (by kernel_rfl) ?_)
      go_loopw [3, 4, 12] (fun _ _ i wr2 => ∃ k : Nat, k ≤ 16 ∧ i = .int .i64 k ∧ (∃ C, wr2.heap[w.heap.size + 1]? = some (.cells C 71 (0, 0)) ∧ Row32 C (valF k)) ∧ (∃ R, wr2.heap[w.heap.size]? = some (.cells R 71 (0, 0)) ∧ R.size = 32) ∧ Below w.heap.size w wr2) (fun _ _ i _ => 16 - (intOf i).toNat)
      case atStart => exact ⟨0, Nat.zero_le _, rfl, ⟨C, HH.out.1, HH.out.2.2.1⟩, ⟨R, HH.out.2.2.2.1, HH.out.2.2.2.2.1⟩, HH.out.2.2.2.2.2.1⟩
      case round =>
        clear HROW HH
        obtain ⟨k, hk, rfl, ⟨C, hC, hC32⟩, ⟨R, hR, hRs⟩, hbr⟩ := hrel
        by_cases hlt : k < 16
        · have e1 : (k : Int) < 16 := by omega
          have hix := fun w => index_codes k hlt w
          have hx32 := gcrN_bd k hlt
          have HV := Lib.hid (show (fun j => if gcrN k = j then (k : Int) else valF k j) = valF (k + 1) from rfl)
          obtain ⟨x, hx⟩ : ∃ x, gcrN k = x := ⟨_, rfl⟩
          rw [hx] at hix hx32 HV
          have hx32i : (x : Int) < 32 := by omega
          have hcell : wr.cell? ⟨w.heap.size + 1, x, none⟩ = some (.int .i64 (valF k x)) := by simp only [World.cell?, hC]; exact hC32.2 x hx32
          have hfz : wr.frozen? ⟨w.heap.size + 1, x, none⟩ = false := by simp [World.frozen?, hC]
          have HC := Lib.hid (And.intro hC (And.intro hC32 (And.intro hR (And.intro hRs hbr)))); clear hC hC32 hR hRs hbr hx
          go_wp2
          go_roundw
          case rel =>
            obtain ⟨hC, hC32, hR, hRs, hbr⟩ := HC.out
            refine ⟨k + 1, by omega, by go_num, ⟨_, heap_set_marked _ _ _ _ _ _ _ hC, ?_⟩, ⟨R, by rw [Below.heap_setCell _ _ _ _ (by simp)]; exact hR, hRs⟩, hbr.setCell (p := ⟨w.heap.size + 1, x, none⟩) (by simp) _⟩
            rw [← HV.out]
            exact hC32.set x k hx32
          case measure => simp [intOf] <;> omega
        · obtain rfl : k = 16 := by omega
          have hCv : C = valsV := hC32.eq
          rw [hCv] at hC
          have HC := Lib.hid (And.intro hC (And.intro hR (And.intro hRs hbr))); clear hC hC32 hR hRs hbr hCv
          go_wp2_with (first
            | (refine wpList_load_row rfl 71 _ rfl (w.heap.size + 1) rfl 71 valsV (0, 0) _ HC.out.1 Tryd.underlying71 rfl (by kernel_rfl) ?_)
            | (refine wpList_store_rowTo rfl 71 _ _ rfl rfl w.heap.size valsV rfl rfl 71 R HC.out.2.1 (by kernel_rfl) (HC.out.2.2.1.trans vals_size.symm) vals_one ?_))
          have hR2 : (wr.setRow w.heap.size valsV).heap[w.heap.size]? = some (.cells valsV 71 (0, 0)) := setRow_heap _ _ _ _ _ _ HC.out.2.1
          refine bodyPost_ret (v := .agg valsV) (results_cell_row (ty := 71) rfl _ _ w.heap.size 71 valsV (0, 0) _ rfl hR2 Tryd.underlying71 rfl (by kernel_rfl)) rfl ⟨rfl, ?_⟩
          have hbb := HC.out.2.2.2
          exact ⟨hbb.os, hbb.tape, hbb.output, by simpa using hbb.size, fun b hb => (setRow_other _ _ _ _ (by omega)).trans (hbb.block b hb)⟩
theorem grp_self : ∀ k, k < 16 → valN (gcrN k) = k := by decide +kernel
theorem grp_none : ∀ x, x < 32 → (∀ k, k < 16 → gcrN k ≠ x) → valN x = -1 := by decide +kernel
theorem grpS_ok : ∀ k, k < 16 → grpOk (grpS (gcrN k)) = true ∧ gP (grpS (gcrN k)) 5 = gcrN k := by decide +kernel
theorem grp_back : ∀ x0 x1 x2 x3 x4 : Fin 2, grpT ((((((0 * 2 + (x0.val : Int)) * 2 + x1.val) * 2 + x2.val) * 2 + x3.val) * 2 + x4.val).toNat) = [(48 + x0.val).toUInt8, (48 + x1.val).toUInt8, (48 + x2.val).toUInt8, (48 + x3.val).toUInt8, (48 + x4.val).toUInt8] := by decide +kernel
theorem grpS_of {s : ByteArray} (h : grpOk s = true) : grpS (gP s 5).toNat = s := by
  have sa := grpOk_size h
  obtain ⟨x0, p0, q0⟩ := bit_of (grpOk_cell h 0 (by omega))
  obtain ⟨x1, p1, q1⟩ := bit_of (grpOk_cell h 1 (by omega))
  obtain ⟨x2, p2, q2⟩ := bit_of (grpOk_cell h 2 (by omega))
  obtain ⟨x3, p3, q3⟩ := bit_of (grpOk_cell h 3 (by omega))
  obtain ⟨x4, p4, q4⟩ := bit_of (grpOk_cell h 4 (by omega))
  have ea : gP s 5 = ((((0 * 2 + (x0.val : Int)) * 2 + x1.val) * 2 + x2.val) * 2 + x3.val) * 2 + x4.val := by
    rw [gP_succ s 4 (by omega), gP_succ s 3 (by omega), gP_succ s 2 (by omega), gP_succ s 1 (by omega), gP_succ s 0 (by omega), p0, p1, p2, p3, p4]; rfl
  unfold grpS
  rw [ea, grp_back, ← q0, ← q1, ← q2, ← q3, ← q4]
  have hb : ∀ c : UInt8, c.toNat.toUInt8 = c := by intro c; simp
  rw [hb, hb, hb, hb, hb]
  clear hb ea q0 q1 q2 q3 q4 p0 p1 p2 p3 p4
  cases s with | mk d =>
  congr 1
  apply Array.ext
  · show 5 = d.size; exact sa.symm
  · intro i h1 h2
    have : i = 0 ∨ i = 1 ∨ i = 2 ∨ i = 3 ∨ i = 4 := by simp at h1; omega
    rcases this with rfl | rfl | rfl | rfl | rfl <;> rfl
def gcrVV (s : ByteArray) : Int := if grpOk s = true then valN (gP s 5).toNat else -1
set_option maxHeartbeats 1000000 in
theorem specGcrValue_any (s : ByteArray) (h : s.size ≤ 1048576) (w : World) :
    Calls Tryd.prog 47 #[.string s] w fun e w' => e = .returned (.int .i64 (gcrVV s)) ∧ Below w.heap.size w w' := by
  have HCELL := Lib.hid (fun k hk => codes_cell w k hk)
  go_enter Tryd.func47, Tryd.ntmps47
  go_wp2_with (go_at_call 93; refine (l06Codes_any _).mono ?_; rintro e w2 ⟨rfl, rfl⟩)
  go_loop [4] (fun i => ∃ k : Nat, k ≤ 16 ∧ i = .int .i64 k ∧ Hid (∀ j, j < k → grpS (gcrN j) ≠ s)) (fun i => 16 - (intOf i).toNat)
  case atStart => exact ⟨0, Nat.zero_le _, rfl, by unfold Hid; intro j hj; omega⟩
  case round =>
    obtain ⟨k, hk, rfl, ha⟩ := hrel
    by_cases hlt : k < 16
    · have e1 : (k : Int) < 16 := by omega
      have hcell := HCELL.out k hlt
      obtain ⟨c, hc⟩ : ∃ c, grpS (gcrN k) = c := ⟨_, rfl⟩
      rw [hc] at hcell
      by_cases he : c = s
      · have HV := Lib.hid (show gcrVV s = k by
          have := grpS_ok k hlt
          rw [hc, he] at this
          unfold gcrVV
          rw [if_pos this.1, this.2, Int.toNat_natCast, grp_self k hlt])
        clear hc
        subst he
        go_wp2
        go_ret
        exact ⟨by rw [HV.out]; rfl, by go_grown⟩
      · have HNE := Lib.hid (And.intro hc he); 
        have hne := toList_ne he
        clear hc he
        go_wp2
        go_round
        case rel =>
          refine ⟨k + 1, by omega, by go_num, ?_⟩
          unfold Hid
          intro j hj
          by_cases e : j = k
          · subst e; rw [HNE.out.1]; exact HNE.out.2
          · exact ha.out j (by omega)
        case measure => simp [intOf] <;> omega
    · obtain rfl : k = 16 := by omega
      have HV := Lib.hid (show gcrVV s = -1 by
        unfold gcrVV
        split
        · next hg =>
          have hb := gP_bd hg 5 (by omega)
          have e32 : (2 : Int) ^ 5 = 32 := rfl
          refine grp_none _ (by omega) ?_
          intro j hj e
          apply ha.out j hj
          rw [e, grpS_of hg]
        · rfl)
      go_wp2
      go_ret
      exact ⟨by rw [HV.out]; rfl, by go_grown⟩
end Go.Proofs.YtffefhgemmjkoaaDoor
