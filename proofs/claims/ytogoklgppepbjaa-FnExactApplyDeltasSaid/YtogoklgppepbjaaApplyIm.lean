/- impl.ApplyDeltas -/
import Derived.Test.YtogoklgppepbjaaApplyVal
import Derived.Test.YtogoklgppepbjaaSliceCells
import Derived.Test.YtogoklgppepbjaaBoxes
namespace Go.Proofs.Ytogoklgppepbjaa
open Go.RowKit
set_option linter.unusedVariables false
set_option linter.unusedSimpArgs false
set_option maxRecDepth 20000
theorem size_u8 (w : World) : (Go.sizeOf 5).run Try.prog w = .ok 1 w := by
  obtain ⟨i0, hi, hz0, hz1, hz2⟩ := info_parts u8info
  simp [Go.sizeOf, typeInfo, hi, hz1]
theorem belowSet {B b : Nat} {a : World} (hb : B ≤ b) : ∀ (vs : List Value) (o : Nat) (w : World), Below B a w → Below B a (w.setCells b o vs)
  | [], _, _, h => h
  | v :: r, o, w, h => belowSet hb r (o + 1) _ (h.setCell (by exact hb) v)
theorem cell_setCells_other {b b' i : Nat} (hne : b' ≠ b) : ∀ (vs : List Value) (o : Nat) (w : World), (w.setCells b o vs).cell? ⟨b', i, none⟩ = w.cell? ⟨b', i, none⟩
  | [], _, _ => rfl
  | v :: r, o, w => (cell_setCells_other hne r (o + 1) _).trans (World.cell?_of_block (Below.heap_setCell w ⟨b, o, none⟩ v b' hne))
set_option maxHeartbeats 8000000 in
theorem applyDeltas_any (s : ByteArray) (a : Option Addr) (c : Nat) (es : List DeltaV) (hs : s.size ≤ 1048576) (hm : es.length ≤ 1048576) (hv : ∀ e ∈ es, e.f1.size ≤ 1048576) (w : World) (h : SlS rowDelta w a es) :
    Calls Try.prog 23 #[.string s, .slice a es.length c] w fun x w' => x = .returned (.tuple #[.string (apV s es), .bool (apB s es)]) ∧ Below w.heap.size w w' := by
  obtain ⟨r, hr⟩ : ∃ r, apV s es = r := ⟨_, rfl⟩
  obtain ⟨q0, hq0⟩ : ∃ q, apB s es = q := ⟨_, rfl⟩
  rw [hr, hq0]
  have HR := Lib.hid hr; have HQ0 := Lib.hid hq0; clear hr hq0
  by_cases h4 : s.size ≤ 4096
  case neg =>
    have e : apB s es = false := by unfold apB; simp [h4]
    have hr1 : r = ByteArray.empty := by rw [← HR.out]; unfold apV; rw [e, if_neg (by simp)]
    have hq1 : q0 = false := by rw [← HQ0.out, e]
    subst hr1 hq1
    have h1 : (4096 : Int) < (s.size : Int) := by omega
    clear h
    go_enter Try.func23, Try.ntmps23
    go_wp2
    go_ret2
    exact ⟨rfl, Below.refl _ _⟩
  have h1 : ¬ (4096 : Int) < (s.size : Int) := by omega
  have hcv2 := fun w s => run_bytes_of_string (P := Try.prog) w 9 65 5 s Try.underlying9 Try.underlying65 Try.underlying5
  go_enter Try.func23, Try.ntmps23
  go_wp2
  clear hcv2
  have hcap1 := Lib.hid (show s.size ≤ grownCap w s.size 0 5 ∧ (bytesRow s (grownCap w s.size 0 5)).size = grownCap w s.size 0 5 by
    have h1 : s.size ≤ grownCap w s.size 0 5 := grownCap_ge _ _ _ _
    refine ⟨h1, ?_⟩
    have : s.data.size = s.size := rfl
    simp [bytesRow]; omega)
  obtain ⟨cap, hcap⟩ : ∃ cap, grownCap w s.size 0 5 = cap := ⟨_, rfl⟩
  rw [hcap] at hcap1 ⊢
  clear hcap
  go_loopw [7, 9, 17] (fun f _ i wr => ∃ (k : Nat), k ≤ es.length ∧ i = .int .i64 k ∧ f = .int .i64 ((apSt s es k).2 : Nat) ∧ Hid (apGood s es k = true) ∧ Hid (∃ C, wr.heap[w.heap.size]? = some (.cells C 5 (cap, cap + 1)) ∧ RowB C ((apSt s es k).1 ++ s.data.toList.drop (apSt s es k).2) cap) ∧ Below w.heap.size w wr ∧ w.heap.size < wr.heap.size) (fun _ _ i _ => es.length - (intOf i).toNat)
  case atStart =>
    refine ⟨0, Nat.zero_le _, rfl, rfl, by unfold Hid; rfl, ?_, ((Below.refl _ _).alloc (Nat.le_refl _) _).drew, by simp⟩
    unfold Hid
    refine ⟨bytesRow s cap, ?_, ?_⟩
    · rw [hcap1.out.2]
      show (w.heap.push _)[w.heap.size]? = _
      simp
    · have := RowB.ofBytes s cap hcap1.out.1
      simpa [apSt] using this
  case round =>
    obtain ⟨k, hk, rfl, rfl, hG, hC, hb, hgt⟩ := hrel
    by_cases hlt : k < es.length
    · obtain ⟨e, hx⟩ : ∃ e, es[k]? = some e := ⟨es[k], by simp [hlt]⟩
      obtain ⟨b, off, rfl, hbl, hc⟩ := (h.below hb (Nat.le_refl _)).at rowDelta_len hx
      have c0 : wr.cell? ⟨b, off + k * 2, none⟩ = some (.int .i64 e.f0) := hc 0 _ rfl
      have c1 : wr.cell? ⟨b, off + k * 2 + 1, none⟩ = some (.string e.f1) := hc 1 _ rfl
      have hes := hv e (List.mem_of_getElem? hx)
      obtain ⟨hbd1, hbd2⟩ := apSt_bd k hk hG.out
      have hgs := apGood_succ (s := s) hx
      rw [hG.out, Bool.true_and] at hgs
      have hss := apSt_succ (s := s) hx
      obtain ⟨P, q, hPq⟩ : ∃ P q, apSt s es k = (P, q) := ⟨_, _, rfl⟩
      rw [hPq] at hbd1 hbd2 hgs hss hC ⊢
      dsimp only at hbd1 hbd2 hgs hC ⊢
      have H := Lib.hid (And.intro h (And.intro hc hx)); clear h hc hx hPq
      have HCAP := hcap1.out.1
      by_cases he : e.f1 = ByteArray.empty
      · have hbad := Lib.hid (apB_bad (k := k + 1) (s := s) hlt (by rw [hgs]; unfold apOk; rw [he]; rfl))
        rw [he] at c1
        clear hgs hss hes
        go_wp2
        go_ret2
        exact ⟨by rw [← HR.out, ← HQ0.out]; unfold apV; rw [hbad.out, if_neg (by simp)]; rfl, hb.trans (show Below w.heap.size wr _ from (Below.refl _ _).alloc hb.size _)⟩
      · have he0 : e.f1.size ≠ 0 := fun h0 => he (ByteArray.ext (Array.eq_empty_of_size_eq_zero h0))
        have WI := Lib.hid (fun w T x hx => within_b (q : Int) ((s.size : Int) - (e.f1.size : Int)) e.f0 w T x hx)
        have heq : ¬ e.f1.toList = [] := fun h0 => he ((toList_nil_iff_emptyBytes _).mp h0)
        have heq2 : e.f1.toList.isEmpty = false := by rw [List.isEmpty_eq_false_iff]; exact heq
        cases hq : inB (q : Int) ((s.size : Int) - (e.f1.size : Int)) e.f0 with
        | false =>
          rw [hq] at WI
          have hbad := Lib.hid (apB_bad (k := k + 1) (s := s) hlt (by rw [hgs]; unfold apOk; rw [hq]; simp))
          clear hgs hss hq
          go_wp2_with fail
          refine (WI.out (wr.alloc (.cells #[.int .i64 e.f0, .string e.f1] 76)) _ (wr.heap.size + 1) (by simp)).mono ?_
          rintro e_ w1 ⟨rfl, hb1⟩
          go_wp2
          go_ret2
          exact ⟨by rw [← HR.out, ← HQ0.out]; unfold apV; rw [hbad.out, if_neg (by simp)]; rfl, hb.trans (Below.trans (show Below w.heap.size wr _ from (Below.refl _ _).alloc hb.size _) (hb1.mono (by simp; omega)))⟩
        | true =>
          rw [hq] at WI
          have hgood := Lib.hid (show apGood s es (k + 1) = true by rw [hgs]; exact apOk_iff.2 ⟨he0, hq⟩)
          obtain ⟨hq0, hq1⟩ := inB_iff.1 hq
          obtain ⟨x, hx0⟩ : ∃ x : Nat, e.f0 = x := ⟨e.f0.toNat, by omega⟩
          rw [hx0] at c0 WI hq0 hq1
          have hxe : e.f0.toNat = x := by omega
          unfold apStep at hss
          rw [hxe] at hss
          dsimp only at hss
          have HS := Lib.hid hss
          obtain ⟨t, ht⟩ : ∃ t, e.f1 = t := ⟨_, rfl⟩
          rw [ht] at c1 WI hq1 he0 heq heq2 hes HS
          clear hgs hss hq hx0 hxe ht he
          go_wp2_with fail
          refine (WI.out (wr.alloc (.cells #[.int .i64 (x : Int), .string t] 76)) _ (wr.heap.size + 1) (by simp)).mono ?_
          rintro e_ w1 ⟨rfl, hb1⟩
          have hz1 := hb1.size
          simp at hz1
          have BX := (BoxAt.new wr #[.int .i64 (x : Int), .string t] 76 wr.heap.size rfl).below hb1 (by simp)
          have bx0 := BX 0 _ rfl
          have bx1 := BX 1 _ rfl
          clear c0 c1
          have hb2 : Below w.heap.size w w1 := hb.trans (Below.trans (show Below w.heap.size wr _ from (Below.refl _ _).alloc hb.size _) (hb1.mono (by simp; omega)))
          have HC1 : Hid (∃ C, w1.heap[w.heap.size]? = some (.cells C 5 (cap, cap + 1)) ∧ RowB C (P ++ s.data.toList.drop q) cap) := by
            obtain ⟨C, h8, h9⟩ := hC.out
            exact ⟨C, by rw [hb1.block _ (by simp; omega), Below.heap_alloc _ _ _ hgt]; exact h8, h9⟩
          have hts : t.data.toList.length = t.size := by simp
          have hns : s.data.toList.length = s.size := by simp
          have hwadd : IntKind.i64.wrap ((x : Int) + (t.size : Int)) = (x : Int) + (t.size : Int) := IntWalk.i64_in _ (by omega)
          have HCELL := Lib.hid (show ∀ j, j < s.size → (w1.cell? ⟨w.heap.size, j, none⟩).isSome = true ∧ w1.frozen? ⟨w.heap.size, j, none⟩ = false from fun j hj => by
            obtain ⟨C, h8, h9⟩ := HC1.out
            have hl : (P ++ s.data.toList.drop q).length = s.size := by rw [List.length_append, List.length_drop, hbd2, hns]; omega
            refine ⟨by rw [h9.cell h8 j (by rw [hl]; exact hj)]; rfl, ?_⟩
            have := h9.1
            simp [World.frozen?, h8]
            omega)
          have hxs : x ≤ s.size := by omega
          have hxc : x < cap := by omega
          have hxn : ¬ cap = x := by omega
          have hwne : wr.heap.size ≠ w.heap.size := by omega
          have bq0 : (w1.drew.setCells w.heap.size x (t.data.toList.map fun x => Value.int .u8 (x.toNat : Int))).cell? ⟨wr.heap.size, 0, none⟩ = some (.int .i64 (x : Int)) := by rw [cell_setCells_other hwne]; exact bx0
          have bq1 : (w1.drew.setCells w.heap.size x (t.data.toList.map fun x => Value.int .u8 (x.toNat : Int))).cell? ⟨wr.heap.size, 1, none⟩ = some (.string t) := by rw [cell_setCells_other hwne]; exact bx1
          have HB4 := Lib.hid (belowSet (b := w.heap.size) (Nat.le_refl _) (t.data.toList.map fun x => Value.int .u8 (x.toNat : Int)) x _ hb2.drew)
          have HC4 := Lib.hid (show ∃ C, (w1.drew.setCells w.heap.size x (t.data.toList.map fun x => Value.int .u8 (x.toNat : Int))).heap[w.heap.size]? = some (.cells C 5 (cap, cap + 1)) ∧ RowB C ((apSt s es (k + 1)).1 ++ s.data.toList.drop (apSt s es (k + 1)).2) cap from by
            obtain ⟨C, h8, h9⟩ := HC1.out
            have hl : (P ++ s.data.toList.drop q).length = s.size := by rw [List.length_append, List.length_drop, hbd2, hns]; omega
            obtain ⟨C', h6, h7⟩ := RowB.setCells t.data.toList x C _ w1.drew h9 h8 (by rw [hl, hts]; omega)
            refine ⟨C', h6, ?_⟩
            rw [HS.out]
            rw [ap_set hbd2 (by omega) (by rw [hts]; omega), hts] at h7
            exact h7)
          have HSZ4 := Lib.hid (show w.heap.size < (w1.drew.setCells w.heap.size x (t.data.toList.map fun x => Value.int .u8 (x.toNat : Int))).heap.size from Nat.lt_of_lt_of_le (show w.heap.size < w1.drew.heap.size from by show w.heap.size < w1.heap.size; omega) (belowSet (b := w.heap.size) (Nat.le_refl _) (t.data.toList.map fun x => Value.int .u8 (x.toNat : Int)) x w1.drew (Below.refl w.heap.size w1.drew)).size)
          have HE := Lib.hid (show (apSt s es (k + 1)).2 = x + t.size by rw [HS.out])
          go_wp2
          go_region_law (refine step_copy_string rfl _ _ _ _ rfl 5 Try.underlying65 size_u8 w.heap.size x (s.size - x) (cap - x) (by simp [Act.eval, Act.put]) t (by simp [Act.eval, Act.put]) (by omega) (fun j hj => (HCELL.out (x + j) (by omega)).1) (fun j hj => (HCELL.out (x + j) (by omega)).2) ?_)
          all_goals
            go_wp2
            go_roundw
            case rel => exact ⟨k + 1, by omega, by go_num, by rw [HE.out]; congr 1, hgood, HC4, HB4.out, HSZ4.out⟩
            case measure => simp [intOf]; omega
    · obtain rfl : k = es.length := by omega
      obtain ⟨C, hC1, hRow⟩ := hC.out
      have hgd := hG.out
      have hb0 : apB s es = true := by unfold apB; rw [hgd, decide_eq_true h4]; rfl
      have hl : ((apSt s es es.length).1 ++ s.data.toList.drop (apSt s es es.length).2).length = s.size := by
        obtain ⟨b1, b2⟩ := apSt_bd es.length (Nat.le_refl _) hgd
        have hns : s.data.toList.length = s.size := by simp
        rw [List.length_append, List.length_drop, b2, hns]; omega
      have hcv := hRow.conv hC1 s.size cap hl
      clear hC1
      go_wp2
      go_ret2
      refine ⟨?_, hb⟩
      rw [← HR.out, ← HQ0.out]
      unfold apV
      rw [hb0, if_pos rfl]
      rfl
end Go.Proofs.Ytogoklgppepbjaa
