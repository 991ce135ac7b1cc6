/- impl.FluxOf, with what its slice's capacity is. -/
import Derived.Test.YtfedlehibkgjbaaDoorPkFnFluxB
namespace Go.Proofs.YtfedlehibkgjbaaDoor
open Go.RowKit
set_option linter.unusedVariables false
/-- As FluxRes, and the capacity is not less than the length. -/
def FluxResC (r : FluxVal) (w : World) (e : Ending) (w' : World) : Prop :=
  ∃ a cap, e = .returned (.tuple #[.agg #[.int .i64 r.cell, .int .i64 r.first, .slice a r.gaps.length cap], .int .i64 r.code]) ∧ r.gaps.length ≤ cap ∧ SlO w' w.heap.size a r.gaps ∧ Below w.heap.size w w'
set_option maxHeartbeats 2000000 in
theorem fluxOf_cap (s : ByteArray) (cell : Int) (w : World) (h1 : validCells s = true) (h2 : inB 4 200 cell = true) :
    Calls Tryd.prog 12 #[.string s, .int .i64 cell] w (FluxResC (fluxOfVal s cell) w) := by
  obtain ⟨hs0, hs⟩ := validCells_size h1
  have h2' := inB_iff.1 h2
  have c1 := fun w' => validCells_any s w' (by unfold maxLen; omega)
  rw [h1] at c1
  have C1 := Lib.hid c1
  have HV := Lib.hid (And.intro h1 h2); clear c1 h1
  go_enter Tryd.func12, Tryd.ntmps12
  go_wp2_with fail
  refine (C1.out _).mono ?_
  rintro e w1 ⟨rfl, hb⟩
  have hz := (ZeroAt.new w w.heap.size rfl).below hb (by simp)
  have hb1 := Below.trans (show Below w.heap.size w _ from (Below.refl _ _).alloc (Nat.le_refl _) _) (hb.mono (by simp))
  go_wp2_with fail
  refine (within_at _ _ _ _ _ _ (by simp)).mono ?_
  rintro e w' ⟨rfl, rfl⟩
  have hz2 : ZeroAt (w1.alloc (.cells #[.int .i64 cell] 2)) w.heap.size := hz.below ((Below.refl _ _).alloc (Nat.le_refl _) _) hz.lt
  have hb2 : Below w.heap.size w (w1.alloc (.cells #[.int .i64 cell] 2)) := hb1.alloc hb1.size _
  obtain ⟨W, hW⟩ : ∃ W, w1.alloc (.cells #[.int .i64 cell] 2) = W := ⟨_, rfl⟩
  rw [hW] at hz2 hb2 ⊢
  clear hW hz hb1 hb C1
  have HZ := Lib.hid hz2
  have hlt0 := hz2.lt
  clear hz2
  go_wp2
  go_loopw [6, 7, 8] (fun v _ _ wr => ∃ pos, pos ≤ s.size ∧ wr.heap[W.heap.size]? = some (.stringIter s pos) ∧ OwnI wr (W.heap.size + 1) v (chg s cell pos) ∧ ZeroAt wr w.heap.size ∧ Below w.heap.size w wr) (fun _ _ _ wr => s.size - wr.iterPos W.heap.size)
  case atStart =>
    exact ⟨0, Nat.zero_le _, World.iter_heap W s 0, OwnI.nil _ _, HZ.out.below ((Below.refl _ _).alloc (Nat.le_refl _) _) hlt0, hb2.alloc hb2.size _⟩
  case round =>
    obtain ⟨pos, hk, hit, hown, hzr, hbr⟩ := hrel
    by_cases hp : pos < s.size
    · have hnx : ∀ ty, (Instr.next (.pointer (some ⟨W.heap.size, 0, none⟩)) true ty).run Tryd.prog wr = _ := fun ty => Lib.run_next_any_at wr W.heap.size s pos ty hit hp
      have hc2 := validCells_at HV.out.1 hp
      rw [decode_ascii s pos hp (by omega)] at hnx
      have hlen := chg_length_le s cell pos
      have hit2 := Lib.iterAt_heap wr W.heap.size s pos (pos + 1) hit
      have hmes := iterPos_of hit
      rcases hc2 with h48 | h49
      · have HC := Lib.hid (chg_zero cell hp (by omega))
        rw [h48] at hnx
        go_wp2
        go_roundw
        case rel =>
          refine ⟨pos + 1, by omega, hit2, by rw [HC.out]; exact hown.iterAt (by omega) _ _, ?_, Lib.below_iterAt hbr (by omega) _ _⟩
          unfold ZeroAt
          rw [Lib.iterAt_other _ _ _ _ _ (by omega)]; exact hzr
        case measure => rw [iterPos_of hit2, hmes]; omega
      · have HC := Lib.hid (chg_one cell hp h49)
        rw [h49] at hnx
        have hq : cell.tdiv 2 = cell / 2 := Int.tdiv_eq_ediv_of_nonneg (by omega)
        have hm := cellMul (k := pos) (by omega) (by omega) h2'.2
        have hown2 := hown.iterAt (k := W.heap.size) (by omega) s (pos + 1)
        have hz3 : ZeroAt (wr.iterAt W.heap.size s (pos + 1)) w.heap.size := by
          unfold ZeroAt
          rw [Lib.iterAt_other _ _ _ _ _ (by omega)]; exact hzr
        have hbr3 := Lib.below_iterAt hbr (k := W.heap.size) (by omega) s (pos + 1)
        have hsz3 : W.heap.size + 1 ≤ (wr.iterAt W.heap.size s (pos + 1)).heap.size := by
          rw [Lib.iterAt_size]; exact (Array.getElem?_eq_some_iff.1 hit).1
        obtain ⟨V, hV⟩ : ∃ V, wr.iterAt W.heap.size s (pos + 1) = V := ⟨_, rfl⟩
        rw [hV] at hnx hit2 hown2 hz3 hbr3 hsz3
        have HF := Lib.hid (And.intro hit (And.intro hown (And.intro hzr hbr)))
        clear hit hown hzr hbr hV
        go_wp2_with (at_builtin; refine wpList_appendI 50 Tryd.underlying50 rfl _ _ rfl rfl (hown2.alloc _) ((pos : Int) * cell + cell / 2) ⟨V.heap.size, 0, none⟩ 1 rfl (World.news_of_block (cs := #[.int .i64 ((pos : Int) * cell + cell / 2)]) (t := 2) (fr := (0, 0)) (heap_alloc_new V _)) (by omega) (by simp; omega) ?_; intro g cap w3 hown3 hb3 _)
        have hit3 : w3.heap[W.heap.size]? = some (.stringIter s (pos + 1)) := by
          rw [hb3.block _ (by omega), Below.heap_alloc _ _ _ (by omega)]; exact hit2
        go_roundw
        case rel =>
          refine ⟨pos + 1, by omega, hit3, ?_, ?_, ?_⟩
          · rw [HC.out]; exact hown3
          · unfold ZeroAt
            rw [hb3.block _ (by omega), Below.heap_alloc _ _ _ (by omega)]; exact hz3
          · exact (hbr3.alloc (by omega) _).trans (hb3.mono (by omega))
        case measure => rw [iterPos_of hit3, hmes]; omega
    · have hnx : ∀ ty, (Instr.next (.pointer (some ⟨W.heap.size, 0, none⟩)) true ty).run Tryd.prog wr = _ := fun ty => Lib.run_next_end_at wr W.heap.size s pos ty hit hp
      obtain rfl : pos = s.size := by omega
      obtain ⟨a, cp, rfl⟩ := hown.form
      have HZR := Lib.hid hzr
      obtain ⟨z0, z1, z2, y0, y1, y2⟩ := hzr.facts
      have hm := cellMul (k := s.size) (by omega) (by omega) h2'.2
      have hlen := chg_length_le s cell s.size
      have hmild := chg_mild (s := s) (k := s.size) (by omega) (by omega) h2'.2
      have hsl := hown.slO
      have HE := Lib.hid (show fluxOfVal s cell = if (chg s cell s.size).length = 0 then .none 6 else if 4000 < (chg s cell s.size).length then .none 5 else ⟨cell, (chg s cell s.size)[0]?.getD 0, gapsOf (chg s cell s.size) ((s.size : Int) * cell), 0⟩ by unfold fluxOfVal; rw [if_pos HV.out])
      clear hit hzr
      generalize chg s cell s.size = ts at *
      by_cases hl0 : ts.length = 0
      · have hb0 : ((ts.length : Int) == 0) = true := by simp [hl0]
        have HE2 := Lib.hid (HE.out.trans (if_pos hl0))
        have HH := Lib.hid (And.intro hown (And.intro hsl (And.intro hmild hl0)))
        clear hown hsl hmild hl0 HE
        go_wp2
        rw [HE2.out]
        refine bodyPost_ret (v := .tuple #[.agg #[.int .i64 0, .int .i64 0, .slice none 0 0], .int .i64 6]) (by simp [results, Tryd.results12, go_sem, z0, z1, z2]) rfl ⟨none, 0, rfl, Nat.le_refl _, .inl rfl, ?_⟩
        exact ((hbr.setCell (by simp) _).setCell (by simp) _).setCell (by simp) _
      · have hb0 : ((ts.length : Int) == 0) = false := by rw [beq_eq_false_iff_ne]; omega
        by_cases hl4 : 4000 < ts.length
        · have HE2 := Lib.hid ((HE.out.trans (if_neg hl0)).trans (if_pos hl4))
          have HH := Lib.hid (And.intro hown (And.intro hsl (And.intro hmild hl0)))
          clear hown hsl hmild hl0 HE
          go_wp2
          rw [HE2.out]
          refine bodyPost_ret (v := .tuple #[.agg #[.int .i64 0, .int .i64 0, .slice none 0 0], .int .i64 5]) (by simp [results, Tryd.results12, go_sem, z0, z1, z2]) rfl ⟨none, 0, rfl, Nat.le_refl _, .inl rfl, ?_⟩
          exact ((hbr.setCell (by simp) _).setCell (by simp) _).setCell (by simp) _
        · obtain ⟨f, hf⟩ := getOf (zs := ts) (k := 0) (by omega)
          have hff : ts[0]?.getD 0 = f := by rw [hf]; rfl
          have HE2 := Lib.hid ((HE.out.trans (if_neg hl0)).trans (if_neg hl4))
          have hcall := fun w' hb => timesFlux_any a ts cp ((s.size : Int) * cell) cell f w' (by omega) hf hmild (by omega) (by omega) hb
          obtain ⟨a', c', hv, hsl2⟩ := hsl
          cases hv
          have HC := Lib.hid (hcall wr hsl2.sl)
          have HH := Lib.hid (And.intro hown (And.intro hsl2 (And.intro hmild (And.intro hl0 (And.intro hf hff)))))
          clear hown hsl2 hmild hl0 HE hcall hf hff
          go_wp2_with fail
          refine HC.out.mono ?_
          rintro e w4 ⟨g, rfl, hrow, hg, hb4⟩
          have hz4 := HZR.out.below hb4 HZR.out.lt
          obtain ⟨z0, z1, z2, y0, y1, y2⟩ := hz4.facts
          have hbw4 : Below w.heap.size w w4 := hbr.trans (hb4.mono hbr.size)
          have hgs : w.heap.size < wr.heap.size := HZR.out.lt
          have HR := Lib.hid hrow; clear hrow hb4 hz4
          go_wp2
          rw [HE2.out]
          refine bodyPost_ret (v := .tuple #[.agg #[.int .i64 cell, .int .i64 f, .slice (some ⟨g, 0, none⟩) (gapsOf ts ((s.size : Int) * cell)).length (gapsOf ts ((s.size : Int) * cell)).length], .int .i64 0]) (by simp [results, Tryd.results12, go_sem, z0, z1, z2]) rfl ⟨some ⟨g, 0, none⟩, _, by rw [HH.out.2.2.2.2.2], Nat.le_refl _, ?_, ?_⟩
          · exact (HR.out.set3 _ _ _ (by omega)).slO (by omega)
          · exact ((hbw4.setCell (by simp) _).setCell (by simp) _).setCell (by simp) _
end Go.Proofs.YtfedlehibkgjbaaDoor
