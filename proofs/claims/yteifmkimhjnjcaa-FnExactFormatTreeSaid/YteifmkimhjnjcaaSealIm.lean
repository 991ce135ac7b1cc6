/- impl.SealBlock -/
import Derived.Test.YteifmkimhjnjcaaTreeBlk
import Derived.Deep.MidRow
import Derived.Laws.Tables
namespace Go.Proofs.Yteifmkimhjnjcaa
open Go.RowKit
set_option linter.unusedVariables false
set_option linter.unusedSimpArgs false
set_option maxRecDepth 20000
def sealB (s : ByteArray) : ByteArray := if s.size = 32 then ⟨(sealL s.data.toList).toArray⟩ else ⟨#[]⟩
theorem arrayAt32 (a : Option Addr) (c : Nat) (w : World) : (Instr.arrayAt 34 (.slice a 32 c)).run Try.prog w = .ok (.pointer a) w := by
  unfold Instr.arrayAt
  simp [go_sem, Try.underlying34]
theorem TBk.new {w : World} {g : Nat} {cs : Array Value} {T : TypeId} {bs : List UInt8} (hg : w.heap[g]? = some (.cells cs T (0, 0))) (hc : cs = (Lib.byteCells bs).toArray) : TBk w g bs := by
  subst hc
  intro i hi
  refine ⟨?_, by simp [World.frozen?, hg]⟩
  simp [World.cell?, hg, Lib.byteCells, hi]
theorem TBk.range {w : World} {g : Nat} {bs : List UInt8} (h : TBk w g bs) : w.rangeAt g 0 (Lib.byteCells bs) := by
  intro j v hv
  have hj : j < bs.length := by
    have := (List.getElem?_eq_some_iff.1 hv).1
    simpa [Lib.byteCells] using this
  have e : (Lib.byteCells bs)[j]? = some (.int .u8 (bs[j].toNat : Int)) := by simp [Lib.byteCells, hj]
  rw [e] at hv
  cases hv
  rw [Nat.zero_add]
  exact (h j hj).1
theorem size32 : (Try.prog.info? 34).map (·.size) = some 32 := by kernel_rfl
theorem rangeBytes (w : World) (g : Nat) (s : ByteArray) (cap : Nat) (T : TypeId) (fr : Nat × Nat) (hg : w.heap[g]? = some (.cells (bytesRow s cap) T fr)) : w.rangeAt g 0 (Lib.byteCells s.data.toList) := by
  intro j v hv
  have hj : j < s.size := by
    have := (List.getElem?_eq_some_iff.1 hv).1
    simpa [Lib.byteCells] using this
  have e : (Lib.byteCells s.data.toList)[j]? = some (.int .u8 (s[j].toNat : Int)) := by simp [Lib.byteCells, hj]; rfl
  rw [e] at hv
  cases hv
  rw [Nat.zero_add]
  simp [World.cell?, hg, bytesRow_at s cap j hj]
  rfl
theorem belowRow {B g : Nat} {a w : World} {cs : Array Value} (hb : Below B a w) (hg : B ≤ g) : Below B a (w.setRow g cs) := by
  refine ⟨hb.os, hb.tape, hb.output, by simpa [World.setRow] using hb.size, fun i hi => ?_⟩
  rw [setRow_other w g i cs (by omega)]
  exact hb.block i hi
theorem sealBlock_any (s : ByteArray) (w : World) (hs : s.size ≤ 1048576) :
    Calls Try.prog 9 #[.string s] w fun e w' => e = .returned (.string (sealB s)) ∧ Below w.heap.size w w' := by
  by_cases h : s.size = 32
  · have hcv2 := fun w s => run_bytes_of_string (P := Try.prog) w 9 32 5 s Try.underlying9 Try.underlying32 Try.underlying5
    have hne : ((s.size : Int) != 32) = false := by simp; omega
    have har := fun w c => arrayAt32 (some ⟨w, 0, none⟩) c
    have HS := Lib.hid h
    go_enter Try.func9, Try.ntmps9
    go_upto_region 3 with (fail)
    iterate 10 go_step
    have el : (Lib.byteCells s.data.toList).length = 32 := by rw [Lib.byteCells_length]; simp [h]
    have es : (Lib.byteCells s.data.toList).toArray.size = 32 := by simpa using el
    refine wpList_load_mid rfl 34 _ rfl w.heap.size 0 rfl (Lib.byteCells s.data.toList) _ (rangeBytes _ _ _ _ _ _ (heap_alloc_new _ _)) Try.underlying34 rfl (by rw [size32, el]) ?_
    simp only [Act.put, List.setIfInBounds_toArray, List.set_cons_zero, List.set_cons_succ]
    iterate 3 go_step
    generalize (Obj.cells (bytesRow s (grownCap w 32 0 5)) 5 ((bytesRow s (grownCap w 32 0 5)).size, (bytesRow s (grownCap w 32 0 5)).size + 1)) = A0
    refine wpList_store_row rfl 34 _ _ rfl (w.heap.size + 1) (Lib.byteCells s.data.toList).toArray rfl rfl 34 _ (heap_alloc2_new w A0 _) (by rw [size32, es]) (by rw [es]; rfl) (by have := Lib.byteCells_one s.data.toList; rw [List.all_toArray]; exact List.all_eq_true.2 this) ?_
    generalize HW : World.setRow _ _ _ = W
    have ht : TBk W (w.heap.size + 1) s.data.toList := by
      subst HW
      exact TBk.new (setRow_heap _ _ _ _ _ _ (heap_alloc2_new w A0 _)) rfl
    have hb : Below w.heap.size w W := by
      subst HW
      exact belowRow (((Below.refl _ _).alloc (Nat.le_refl _) _).alloc (by simp) _).drew (by omega)
    have hl : s.data.toList.length = 32 := by simp [h]
    clear HW hcv2 har es el
    simp only [Act.put, List.setIfInBounds_toArray, List.set_cons_zero, List.set_cons_succ]
    have SE := Lib.hid (seal_any (w.heap.size + 1) s.data.toList W ht hl)
    have HB := Lib.hid hb; clear hb ht
    go_wp2_with (go_at_call 20; refine SE.out.mono ?_; rintro e w2 ⟨rfl, ht2, ho2⟩; have hcv := TBk.conv ht2 32 32 (by rw [sealL_len]; exact hl))
    go_ret
    refine ⟨?_, HB.out.trans (ho2.2.2.mono (by omega))⟩
    unfold sealB
    rw [if_pos HS.out]
    rfl
  · have hne : ((s.size : Int) != 32) = true := by simp; omega
    have hz : sealB s = ⟨#[]⟩ := by unfold sealB; rw [if_neg h]
    go_enter Try.func9, Try.ntmps9
    go_wp2
    go_ret
    exact ⟨by rw [hz]; rfl, Below.refl _ _⟩
theorem bytesBlk (w : World) (s : ByteArray) (c : Nat) (hc : s.size ≤ c) : TBk (w.alloc (.cells (bytesRow s c) 5 ((bytesRow s c).size, (bytesRow s c).size + 1))).drew w.heap.size s.data.toList := by
  have hg := heap_alloc_new w (.cells (bytesRow s c) 5 ((bytesRow s c).size, (bytesRow s c).size + 1))
  have hz := (RowB.ofBytes s c hc).1
  intro i hi
  have hi2 : i < s.size := by simpa using hi
  rw [hz] at hg
  rw [hz]
  refine ⟨(RowB.ofBytes s c hc).cell hg i hi, ?_⟩
  show (w.alloc _).frozen? _ = _
  unfold World.frozen?
  dsimp only
  rw [hg]
  simp
  omega
/-- The list that spec.l18Seal has behind its loop. -/
theorem sealL_zero (bs : List UInt8) (hl : bs.length = 32) : (bs.set 1 0).set 1 ((256 - sumL (bs.set 1 0) % 256) % 256).toUInt8 = sealL bs := by
  unfold sealL
  rw [List.set_set]
  congr 2
  unfold sealX sumU
  have hs : sumL (bs.set 1 0) + (bs[1]?.getD 0).toNat = sumL bs := by
    match bs, hl with
    | a :: b :: r, _ => simp [sumL]; omega
  have hx := (bs[1]?.getD 0).toNat_lt
  omega
set_option maxHeartbeats 1000000 in
theorem specSeal_any (g : Nat) (cap : Nat) (bs : List UInt8) (w : World) (h : TBk w g bs) (hl : bs.length = 32) :
    Calls Try.prog 19 #[.slice (some ⟨g, 0, none⟩) 32 cap] w fun e w' => e = .returned (.string ⟨(sealL bs).toArray⟩) ∧ TBk w' g (sealL bs) ∧ OnlyB g w w' := by
  obtain ⟨c1, f1⟩ := h 1 (by omega)
  generalize hx : bs[1].toNat = x at c1
  have HT := Lib.hid h; clear h
  have HZ := Lib.hid (sealL_zero bs hl)
  have hz : (bs.set 1 0).length = 32 := by simp [hl]
  go_enter Try.func19, Try.ntmps19
  go_wp2
  have ht1 := TBk.set HT.out 1 0 0 (by decide) (by omega)
  have ho1 : OnlyB g w (w.setCell ⟨g, 1, none⟩ (.int .u8 0)) := ⟨by simp [World.setCell], fun q hq => heap_setCell_ne _ _ _ _ _ hq, (Below.refl g w).setCell (p := ⟨g, 1, none⟩) (Nat.le_refl _) _⟩
  generalize w.setCell ⟨g, 1, none⟩ (.int .u8 0) = W1 at *
  obtain ⟨l, hl1⟩ : ∃ l, bs.set 1 0 = l := ⟨_, rfl⟩
  rw [hl1] at ht1 HZ hz
  clear c1 f1
  go_loop [3, 4] (fun n i => ∃ k : Nat, k ≤ 32 ∧ i = .int .i64 k ∧ ∃ m : Nat, n = .int .u8 m ∧ m < 256 ∧ Hid (m = sumL (l.take k) % 256)) (fun _ i => 32 - (intOf i).toNat)
  case atStart => exact ⟨0, by omega, rfl, 0, rfl, by omega, by unfold Hid; rfl⟩
  case round =>
    obtain ⟨k, hk, rfl, m, rfl, hm, hd⟩ := hrel
    by_cases hlt : k < 32
    · have hx := (l[k]'(by omega)).toNat_lt
      have c1 := (ht1 k (by omega)).1
      have hts := Lib.hid (show l.take (k + 1) = l.take k ++ [l[k]'(by omega)] from List.take_succ_eq_append_getElem (by omega))
      go_wp2
      go_round
      case rel =>
        refine ⟨k + 1, by omega, by go_num, (m + (l[k]'(by omega)).toNat) % 256, ?_, by omega, ?_⟩
        · congr 1
        · unfold Hid; rw [hts.out, sumL_snoc, hd.out]; omega
      case measure => simp [intOf]; omega
    · obtain rfl : k = 32 := by omega
      have e := hd.out
      rw [List.take_of_length_le (by omega)] at e
      obtain ⟨c1, f1⟩ := ht1 1 (by omega)
      have HE := Lib.hid (show (-(m : Int)) % 256 = (((256 - sumL l % 256) % 256).toUInt8.toNat : Int) by rw [byteV9 _ (Nat.mod_lt _ (by omega))]; omega)
      have HT1 := Lib.hid ht1
      have ht2 := TBk.set ht1 1 _ _ HE.out (by omega)
      rw [HZ.out] at ht2
      have hcv := TBk.conv ht2 32 cap (by rw [sealL_len]; exact hl)
      clear ht1
      have HT2 := Lib.hid ht2; clear ht2
      have HO := Lib.hid ho1
      clear e hd
      go_wp2
      go_ret
      refine ⟨rfl, HT2.out, ?_, fun q hq => (heap_setCell_ne _ _ _ _ _ hq).trans (HO.out.2.1 q hq), HO.out.2.2.setCell (p := ⟨g, 1, none⟩) (Nat.le_refl _) _⟩
      simpa [World.setCell] using HO.out.1
theorem specSealBlock_any (s : ByteArray) (w : World) (hs : s.size ≤ 1048576) :
    Calls Try.prog 8 #[.string s] w fun e w' => e = .returned (.string (sealB s)) ∧ Below w.heap.size w w' := by
  by_cases h : s.size = 32
  · have hcv2 := fun w s => run_bytes_of_string (P := Try.prog) w 9 32 5 s Try.underlying9 Try.underlying32 Try.underlying5
    have hne : ((s.size : Int) != 32) = false := by simp; omega
    have hl : s.data.toList.length = 32 := by simp [h]
    have HS := Lib.hid h
    have SE := Lib.hid (fun cap W (ht : TBk W w.heap.size s.data.toList) => specSeal_any w.heap.size cap s.data.toList W ht hl)
    have HN := Lib.hid (bytesBlk w s (grownCap w 32 0 5) (by rw [h]; exact grownCap_ge w 32 0 5))
    go_enter Try.func8, Try.ntmps8
    go_wp2_with (go_at_call 19; refine (SE.out _ _ HN.out).mono ?_; rintro e w2 ⟨rfl, ht2, ho2⟩)
    go_ret
    refine ⟨?_, Below.trans (Below.drew ((Below.refl _ _).alloc (Nat.le_refl _) _)) ho2.2.2⟩
    unfold sealB
    rw [if_pos HS.out]
    rfl
  · have hne : ((s.size : Int) != 32) = true := by simp; omega
    have hz : sealB s = ⟨#[]⟩ := by unfold sealB; rw [if_neg h]
    go_enter Try.func8, Try.ntmps8
    go_wp2
    go_ret
    exact ⟨by rw [hz]; rfl, Below.refl _ _⟩
end Go.Proofs.Yteifmkimhjnjcaa
