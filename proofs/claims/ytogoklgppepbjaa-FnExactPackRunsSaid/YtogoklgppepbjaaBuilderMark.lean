/- strings.Builder's WriteByte and Write, which keep a block that carries a mark (as the row of '[]byte(s)' does). -/
import Derived.Test.YtogoklgppepbjaaBuilderStr
import Derived.Test.YtogoklgppepbjaaBuilderKept
namespace Go.Proofs.Ytogoklgppepbjaa
open Go.RowKit
set_option linter.unusedVariables false
/-- Block k carries a mark. -/
def Marks (w : World) (k : Nat) : Prop := ∃ C T fr, w.heap[k]? = some (.cells C T fr) ∧ fr ≠ (0, 0)
/-- Every block but b and rows of bytes lies as it lay. -/
def MK (b : Nat) (w w' : World) : Prop := w.heap.size ≤ w'.heap.size ∧ ∀ (k : Nat) (o : Obj), w.heap[k]? = some o → k ≠ b → (∀ C, o ≠ .cells C 5 (0, 0)) → w'.heap[k]? = some o
theorem MK.refl (b : Nat) (w : World) : MK b w w := ⟨Nat.le_refl _, fun _ _ h _ _ => h⟩
theorem MK.trans {b : Nat} {x y z : World} (h : MK b x y) (k : MK b y z) : MK b x z := ⟨Nat.le_trans h.1 k.1, fun j o hj hb ho => k.2 j o (h.2 j o hj hb ho) hb ho⟩
theorem MK.alloc {b : Nat} {x y : World} (h : MK b x y) (o : Obj) : MK b x (y.alloc o) := ⟨by rw [World.size_alloc]; have := h.1; omega, fun j o' hj hb ho => by
  have := h.2 j o' hj hb ho
  rw [Below.heap_alloc _ _ _ (Array.getElem?_eq_some_iff.1 this).1]; exact this⟩
theorem MK.setCell {b : Nat} {x y : World} (h : MK b x y) (i : Nat) (v : Value) : MK b x (y.setCell ⟨b, i, none⟩ v) := ⟨by have := h.1; simpa using this, fun j o' hj hb ho => by
  rw [Below.heap_setCell _ _ _ _ hb]; exact h.2 j o' hj hb ho⟩
theorem MK.grown {b B n : Nat} {x y z : World} {v : Value} {xs : List Value} (h : MK b x y) (hr : y.ownsRow B 5 1 v n xs) (hg : y.grownBy z v.ownBlock) : MK b x z := ⟨Nat.le_trans h.1 hg.size, fun j o hj hb ho => by
  have h1 := h.2 j o hj hb ho
  rw [hg.block j (Array.getElem?_eq_some_iff.1 h1).1 ?_]; · exact h1
  intro e
  rcases hr.2 with ⟨rfl, _⟩ | ⟨g, cap, cur, rfl, hB, hh, r⟩
  · simp [Value.ownBlock] at e
  · have e2 : g = j := by simpa [Value.ownBlock] using e.symm
    subst e2
    rw [hh] at h1
    exact ho _ (Option.some.inj h1).symm⟩
theorem MK.marks {b k : Nat} {x y : World} (h : MK b x y) (hm : Marks x k) (hk : k ≠ b) : y.heap[k]? = x.heap[k]? := by
  obtain ⟨C, T, fr, h1, h2⟩ := hm
  rw [h1]
  exact h.2 k _ h1 hk (fun C' e => h2 (by injection e))
theorem copyCheckM_any (B b : Nat) (l : List UInt8) (w : World) (h : Bld B b l w) :
    Calls Try.prog 90 #[.pointer (some ⟨b, 0, none⟩)] w fun e w' => e = .returned (.tuple #[]) ∧ (Lib.BuilderAt 89 5 B b (.pointer (some ⟨b, 0, none⟩)) (Lib.byteCells l) w' ∧ Below B w w' ∧ MK b w w') := by
  rcases h with h | h
  · refine (copyCheck_fresh b w h.cell0 h.shape h.frozen0).mono ?_
    rintro e w' ⟨rfl, rfl⟩
    exact ⟨rfl, h.used _, (Below.refl B w).setCell (p := ⟨b, 0, none⟩) h.1 _, (MK.refl b w).setCell 0 _⟩
  · refine (copyCheck_used b w h.cell0).mono ?_
    rintro e w' ⟨rfl, rfl⟩
    exact ⟨rfl, h, Below.refl B _, MK.refl _ _⟩
theorem own_notMark {w : World} {B k n : Nat} {v : Value} {xs : List Value} (h : w.ownsRow B 5 1 v n xs) (hm : Marks w k) : v.ownBlock ≠ some k := by
  intro e
  obtain ⟨C, T, fr, h1, h2⟩ := hm
  rcases h.2 with ⟨rfl, _⟩ | ⟨g, cap, cur, rfl, hg, hh, r⟩
  · simp [Value.ownBlock] at e
  · have e2 : g = k := by simpa [Value.ownBlock] using e
    subst e2
    rw [hh] at h1
    simp at h1
    exact h2 h1.2.2.symm
set_option maxHeartbeats 2000000 in
theorem writeM_any (B b k : Nat) (l cs : List UInt8) (off c : Nat) (w : World) (h : Bld B b l w) (hcs : 0 < cs.length) (hl : l.length + cs.length < 2147483648) (hBw : B ≤ w.heap.size) (hm : Marks w k) (hkb : k ≠ b)
    (hc : ∀ j u, (Lib.byteCells cs)[j]? = some u → w.cell? ⟨k, off + j, none⟩ = some u) :
    Calls Try.prog 89 #[.pointer (some ⟨b, 0, none⟩), .slice (some ⟨k, off, none⟩) cs.length c] w fun e w' => e = .returned (.tuple #[.int .i64 cs.length, .nilIface]) ∧ (Bld B b (l ++ cs) w' ∧ Below B w w' ∧ MK b w w') := by
  obtain ⟨i0, hi, hz0, hz1, hz2⟩ := info_parts u8info
  go_enter Try.func89, Try.ntmps89
  go_wp2_with (go_at_call 90; refine (copyCheckM_any B b l _ h).mono ?_)
  rintro e w1 ⟨rfl, hat, hb1, hmk⟩
  have hk1 := hmk.marks hm hkb
  obtain ⟨hB, v, hbk, hown0, hne⟩ := hat
  have hlt : b < w1.heap.size := (Array.getElem?_eq_some_iff.1 hbk).1
  have hsz := hb1.size
  have hlen0 : (Lib.byteCells l).length = l.length := Lib.byteCells_length l
  rw [hlen0] at hown0
  have hm1 : Marks w1 k := by obtain ⟨C, T, fr, h1, h2⟩ := hm; exact ⟨C, T, fr, by rw [hk1]; exact h1, h2⟩
  have hc1 : ∀ j u, (Lib.byteCells cs)[j]? = some u → w1.cell? ((⟨k, off, none⟩ : Addr).add j) = some u := fun j u hu => by
    rw [show (⟨k, off, none⟩ : Addr).add j = ⟨k, off + j, none⟩ by cases j <;> rfl, World.cell?_of_block (a := ⟨k, off + j, none⟩) hk1]
    exact hc j u hu
  have hnk := own_notMark hown0 hm1
  have hkl : k < w1.heap.size := by obtain ⟨C, T, fr, h1, _⟩ := hm1; exact (Array.getElem?_eq_some_iff.1 h1).1
  have c0 : w1.cell? ⟨b, 0, none⟩ = some (.pointer (some ⟨b, 0, none⟩)) := by rw [Lib.cell_of_heap hbk]; rfl
  have c1 : w1.cell? ⟨b, 1, none⟩ = some v := by rw [Lib.cell_of_heap hbk]; rfl
  have HB := Lib.hid (And.intro hbk hlen0); clear hbk hlen0
  go_wp2_with (at_builtin; refine wpList_append_lies w1 rfl _ _ 65 rfl B 5 i0 (.int .u8 0) 1 1 Try.underlying65 hi hz0 hz1 hz2 rfl (by decide) v l.length (Lib.byteCells l) rfl hown0 ⟨k, off, none⟩ cs.length c (Lib.byteCells cs) rfl (by rw [Lib.byteCells_length]; omega) hc1 (Lib.byteCells_one cs) hcs (by unfold maxLen; omega) (by omega) (by omega) _ rfl ?_)
  intro g cap w2 hown' hgrow h4 _
  have hbk2 : w2.heap[b]? = some (.cells #[.pointer (some ⟨b, 0, none⟩), v] 89 (0, 0)) := by
    rw [hgrow.block b hlt (fun e => hne e.symm)]
    exact HB.out.1
  have hk2 : MK b w w2 := hmk.grown hown0 hgrow
  have d0 : w2.cell? ⟨b, 0, none⟩ = some (.pointer (some ⟨b, 0, none⟩)) := by rw [Lib.cell_of_heap hbk2]; rfl
  have d1 : w2.cell? ⟨b, 1, none⟩ = some v := by rw [Lib.cell_of_heap hbk2]; rfl
  have f1 : w2.frozen? ⟨b, 1, none⟩ = false := Lib.frozen_of_heap hbk2 1
  have HB2 := Lib.hid hbk2; clear hbk2
  have HO := Lib.hid (And.intro hown' (And.intro hown0 (And.intro hgrow hk2))); clear hown' hown0 hgrow hk2 hc1 hc hnk hmk
  go_wp2
  go_ret2
  refine ⟨rfl, ?_, ?_, ?_⟩
  · right
    have e1 : Lib.byteCells (l ++ cs) = Lib.byteCells l ++ Lib.byteCells cs := Lib.byteCells_append l cs
    have e2 : (Lib.byteCells (l ++ cs)).length = l.length + cs.length := by rw [Lib.byteCells_length, List.length_append]
    refine Lib.BuilderAt.put (T := 89) (e := 5) hB HB2.out (bs' := Lib.byteCells (l ++ cs)) ?_ (by decide)
    rw [e2, e1]; exact HO.out.1
  · exact (hb1.grown HO.out.2.2.1 (by omega) (fun k hk => (HO.out.2.1.lt k hk).1)).setCell (p := ⟨b, 1, none⟩) hB _
  · exact HO.out.2.2.2.setCell 1 _
set_option maxHeartbeats 1000000 in
theorem writeByteM_any (B b : Nat) (l : List UInt8) (c : Int) (w : World) (h0 : 0 ≤ c) (h1 : c < 256) (h : Bld B b l w) (hl : l.length < 2147483648) (hBw : B ≤ w.heap.size) :
    Calls Try.prog 75 #[.pointer (some ⟨b, 0, none⟩), .int .u8 c] w fun e w' => e = .returned .nilIface ∧ (Bld B b (l ++ [c.toNat.toUInt8]) w' ∧ Below B w w' ∧ MK b w w') := by
  go_enter Try.func75, Try.ntmps75
  go_wp2_with (go_at_call 90; refine (copyCheckM_any B b l _ h).mono ?_)
  rintro e w1 ⟨rfl, hat, hb1, hk1⟩
  obtain ⟨hB, v, hbk, hown0, hne⟩ := hat
  have hown : OwnB w1 B v l := by unfold OwnB; rw [← Lib.byteCells_length]; exact hown0
  have hlt : b < w1.heap.size := (Array.getElem?_eq_some_iff.1 hbk).1
  have c0 : w1.cell? ⟨b, 0, none⟩ = some (.pointer (some ⟨b, 0, none⟩)) := by rw [Lib.cell_of_heap hbk]; rfl
  have c1 : w1.cell? ⟨b, 1, none⟩ = some v := by rw [Lib.cell_of_heap hbk]; rfl
  have hsz := hb1.size
  go_wp2_with (at_builtin; refine wpList_appendB rfl _ _ rfl rfl (hown.alloc _) c h0 h1 ⟨w1.heap.size, 0, none⟩ 1 rfl ?c1 hl ?c2 ?_)
  case c1 => exact World.news_of_block (cs := #[.int .u8 c]) (t := 5) (fr := (0, 0)) (heap_alloc_new w1 _)
  case c2 => simp; omega
  intro g cap w2 hown2 hgrow hb2 hat2
  have hk2 : MK b w w2 := (hk1.alloc (.cells #[.int .u8 c] 5)).grown (hown.alloc (.cells #[.int .u8 c] 5)) hgrow
  have hbk2 : w2.heap[b]? = some (.cells #[.pointer (some ⟨b, 0, none⟩), v] 89 (0, 0)) := by
    rw [hgrow.block b (by simp; omega) (fun e => hne e.symm), Lib.alloc_old w1 _ b hlt]
    exact hbk
  have d0 : w2.cell? ⟨b, 0, none⟩ = some (.pointer (some ⟨b, 0, none⟩)) := by rw [Lib.cell_of_heap hbk2]; rfl
  have d1 : w2.cell? ⟨b, 1, none⟩ = some v := by rw [Lib.cell_of_heap hbk2]; rfl
  have f1 : w2.frozen? ⟨b, 1, none⟩ = false := Lib.frozen_of_heap hbk2 1
  go_wp2
  go_ret
  refine ⟨rfl, ?_, ?_, ?_⟩
  · right
    have hlen : (Lib.byteCells (l ++ [c.toNat.toUInt8])).length = l.length + 1 := by rw [Lib.byteCells_length]; simp
    refine Lib.BuilderAt.put (T := 89) (e := 5) hB hbk2 (bs' := Lib.byteCells (l ++ [c.toNat.toUInt8])) ?_ (by decide)
    unfold OwnB at hown2
    rw [hlen]
    simpa using hown2
  · exact ((hb1.alloc (by omega) _).trans hb2).setCell (p := ⟨b, 1, none⟩) hB _
  · exact hk2.setCell 1 _
end Go.Proofs.Ytogoklgppepbjaa
