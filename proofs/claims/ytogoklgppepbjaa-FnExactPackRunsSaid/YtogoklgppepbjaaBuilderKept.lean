/- strings.Builder's WriteByte, with the frame that reaches above the builder. -/
import Derived.Test.YtogoklgppepbjaaBuilder
import Derived.Lib.OthersKept
import Derived.RangeFuncNested
import Derived.Laws.AppendOwn
namespace Go.Proofs.Ytogoklgppepbjaa
open Go.RowKit
set_option linter.unusedVariables false
theorem copyCheckK_any (B b : Nat) (l : List UInt8) (w : World) (h : Bld B b l w) :
    Calls Try.prog 90 #[.pointer (some ⟨b, 0, none⟩)] w fun e w' => e = .returned (.tuple #[]) ∧ (Lib.BuilderAt 89 5 B b (.pointer (some ⟨b, 0, none⟩)) (Lib.byteCells l) w' ∧ Below B w w' ∧ Lib.OthersKept 5 (some b) w w') := by
  rcases h with h | h
  · refine (copyCheck_fresh b w h.cell0 h.shape h.frozen0).mono ?_
    rintro e w' ⟨rfl, rfl⟩
    exact ⟨rfl, h.used _, (Below.refl B w).setCell (p := ⟨b, 0, none⟩) h.1 _, (Lib.OthersKept.refl _ _ w).setCell ⟨b, 0, none⟩ rfl _⟩
  · refine (copyCheck_used b w h.cell0).mono ?_
    rintro e w' ⟨rfl, rfl⟩
    exact ⟨rfl, h, Below.refl B _, Lib.OthersKept.refl _ _ _⟩
set_option maxHeartbeats 1000000 in
theorem writeByteK_any (B b : Nat) (l : List UInt8) (c : Int) (w : World) (h0 : 0 ≤ c) (h1 : c < 256) (h : Bld B b l w) (hl : l.length < 2147483648) (hBw : B ≤ w.heap.size) :
    Calls Try.prog 75 #[.pointer (some ⟨b, 0, none⟩), .int .u8 c] w fun e w' => e = .returned .nilIface ∧ (Bld B b (l ++ [c.toNat.toUInt8]) w' ∧ Below B w w' ∧ Lib.OthersKept 5 (some b) w w') := by
  go_enter Try.func75, Try.ntmps75
  go_wp2_with (go_at_call 90; refine (copyCheckK_any B b l _ h).mono ?_)
  rintro e w1 ⟨rfl, hat, hb1, hk1⟩
  obtain ⟨hB, v, hbk, hown0, hne⟩ := hat
  have hown : OwnB w1 B v l := by unfold OwnB; rw [← Lib.byteCells_length]; exact hown0
  have hlt : b < w1.heap.size := (Array.getElem?_eq_some_iff.1 hbk).1
  have c0 : w1.cell? ⟨b, 0, none⟩ = some (.pointer (some ⟨b, 0, none⟩)) := by rw [Lib.cell_of_heap hbk]; rfl
  have c1 : w1.cell? ⟨b, 1, none⟩ = some v := by rw [Lib.cell_of_heap hbk]; rfl
  have hsz := hb1.size
  go_wp2_with (at_builtin; refine wpList_appendB rfl _ _ rfl rfl (hown.alloc _) c h0 h1 ⟨w1.heap.size, 0, none⟩ 1 rfl ?c1 hl ?c2 ?_)
  case c1 => exact World.news_of_block (cs := #[.int .u8 c]) (t := 5) (fr := (0, 0)) (heap_alloc_new w1 _)
  case c2 => simp; omega
  intro g cap w2 hown2 hgrow hb2 hat2
  have hk2 : Lib.OthersKept 5 (some b) w w2 := (hk1.alloc (.cells #[.int .u8 c] 5)).grown hgrow (Lib.ownsRowF_kind (World.ownsRowF_of (hown.alloc (.cells #[.int .u8 c] 5))))
  have hbk2 : w2.heap[b]? = some (.cells #[.pointer (some ⟨b, 0, none⟩), v] 89 (0, 0)) := by
    rw [hgrow.block b (by simp; omega) (fun e => hne e.symm), Lib.alloc_old w1 _ b hlt]
    exact hbk
  have d0 : w2.cell? ⟨b, 0, none⟩ = some (.pointer (some ⟨b, 0, none⟩)) := by rw [Lib.cell_of_heap hbk2]; rfl
  have d1 : w2.cell? ⟨b, 1, none⟩ = some v := by rw [Lib.cell_of_heap hbk2]; rfl
  have f1 : w2.frozen? ⟨b, 1, none⟩ = false := Lib.frozen_of_heap hbk2 1
  go_wp2
  go_ret
  refine ⟨rfl, ?_, ?_, ?_⟩
  · right
    have hlen : (Lib.byteCells (l ++ [c.toNat.toUInt8])).length = l.length + 1 := by rw [Lib.byteCells_length]; simp
    refine Lib.BuilderAt.put (T := 89) (e := 5) hB hbk2 (bs' := Lib.byteCells (l ++ [c.toNat.toUInt8])) ?_ (by decide)
    unfold OwnB at hown2
    rw [hlen]
    simpa using hown2
  · exact ((hb1.alloc (by omega) _).trans hb2).setCell (p := ⟨b, 1, none⟩) hB _
  · exact hk2.setCell ⟨b, 1, none⟩ rfl _
/-- A builder lies on wherever all cells lie on. -/
theorem Bld.own {β : Type} (B b : Nat) (l : β → List UInt8) (F : Nat) : OwnFrom F (fun s W => Bld B b (l s) W) := by
  intro s W W' row hs hg hr
  have key : ∀ p, Lib.BuilderAt 89 5 B b p (Lib.byteCells (l s)) W → Lib.BuilderAt 89 5 B b p (Lib.byteCells (l s)) W' := by
    rintro p ⟨h1, v, h2, h3, h4⟩
    refine ⟨h1, v, ?_, ?_, h4⟩
    · exact (grownBy_keeps_cells hg (fun r e => (hr r e).2) h2 rfl).trans h2
    · refine ⟨h3.1, ?_⟩
      rcases h3.2 with h5 | ⟨g, cap, cur, h5, h6, h7, r⟩
      · exact .inl h5
      · exact .inr ⟨g, cap, cur, h5, h6, (grownBy_keeps_cells hg (fun r e => (hr r e).2) h7 rfl).trans h7, r⟩
  rcases hs with h | h
  · exact .inl (key _ h)
  · exact .inr (key _ h)
end Go.Proofs.Ytogoklgppepbjaa
