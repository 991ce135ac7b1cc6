/- impl.SealBlock -/
import Derived.Test.YtpgcmgbflcdjiaaTreeBlk
import Derived.Deep.MidRow
import Derived.Laws.Tables
namespace Go.Proofs.Ytpgcmgbflcdjiaa
open Go.RowKit
set_option linter.unusedVariables false
set_option linter.unusedSimpArgs false
set_option maxRecDepth 20000
def sealB (s : ByteArray) : ByteArray := if s.size = 32 then ⟨(sealL s.data.toList).toArray⟩ else ⟨#[]⟩
theorem TBk.new {w : World} {g : Nat} {cs : Array Value} {T : TypeId} {bs : List UInt8} (hg : w.heap[g]? = some (.cells cs T (0, 0))) (hc : cs = (Lib.byteCells bs).toArray) : TBk w g bs := by
  subst hc
  intro i hi
  refine ⟨?_, by simp [World.frozen?, hg]⟩
  simp [World.cell?, hg, Lib.byteCells, hi]
theorem TBk.range {w : World} {g : Nat} {bs : List UInt8} (h : TBk w g bs) : w.rangeAt g 0 (Lib.byteCells bs) := by
  intro j v hv
  have hj : j < bs.length := by
    have := (List.getElem?_eq_some_iff.1 hv).1
    simpa [Lib.byteCells] using this
  have e : (Lib.byteCells bs)[j]? = some (.int .u8 (bs[j].toNat : Int)) := by simp [Lib.byteCells, hj]
  rw [e] at hv
  cases hv
  rw [Nat.zero_add]
  exact (h j hj).1
theorem rangeBytes (w : World) (g : Nat) (s : ByteArray) (cap : Nat) (T : TypeId) (fr : Nat × Nat) (hg : w.heap[g]? = some (.cells (bytesRow s cap) T fr)) : w.rangeAt g 0 (Lib.byteCells s.data.toList) := by
  intro j v hv
  have hj : j < s.size := by
    have := (List.getElem?_eq_some_iff.1 hv).1
    simpa [Lib.byteCells] using this
  have e : (Lib.byteCells s.data.toList)[j]? = some (.int .u8 (s[j].toNat : Int)) := by simp [Lib.byteCells, hj]; rfl
  rw [e] at hv
  cases hv
  rw [Nat.zero_add]
  simp [World.cell?, hg, bytesRow_at s cap j hj]
  rfl
theorem belowRow {B g : Nat} {a w : World} {cs : Array Value} (hb : Below B a w) (hg : B ≤ g) : Below B a (w.setRow g cs) := by
  refine ⟨hb.os, hb.tape, hb.output, by simpa [World.setRow] using hb.size, fun i hi => ?_⟩
  rw [setRow_other w g i cs (by omega)]
  exact hb.block i hi
theorem bytesBlk (w : World) (s : ByteArray) (c : Nat) (hc : s.size ≤ c) : TBk (w.alloc (.cells (bytesRow s c) 5 ((bytesRow s c).size, (bytesRow s c).size + 1))).drew w.heap.size s.data.toList := by
  have hg := heap_alloc_new w (.cells (bytesRow s c) 5 ((bytesRow s c).size, (bytesRow s c).size + 1))
  have hz := (RowB.ofBytes s c hc).1
  intro i hi
  have hi2 : i < s.size := by simpa using hi
  rw [hz] at hg
  rw [hz]
  refine ⟨(RowB.ofBytes s c hc).cell hg i hi, ?_⟩
  show (w.alloc _).frozen? _ = _
  unfold World.frozen?
  dsimp only
  rw [hg]
  simp
  omega
/-- The list that spec.l18Seal has behind its loop. -/
theorem sealL_zero (bs : List UInt8) (hl : bs.length = 32) : (bs.set 1 0).set 1 ((256 - sumL (bs.set 1 0) % 256) % 256).toUInt8 = sealL bs := by
  unfold sealL
  rw [List.set_set]
  congr 2
  unfold sealX sumU
  have hs : sumL (bs.set 1 0) + (bs[1]?.getD 0).toNat = sumL bs := by
    match bs, hl with
    | a :: b :: r, _ => simp [sumL]; omega
  have hx := (bs[1]?.getD 0).toNat_lt
  omega
end Go.Proofs.Ytpgcmgbflcdjiaa
