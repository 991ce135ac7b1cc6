/- impl.treeBlock: a block of bytes in a box; its sum, its seal. -/
import Derived.Test.YtpgcmgbflcdjiaaRowB
import Derived.Test.YtpgcmgbflcdjiaaSum
import Derived.Test.YtpgcmgbflcdjiaaSpecSum
import Derived.Test.YtpgcmgbflcdjiaaBoxP
import Derived.Deep.DeepCutAuto
import Derived.Deep.RegionLaw
namespace Go.Proofs.Ytpgcmgbflcdjiaa
open Go.RowKit
set_option linter.unusedVariables false
set_option linter.unusedSimpArgs false
set_option maxRecDepth 20000
/-- Bytes lie at a block, and may be written. -/
def TBk (w : World) (b : Nat) (bs : List UInt8) : Prop := ∀ i (h : i < bs.length), w.cell? ⟨b, i, none⟩ = some (.int .u8 (bs[i].toNat : Int)) ∧ w.frozen? ⟨b, i, none⟩ = false
theorem TBk.below {w w' : World} {B b : Nat} {bs : List UInt8} (h : TBk w b bs) (hb : Below B w w') (hp : b < B) : TBk w' b bs := by
  intro i hi
  obtain ⟨h1, h2⟩ := h i hi
  exact ⟨by rw [hb.cell (p := ⟨b, i, none⟩) hp]; exact h1, by rw [hb.frozen (p := ⟨b, i, none⟩) hp]; exact h2⟩
theorem TBk.kept {w w' : World} {b : Nat} {bs : List UInt8} (h : TBk w b bs) (hk : w'.heap[b]? = w.heap[b]?) : TBk w' b bs := by
  intro i hi
  obtain ⟨h1, h2⟩ := h i hi
  refine ⟨by rw [World.cell?_of_block (w := w) hk]; exact h1, ?_⟩
  have : w'.frozen? ⟨b, i, none⟩ = w.frozen? ⟨b, i, none⟩ := by simp [World.frozen?, hk]
  rw [this]; exact h2
theorem TBk.conv {w : World} {b : Nat} {bs : List UInt8} (h : TBk w b bs) (n c : Nat) (hn : bs.length = n) :
    (convert 26 9 (.slice (some ⟨b, 0, none⟩) n c)).run Try.prog w = .ok (.string ⟨bs.toArray⟩) w := by
  subst hn
  refine conv_of _ _ _ _ ?_
  intro j hj
  rw [add0]
  exact (h j hj).1
theorem TBk.set {w : World} {b : Nat} {bs : List UInt8} (h : TBk w b bs) (k : Nat) (x : UInt8) (v : Int) (hv : v = (x.toNat : Int)) (hk : k < bs.length) : TBk (w.setCell ⟨b, k, none⟩ (.int .u8 v)) b (bs.set k x) := by
  subst hv
  intro i hi
  rw [List.length_set] at hi
  obtain ⟨h1, h2⟩ := h i hi
  rw [List.getElem_set]
  by_cases e : k = i
  · subst e
    rw [if_pos rfl]
    exact ⟨World.cell?_setCell_same _ _ _ h1, by rw [World.frozen?_setCell]; exact h2⟩
  · rw [if_neg e]
    exact ⟨by rw [World.cell?_setCell_other (h := fun e' => e (by cases e'; rfl))]; exact h1, by rw [World.frozen?_setCell]; exact h2⟩
/-- The block alone is written. -/
def OnlyB (g : Nat) (w w' : World) : Prop := w'.heap.size = w.heap.size ∧ (∀ q, q ≠ g → w'.heap[q]? = w.heap[q]?) ∧ Below g w w'
def sumU (bs : List UInt8) : Nat := sumL bs % 256
def sealX (bs : List UInt8) : Nat := ((bs[1]?.getD 0).toNat + (256 - sumU bs)) % 256
def sealL (bs : List UInt8) : List UInt8 := bs.set 1 (sealX bs).toUInt8
theorem sealL_len (bs : List UInt8) : (sealL bs).length = bs.length := by unfold sealL; simp
theorem byteV9 (n : Nat) (h : n < 256) : ((n.toUInt8).toNat : Int) = (n : Int) := by
  have : n.toUInt8.toNat = n % 256 := by simp
  omega
theorem sumU_lt (bs : List UInt8) : sumU bs < 256 := Nat.mod_lt _ (by omega)
theorem TBk.lt {w : World} {b : Nat} {bs : List UInt8} (h : TBk w b bs) (hl : 0 < bs.length) : b < w.heap.size := by
  have := (h 0 hl).1
  refine Nat.lt_of_not_le fun hle => ?_
  have hn : w.heap[b]? = none := Array.getElem?_eq_none hle
  simp [World.cell?, hn] at this
end Go.Proofs.Ytpgcmgbflcdjiaa
