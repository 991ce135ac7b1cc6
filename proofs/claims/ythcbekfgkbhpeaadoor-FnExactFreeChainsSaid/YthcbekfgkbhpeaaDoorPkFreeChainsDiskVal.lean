/- Disks as lists of blocks: what makes a list of blocks a disk, texts that are filled up, headers of disks with extents. -/
import Derived.Test.YthcbekfgkbhpeaaDoorPkFreeChainsRevOk
import Derived.Test.YthcbekfgkbhpeaaDoorPkFreeChainsRecExtentLayout
namespace Go.Proofs.YthcbekfgkbhpeaaDoor
open Go.RowKit
set_option maxRecDepth 20000
set_option linter.unusedVariables false
/-- s, and the same byte behind it up to n bytes. -/
def padB (s : ByteArray) (n : Nat) (c : UInt8) : ByteArray := s ++ ⟨(List.replicate (n - s.size) c).toArray⟩
theorem padB_size {s : ByteArray} {n : Nat} {c : UInt8} (h : s.size ≤ n) : (padB s n c).size = n := by
  unfold padB
  rw [ByteArray.size_append]
  show s.size + (List.replicate (n - s.size) c).toArray.size = n
  simp
  omega
def sizeB (n : Nat) : Bool := decide (n = 8) || (decide (n = 16) || decide (n = 32))
theorem sizeB_iff {n : Nat} : sizeB n = true ↔ n = 8 ∨ n = 16 ∨ n = 32 := by unfold sizeB; simp
def sizeI (n : Int) : Bool := decide (n = 8) || (decide (n = 16) || decide (n = 32))
theorem sizeI_iff {n : Int} : sizeI n = true ↔ n = 8 ∨ n = 16 ∨ n = 32 := by unfold sizeI; simp
theorem sizeI_nat (n : Nat) : sizeI (n : Int) = sizeB n := by
  apply Bool.eq_iff_iff.2
  rw [sizeI_iff, sizeB_iff]
  omega
/-- A list of 8 to 128 blocks of the same size, 8, 16 or 32 bytes. -/
def diskB (es : List StringV) : Bool := inB 8 128 es.length && (allLen (len0 es) es && sizeB (len0 es))
theorem diskB_facts {es : List StringV} (h : diskB es = true) : (8 ≤ es.length ∧ es.length ≤ 128) ∧ (∀ e ∈ es, e.f0.size = len0 es) ∧ (len0 es = 8 ∨ len0 es = 16 ∨ len0 es = 32) := by
  unfold diskB allLen at h
  simp only [Bool.and_eq_true, inB_iff, List.all_eq_true, decide_eq_true_eq, sizeB_iff] at h
  obtain ⟨h1, h2, h3⟩ := h
  exact ⟨by omega, h2, h3⟩
def blkAt (es : List StringV) (k : Nat) : ByteArray := ((es[k]?).map (fun e => e.f0)).getD ByteArray.empty
theorem blkAt_of {es : List StringV} {k : Nat} {e : StringV} (h : es[k]? = some e) : blkAt es k = e.f0 := by unfold blkAt; rw [h]; rfl
/-- The first block of a disk with extents of n blocks of z bytes. -/
def exHead (n z : Nat) : ByteArray := padB ⟨#[69, 88, n.toUInt8, z.toUInt8, (n / 4).toUInt8]⟩ z 0
def exData (n z : Nat) : Nat := 1 + (n / 4 * 16 + z - 1) / z
def exOn (es : List StringV) : Bool := diskB es && decide (blkAt es 0 = exHead es.length (len0 es))
theorem exOn_facts {es : List StringV} (h : exOn es = true) : diskB es = true ∧ blkAt es 0 = exHead es.length (len0 es) := by
  unfold exOn at h
  simpa using h
def exC (es : List StringV) : Int := if exOn es = true then 0 else 7
def exL (es : List StringV) : ExtentLayoutV := if exOn es = true then ⟨(es.length : Int), (len0 es : Int), ((es.length / 4 : Nat) : Int), (exData es.length (len0 es) : Int)⟩ else ⟨0, 0, 0, 0⟩
theorem exHead_size {n z : Nat} (h : z = 8 ∨ z = 16 ∨ z = 32) : (exHead n z).size = z := by
  unfold exHead
  apply padB_size
  show 5 ≤ z
  omega
theorem padB_empty (n : Nat) : padB ⟨#[]⟩ n 0 = ⟨(List.replicate n (0 : UInt8)).toArray⟩ := by
  unfold padB
  apply ByteArray.ext
  rw [show (⟨#[]⟩ : ByteArray).size = 0 from rfl]
  simp
/-- n blocks of z zero bytes, but for the first one. -/
def blankL (n z : Nat) (h : ByteArray) : List StringV := (⟨h⟩ : StringV) :: List.replicate (n - 1) ⟨⟨(List.replicate z (0 : UInt8)).toArray⟩⟩
theorem blankL_len {n z : Nat} {h : ByteArray} (hn : 1 ≤ n) : (blankL n z h).length = n := by unfold blankL; simp; omega
theorem blankL_set {n z : Nat} {h : ByteArray} (hn : 1 ≤ n) : (List.replicate n (⟨⟨(List.replicate z (0 : UInt8)).toArray⟩⟩ : StringV)).set 0 ⟨h⟩ = blankL n z h := by
  obtain ⟨k, rfl⟩ : ∃ k, n = k + 1 := ⟨n - 1, by omega⟩
  unfold blankL
  simp [List.replicate_succ]
theorem blankL_snoc {z k : Nat} {h : ByteArray} (hk : 1 ≤ k) : blankL (k + 1) z h = blankL k z h ++ [⟨⟨(List.replicate z (0 : UInt8)).toArray⟩⟩] := by
  obtain ⟨j, rfl⟩ : ∃ j, k = j + 1 := ⟨k - 1, by omega⟩
  unfold blankL
  rw [show j + 1 + 1 - 1 = j + 1 from rfl, show j + 1 - 1 = j from rfl, List.replicate_succ']
  rfl
/-- The answer of FormatExtents. -/
def fxC (n z : Int) : Int := if inB 8 128 n = true then (if sizeI z = true then 0 else 1) else 2
def fxL (n z : Int) : List StringV := if fxC n z = 0 then blankL n.toNat z.toNat (exHead n.toNat z.toNat) else []
theorem fxL_len (n z : Int) : (fxL n z).length ≤ 1048576 := by
  unfold fxL
  split
  case isTrue h =>
    unfold fxC at h
    split at h
    case isFalse => omega
    rename_i hn
    have := inB_iff.1 hn
    rw [blankL_len (by omega)]
    omega
  case isFalse => simp
end Go.Proofs.YthcbekfgkbhpeaaDoor
