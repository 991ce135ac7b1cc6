/- '[]byte' to 'string' and back; a row of bytes that the call owns. -/
import Derived.Test.YteldnfamfjldpabBase
import Derived.Laws.IdiomStrings
import Derived.OwnWalk
import Derived.Maps.AppendAt
import Derived.Lib.UnsafeStr
import Derived.Lib.BufferWrite
namespace Go.Proofs.Yteldnfamfjldpab
open Go.RowKit

theorem u8info : (Try.prog.info? 5).map (fun i => (i.zero, i.size, i.bytes)) = some (some (.int .u8 0), 1, 1) := by kernel_rfl

/-- 'string(b)' of a slice of bytes whose cells are l. -/
theorem conv_of (W : World) (a : Addr) (cap : Nat) (l : List UInt8) (hc : ∀ j (hj : j < l.length), W.cell? (a.add j) = some (.int .u8 (l[j].toNat : Int))) :
    (convert 53 9 (.slice (some a) l.length cap)).run Try.prog W = .ok (.string ⟨l.toArray⟩) W :=
  run_convert_bytes_back W 53 9 5 a cap l Try.underlying53 Try.underlying5 Try.underlying9 hc

theorem add0 (b j : Nat) : ((⟨b, 0, none⟩ : Addr).add j) = ⟨b, j, none⟩ := by
  simp [Addr.add]
  intro h; exact h.symm

theorem conv_new2 (W : World) (x y : Int) (h1 : 0 ≤ x) (h2 : x < 256) (h3 : 0 ≤ y) (h4 : y < 256) :
    (convert 53 9 (.slice (some ⟨W.heap.size, 0, none⟩) 2 2)).run Try.prog (W.alloc (.cells #[.int .u8 x, .int .u8 y] 5)) = .ok (.string ⟨#[x.toNat.toUInt8, y.toNat.toUInt8]⟩) (W.alloc (.cells #[.int .u8 x, .int .u8 y] 5)) := by
  refine conv_of _ _ 2 [x.toNat.toUInt8, y.toNat.toUInt8] ?_
  intro j hj
  have e := add0 W.heap.size j
  have hx : x.toNat % 256 = x.toNat := Nat.mod_eq_of_lt (by omega)
  have hy : y.toNat % 256 = y.toNat := Nat.mod_eq_of_lt (by omega)
  match j, hj with
  | 0, _ => rw [e]; simp [go_sem, hx]; omega
  | 1, _ => rw [e]; simp [go_sem, hy]; omega
  | j + 2, hj => simp at hj; omega

/-- v is a slice of bytes of the call's own, with the bytes l. -/
def OwnB (w : World) (B : Nat) (v : Value) (l : List UInt8) : Prop := w.ownsRow B 5 1 v l.length (Lib.byteCells l)

theorem conv_own {w : World} {B : Nat} {v : Value} {l : List UInt8} (h : OwnB w B v l) : (convert 53 9 v).run Try.prog w = .ok (.string ⟨l.toArray⟩) w := by
  obtain ⟨h1, h2⟩ := h
  rcases h2 with ⟨rfl, hl⟩ | ⟨g, cap, cur, rfl, hg, hh, hn, hm, hs, ht⟩
  · have e : l = [] := List.length_eq_zero_iff.1 hl
    subst e
    rw [run_convert_bytes_string w _ _ _ none 0 0 Try.underlying53 Try.underlying5 Try.underlying9]
    rfl
  · refine conv_of _ _ cap l ?_
    intro j hj
    have e := add0 g j
    have hc : cur[j]? = some (.int .u8 (l[j].toNat : Int)) := by
      have h3 : (cur.toList.take (l.length * 1))[j]? = (Lib.byteCells l)[j]? := by rw [ht]
      rw [List.getElem?_take_of_lt (by omega)] at h3
      simpa [Lib.byteCells, hj] using h3
    rw [e]
    simp [World.cell?, hh, hc]

theorem OwnB.nil (w : World) (B : Nat) (hB : B ≤ w.heap.size) : OwnB (w.alloc (.cells #[] 5)) B (.slice (some ⟨w.heap.size, 0, none⟩) 0 0) [] := by
  refine ⟨rfl, .inr ⟨w.heap.size, 0, #[], rfl, hB, ?_, Nat.le_refl _, by simp [maxLen], rfl, rfl⟩⟩
  show (w.heap.push _)[w.heap.size]? = _
  simp

theorem OwnB.snoc {w : World} {B : Nat} {v : Value} {l : List UInt8} {x : Int} (h1 : 0 ≤ x) (h2 : x < 256)
    (h : w.ownsRow B 5 1 v (l.length + 1) (Lib.byteCells l ++ [.int .u8 x])) : OwnB w B v (l ++ [x.toNat.toUInt8]) := by
  have e : Lib.byteCells (l ++ [x.toNat.toUInt8]) = Lib.byteCells l ++ [.int .u8 x] := by
    rw [Lib.byteCells_append]
    have hx : x.toNat % 256 = x.toNat := Nat.mod_eq_of_lt (by omega)
    simp [Lib.byteCells, hx]; omega
  unfold OwnB
  rw [e]
  simpa using h
end Go.Proofs.Yteldnfamfjldpab
