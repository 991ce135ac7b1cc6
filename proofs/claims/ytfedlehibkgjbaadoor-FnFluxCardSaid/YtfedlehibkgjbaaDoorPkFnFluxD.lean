/- '[]byte' to 'string' and back; a row of bytes that the call owns. -/
import Derived.Test.YtfedlehibkgjbaaDoorPkFnFluxA
import Derived.Laws.IdiomStrings
import Derived.OwnWalk
import Derived.Maps.AppendAt
import Derived.Lib.UnsafeStr
import Derived.Lib.BufferWrite
import Derived.Deep.AppendLies
import Derived.Deep.RegionHeld3
import Derived.Test.YtfedlehibkgjbaaDoorPkFnFluxC
import Derived.Test.YtfedlehibkgjbaaDoorPkFnFluxB
import Derived.Laws.RangeAny
import Derived.Laws.RangeString
import Derived.BigRegion
import Derived.Test.YtfedlehibkgjbaaDoorShelf
import Derived.Deep.RegionWith
import Derived.IntWalk
section
set_option linter.unusedVariables false
namespace Go.Proofs.YtfedlehibkgjbaaDoor
open Go.RowKit

theorem u8info : (Tryd.prog.info? 5).map (fun i => (i.zero, i.size, i.bytes)) = some (some (.int .u8 0), 1, 1) := by kernel_rfl

/-- 'string(b)' of a slice of bytes whose cells are l. -/
theorem conv_of (W : World) (a : Addr) (cap : Nat) (l : List UInt8) (hc : ∀ j (hj : j < l.length), W.cell? (a.add j) = some (.int .u8 (l[j].toNat : Int))) :
    (convert 30 9 (.slice (some a) l.length cap)).run Tryd.prog W = .ok (.string ⟨l.toArray⟩) W :=
  run_convert_bytes_back W 30 9 5 a cap l Tryd.underlying30 Tryd.underlying5 Tryd.underlying9 hc

theorem heap_set_marked (w : World) (g i : Nat) (cs : Array Value) (t : TypeId) (fr : Nat × Nat) (v : Value) (hg : w.heap[g]? = some (.cells cs t fr)) :
    (w.setCell ⟨g, i, none⟩ v).heap[g]? = some (.cells (cs.setIfInBounds i v) t fr) := by
  simp [World.setCell, Array.getElem?_modify, hg]
theorem add0 (b j : Nat) : ((⟨b, 0, none⟩ : Addr).add j) = ⟨b, j, none⟩ := by
  simp [Addr.add]
  intro h; exact h.symm

theorem conv_new2 (W : World) (x y : Int) (h1 : 0 ≤ x) (h2 : x < 256) (h3 : 0 ≤ y) (h4 : y < 256) :
    (convert 30 9 (.slice (some ⟨W.heap.size, 0, none⟩) 2 2)).run Tryd.prog (W.alloc (.cells #[.int .u8 x, .int .u8 y] 5)) = .ok (.string ⟨#[x.toNat.toUInt8, y.toNat.toUInt8]⟩) (W.alloc (.cells #[.int .u8 x, .int .u8 y] 5)) := by
  refine conv_of _ _ 2 [x.toNat.toUInt8, y.toNat.toUInt8] ?_
  intro j hj
  have e := add0 W.heap.size j
  have hx : x.toNat % 256 = x.toNat := Nat.mod_eq_of_lt (by omega)
  have hy : y.toNat % 256 = y.toNat := Nat.mod_eq_of_lt (by omega)
  match j, hj with
  | 0, _ => rw [e]; simp [go_sem, hx]; omega
  | 1, _ => rw [e]; simp [go_sem, hy]; omega
  | j + 2, hj => simp at hj; omega

/-- v is a slice of bytes of the call's own, with the bytes l. -/
def OwnB (w : World) (B : Nat) (v : Value) (l : List UInt8) : Prop := w.ownsRow B 5 1 v l.length (Lib.byteCells l)

theorem conv_own {w : World} {B : Nat} {v : Value} {l : List UInt8} (h : OwnB w B v l) : (convert 30 9 v).run Tryd.prog w = .ok (.string ⟨l.toArray⟩) w := by
  obtain ⟨h1, h2⟩ := h
  rcases h2 with ⟨rfl, hl⟩ | ⟨g, cap, cur, rfl, hg, hh, hn, hm, hs, ht⟩
  · have e : l = [] := List.length_eq_zero_iff.1 hl
    subst e
    rw [run_convert_bytes_string w _ _ _ none 0 0 Tryd.underlying30 Tryd.underlying5 Tryd.underlying9]
    rfl
  · refine conv_of _ _ cap l ?_
    intro j hj
    have e := add0 g j
    have hc : cur[j]? = some (.int .u8 (l[j].toNat : Int)) := by
      have h3 : (cur.toList.take (l.length * 1))[j]? = (Lib.byteCells l)[j]? := by rw [ht]
      rw [List.getElem?_take_of_lt (by omega)] at h3
      simpa [Lib.byteCells, hj] using h3
    rw [e]
    simp [World.cell?, hh, hc]

theorem OwnB.nil (w : World) (B : Nat) (hB : B ≤ w.heap.size) : OwnB (w.alloc (.cells #[] 5)) B (.slice (some ⟨w.heap.size, 0, none⟩) 0 0) [] := by
  refine ⟨rfl, .inr ⟨w.heap.size, 0, #[], rfl, hB, ?_, Nat.le_refl _, by simp [maxLen], rfl, rfl⟩⟩
  show (w.heap.push _)[w.heap.size]? = _
  simp

theorem OwnB.snoc {w : World} {B : Nat} {v : Value} {l : List UInt8} {x : Int} (h1 : 0 ≤ x) (h2 : x < 256)
    (h : w.ownsRow B 5 1 v (l.length + 1) (Lib.byteCells l ++ [.int .u8 x])) : OwnB w B v (l ++ [x.toNat.toUInt8]) := by
  have e : Lib.byteCells (l ++ [x.toNat.toUInt8]) = Lib.byteCells l ++ [.int .u8 x] := by
    rw [Lib.byteCells_append]
    have hx : x.toNat % 256 = x.toNat := Nat.mod_eq_of_lt (by omega)
    simp [Lib.byteCells, hx]; omega
  unfold OwnB
  rw [e]
  simpa using h

theorem below_of_grown {B : Nat} {w w' : World} {v : Value} {l : List UInt8} (h : OwnB w B v l) (hB : B ≤ w.heap.size) (hg : w.grownBy w' v.ownBlock) : Below B w w' := by
  refine (Below.refl B w).grown hg hB ?_
  intro k hk
  rcases h.2 with ⟨rfl, _⟩ | ⟨g, cap, cur, rfl, hg, _⟩
  · cases hk
  · cases hk; exact hg

section
variable {ops : Array Oper} {o : Oper} {a : Act} {Q : Exit → Act → World → Prop} {w : World}
/-- 'append(out, x)' of one byte to bytes of the call's own, in a plain region. -/
theorem wpList_appendB {rest : List Oper} (hgd : o.guard = none) (s x : Operand) (ho : o.op = .call { callee := .builtin .append, args := #[s, x], argTypes := #[30, 30] })
    {B : Nat} {v : Value} {l : List UInt8} (hs : a.eval s = v) (hown : OwnB w B v l) (x8 : Int) (h0 : 0 ≤ x8) (h1 : x8 < 256) (ad : Addr) (c : Nat) (hx : a.eval x = .slice (some ad) 1 c)
    (hc : ∀ j u, [Value.int .u8 x8][j]? = some u → w.cell? (ad.add j) = some u) (hl : l.length < 2147483648) (hB : B ≤ w.heap.size)
    (h : ∀ g cap w', OwnB w' B (.slice (some ⟨g, 0, none⟩) (l.length + 1) cap) (l ++ [x8.toNat.toUInt8]) → w.grownBy w' v.ownBlock → Below B w w' → (v.ownBlock = some g ∨ g = w.heap.size) → wpList Tryd.prog ops Q rest (a.put o.dst (.slice (some ⟨g, 0, none⟩) (l.length + 1) cap)) w') : wpList Tryd.prog ops Q (o :: rest) a w := by
  obtain ⟨i0, hi, hz0, hz1, hz2⟩ := info_parts u8info
  refine wpList_append_lies w hgd s x 30 ho B 5 i0 (.int .u8 0) 1 1 Tryd.underlying30 hi hz0 hz1 hz2 rfl (by decide) v l.length (Lib.byteCells l) hs hown ad 1 c [.int .u8 x8] hx rfl hc (by simp [Value.oneCell']) (by decide) (by unfold maxLen; omega) (by omega) hB _ rfl ?_
  intro g cap w' h2 h3 h4 _
  refine h g cap w' ?_ h3 (below_of_grown hown hB h3) h4
  have h5 := OwnB.snoc h0 h1 h2
  exact h5
/-- The same, in a region that draws its order. -/
theorem step_appendB {K : Act → World → Prop} {E : Prop} (hgd : o.guard = none) (s x : Operand) (ho : o.op = .call { callee := .builtin .append, args := #[s, x], argTypes := #[30, 30] })
    {B : Nat} {v : Value} {l : List UInt8} (hs : a.eval s = v) (hown : OwnB w B v l) (x8 : Int) (h0 : 0 ≤ x8) (h1 : x8 < 256) (ad : Addr) (c : Nat) (hx : a.eval x = .slice (some ad) 1 c)
    (hc : ∀ j u, [Value.int .u8 x8][j]? = some u → w.cell? (ad.add j) = some u) (hl : l.length < 2147483648) (hB : B ≤ w.heap.size)
    (h : ∀ g cap w', OwnB w' B (.slice (some ⟨g, 0, none⟩) (l.length + 1) cap) (l ++ [x8.toNat.toUInt8]) → w.grownBy w' v.ownBlock → Below B w w' → (v.ownBlock = some g ∨ g = w.heap.size) → K (a.put o.dst (.slice (some ⟨g, 0, none⟩) (l.length + 1) cap)) w') :
    if Region.wanted o (yielded ops a.tmps) = true then Oper.wp Tryd.prog o a w K Q else E := by
  obtain ⟨i0, hi, hz0, hz1, hz2⟩ := info_parts u8info
  refine step_append_lies w hgd s x 30 ho B 5 i0 (.int .u8 0) 1 1 Tryd.underlying30 hi hz0 hz1 hz2 rfl (by decide) v l.length (Lib.byteCells l) hs hown ad 1 c [.int .u8 x8] hx rfl hc (by simp [Value.oneCell']) (by decide) (by unfold maxLen; omega) (by omega) hB _ rfl ?_
  intro g cap w' h2 h3 h4 _
  exact h g cap w' (OwnB.snoc h0 h1 h2) h3 (below_of_grown hown hB h3) h4
/-- The same, of several bytes. -/
theorem step_appendBs {K : Act → World → Prop} {E : Prop} (hgd : o.guard = none) (s x : Operand) (ho : o.op = .call { callee := .builtin .append, args := #[s, x], argTypes := #[30, 30] })
    {B : Nat} {v : Value} {l : List UInt8} (hs : a.eval s = v) (hown : OwnB w B v l) (cs : List UInt8) (hcs : 0 < cs.length) (ad : Addr) (c : Nat) (hx : a.eval x = .slice (some ad) cs.length c)
    (hc : ∀ j u, (Lib.byteCells cs)[j]? = some u → w.cell? (ad.add j) = some u) (hl : l.length + cs.length < 2147483648) (hB : B ≤ w.heap.size)
    (h : ∀ g cap w', OwnB w' B (.slice (some ⟨g, 0, none⟩) (l.length + cs.length) cap) (l ++ cs) → w.grownBy w' v.ownBlock → Below B w w' → (v.ownBlock = some g ∨ g = w.heap.size) → K (a.put o.dst (.slice (some ⟨g, 0, none⟩) (l.length + cs.length) cap)) w') :
    if Region.wanted o (yielded ops a.tmps) = true then Oper.wp Tryd.prog o a w K Q else E := by
  obtain ⟨i0, hi, hz0, hz1, hz2⟩ := info_parts u8info
  refine step_append_lies w hgd s x 30 ho B 5 i0 (.int .u8 0) 1 1 Tryd.underlying30 hi hz0 hz1 hz2 rfl (by decide) v l.length (Lib.byteCells l) hs hown ad cs.length c (Lib.byteCells cs) hx (by rw [Lib.byteCells_length]; omega) hc (Lib.byteCells_one cs) hcs (by unfold maxLen; omega) (by omega) hB _ rfl ?_
  intro g cap w' h2 h3 h4 _
  refine h g cap w' ?_ h3 (below_of_grown hown hB h3) h4
  unfold OwnB
  rw [Lib.byteCells_append, List.length_append]
  exact h2
end
theorem OwnB.below {w w' : World} {B : Nat} {v : Value} {l : List UInt8} (h : OwnB w B v l) (hb : Below w.heap.size w w') : OwnB w' B v l := by
  refine ⟨h.1, ?_⟩
  rcases h.2 with h2 | ⟨g, cap, cur, rfl, hg, hh, r⟩
  · exact .inl h2
  · exact .inr ⟨g, cap, cur, rfl, hg, by rw [hb.block g (Array.getElem?_eq_some_iff.1 hh).1]; exact hh, r⟩
theorem OwnB.alloc {w : World} {B : Nat} {v : Value} {l : List UInt8} (h : OwnB w B v l) (o : Obj) : OwnB (w.alloc o) B v l := World.ownsRow.alloc h o
theorem OwnB.drew {w : World} {B : Nat} {v : Value} {l : List UInt8} (h : OwnB w B v l) : OwnB w.drew B v l := h
end Go.Proofs.YtfedlehibkgjbaaDoor
end
section
set_option linter.unusedVariables false
namespace Go.Proofs.YtfedlehibkgjbaaDoor
open Go.RowKit
set_option linter.unusedVariables false
section
variable {E : Type}
/-- v is a slice of structs of the call's own, with the structs es. -/
def OwnR (row : E → List Value) (T : TypeId) (n : Nat) (w : World) (B : Nat) (v : Value) (es : List E) : Prop := w.ownsRow B T n v es.length (es.map row).flatten
variable {row : E → List Value} {T : TypeId} {n : Nat} {w w' : World} {B : Nat} {v : Value} {es : List E}
theorem OwnR.nil (w : World) (B : Nat) : OwnR row T n w B (.slice none 0 0) [] := ⟨by simp, .inl ⟨rfl, rfl⟩⟩
theorem OwnR.empty (w : World) (B : Nat) (hB : B ≤ w.heap.size) : OwnR row T n (w.alloc (.cells #[] T)) B (.slice (some ⟨w.heap.size, 0, none⟩) 0 0) [] := by
  refine ⟨by simp, .inr ⟨w.heap.size, 0, #[], rfl, hB, heap_alloc_new w _, Nat.le_refl _, by simp [maxLen], by simp, by simp⟩⟩
theorem OwnR.alloc (h : OwnR row T n w B v es) (o : Obj) : OwnR row T n (w.alloc o) B v es := World.ownsRow.alloc h o
theorem OwnR.drew (h : OwnR row T n w B v es) : OwnR row T n w.drew B v es := h
theorem OwnR.below (h : OwnR row T n w B v es) (hb : Below w.heap.size w w') : OwnR row T n w' B v es := by
  refine ⟨h.1, ?_⟩
  rcases h.2 with h2 | ⟨g, cap, cur, rfl, hg, hh, r⟩
  · exact .inl h2
  · exact .inr ⟨g, cap, cur, rfl, hg, by rw [hb.block g (Array.getElem?_eq_some_iff.1 hh).1]; exact hh, r⟩
theorem OwnR.mono {B' : Nat} (h : OwnR row T n w B v es) (hB : B' ≤ B) : OwnR row T n w B' v es := by
  refine ⟨h.1, ?_⟩
  rcases h.2 with h2 | ⟨g, cap, cur, rfl, hg, r⟩
  · exact .inl h2
  · exact .inr ⟨g, cap, cur, rfl, Nat.le_trans hB hg, r⟩
theorem ownsRow_belowOf {size k : Nat} {xs : List Value} (h : w.ownsRow B T size v k xs) (hB : B ≤ w.heap.size) (hg : w.grownBy w' v.ownBlock) : Below B w w' := by
  refine (Below.refl B w).grown hg hB ?_
  intro k hk
  rcases h.2 with ⟨rfl, _⟩ | ⟨g, cap, cur, rfl, hg, _⟩
  · cases hk
  · cases hk; exact hg
theorem OwnR.slSI (h : OwnR row T n w B v es) : ∃ a c, v = .slice a es.length c ∧ SlSI row T w B w.heap.size a es := by
  obtain ⟨h1, h2⟩ := h
  rcases h2 with ⟨rfl, hl⟩ | ⟨g, cap, cur, rfl, hg, hh, hn, hm, hs, ht⟩
  · exact ⟨none, 0, by rw [hl], .inl (List.length_eq_zero_iff.1 hl)⟩
  · refine ⟨_, _, rfl, .inr ⟨g, (cur.toList.drop (es.length * n)).toArray, rfl, hg, (Array.getElem?_eq_some_iff.1 hh).1, ?_⟩⟩
    rw [hh]
    congr 2
    apply Array.ext'
    simp only [Array.toList_append]
    rw [← ht]
    simp
/-- A slice of structs in a block from B on. -/
def SlSO (row : E → List Value) (T : TypeId) (w : World) (B : Nat) (a : Option Addr) (es : List E) : Prop := SlSI row T w B w.heap.size a es
theorem SlSO.within {a : Option Addr} (h : SlSO row T w B a es) : SlSI row T w B w.heap.size a es := h
theorem SlSO.mono {a : Option Addr} {B' : Nat} (h : SlSO row T w B a es) (hB : B' ≤ B) : SlSO row T w B' a es := SlSI.mono h hB (Nat.le_refl _)
/-- A result that is a slice of structs of the call's own. -/
def RecRes (row : E → List Value) (T : TypeId) (es : List E) (w : World) (e : Ending) (w' : World) : Prop :=
  ∃ a cap, e = .returned (.slice a es.length cap) ∧ SlSO row T w' w.heap.size a es ∧ Below w.heap.size w w'
/-- Two results: a slice of structs of the call's own, and a code. -/
def RecRes2 (row : E → List Value) (T : TypeId) (es : List E) (code : Int) (w : World) (e : Ending) (w' : World) : Prop :=
  ∃ a cap, e = .returned (.tuple #[.slice a es.length cap, .int .i64 code]) ∧ SlSO row T w' w.heap.size a es ∧ Below w.heap.size w w'
theorem RecRes.of (h : OwnR row T n w' w.heap.size v es) (hb : Below w.heap.size w w') : RecRes row T es w (.returned v) w' := by
  obtain ⟨a, c, rfl, hs⟩ := h.slSI
  exact ⟨a, c, rfl, hs, hb⟩
end
/-- A row keeps its cells while a row of another type is appended to. -/
theorem ownsRow_other {W W' : World} {B B' : Nat} {t e : TypeId} (hte : t ≠ e) {s1 s2 k1 k2 : Nat} {u v : Value} {xs ys : List Value} (h : W.ownsRow B t s1 u k1 xs) (hr : W.ownsRow B' e s2 v k2 ys) (hg : W.grownBy W' v.ownBlock) :
    W'.ownsRow B t s1 u k1 xs := by
  refine ⟨h.1, ?_⟩
  rcases h.2 with h2 | ⟨g, cap, cur, rfl, hgB, hh, r⟩
  · exact .inl h2
  · refine .inr ⟨g, cap, cur, rfl, hgB, ?_, r⟩
    refine (hg.block g (Array.getElem?_eq_some_iff.1 hh).1 ?_).trans hh
    rcases hr.2 with ⟨rfl, _⟩ | ⟨g2, cap2, cur2, rfl, _, hgb, _⟩
    · simp [Value.ownBlock]
    · intro e'
      obtain rfl : g = g2 := by simpa [Value.ownBlock] using e'
      have := hh.symm.trans hgb
      simp at this
      exact hte this.2
section
variable {E : Type} {ops : Array Oper} {o : Oper} {a : Act} {Q : Exit → Act → World → Prop} {w : World} {row : E → List Value} {n : Nat}
/-- 'append(out, x)' of one struct to a row of the call's own, in a plain region. -/
theorem wpList_appendR {rest : List Oper} (Ts T : TypeId) (zero : Value) (bytes : Nat) (hT : Tryd.prog.underlying Ts = some (.slice T)) (hinfo : (Tryd.prog.info? T).map (fun i => (i.zero, i.size, i.bytes)) = some (some zero, n, bytes)) (hzn : zero.cells.size = n) (h0 : 0 < n) (hby : bytes ≤ 1000)
    (hgd : o.guard = none) (s x : Operand) (ho : o.op = .call { callee := .builtin .append, args := #[s, x], argTypes := #[Ts, Ts] })
    {B : Nat} {v : Value} {es : List E} (hs : a.eval s = v) (hown : OwnR row T n w B v es) (y : E) (hrow : (row y).length = n) (hone : ∀ u ∈ row y, u.oneCell' = true) (ad : Addr) (c : Nat) (hx : a.eval x = .slice (some ad) 1 c)
    (hc : ∀ j u, (row y)[j]? = some u → w.cell? (ad.add j) = some u) (hl : es.length < 1073741824) (hB : B ≤ w.heap.size)
    (h : ∀ g cap w', OwnR row T n w' B (.slice (some ⟨g, 0, none⟩) (es.length + 1) cap) (es ++ [y]) → w.grownBy w' v.ownBlock → Below B w w' → wpList Tryd.prog ops Q rest (a.put o.dst (.slice (some ⟨g, 0, none⟩) (es.length + 1) cap)) w') : wpList Tryd.prog ops Q (o :: rest) a w := by
  obtain ⟨i0, hi, hz0, hz1, hz2⟩ := info_parts hinfo
  refine wpList_append_lies w hgd s x Ts ho B T i0 zero n bytes hT hi hz0 hz1 hz2 hzn h0 v es.length (es.map row).flatten hs hown ad 1 c (row y) hx (by rw [hrow, Nat.one_mul]) hc hone (by decide) (by unfold maxLen; omega) (Nat.le_trans (Nat.mul_le_mul (show es.length + 1 ≤ 1073741824 by omega) hby) (by decide)) hB _ rfl ?_
  intro g cap w' h2 h3 h4 _
  refine h g cap w' ?_ h3 (ownsRow_belowOf hown hB h3)
  unfold OwnR
  simpa using h2
/-- The same, in a region that draws its order. -/
theorem step_appendR {K : Act → World → Prop} {E' : Prop} (Ts T : TypeId) (zero : Value) (bytes : Nat) (hT : Tryd.prog.underlying Ts = some (.slice T)) (hinfo : (Tryd.prog.info? T).map (fun i => (i.zero, i.size, i.bytes)) = some (some zero, n, bytes)) (hzn : zero.cells.size = n) (h0 : 0 < n) (hby : bytes ≤ 1000)
    (hgd : o.guard = none) (s x : Operand) (ho : o.op = .call { callee := .builtin .append, args := #[s, x], argTypes := #[Ts, Ts] })
    {B : Nat} {v : Value} {es : List E} (hs : a.eval s = v) (hown : OwnR row T n w B v es) (y : E) (hrow : (row y).length = n) (hone : ∀ u ∈ row y, u.oneCell' = true) (ad : Addr) (c : Nat) (hx : a.eval x = .slice (some ad) 1 c)
    (hc : ∀ j u, (row y)[j]? = some u → w.cell? (ad.add j) = some u) (hl : es.length < 1073741824) (hB : B ≤ w.heap.size)
    (h : ∀ g cap w', OwnR row T n w' B (.slice (some ⟨g, 0, none⟩) (es.length + 1) cap) (es ++ [y]) → w.grownBy w' v.ownBlock → Below B w w' → K (a.put o.dst (.slice (some ⟨g, 0, none⟩) (es.length + 1) cap)) w') :
    if Region.wanted o (yielded ops a.tmps) = true then Oper.wp Tryd.prog o a w K Q else E' := by
  obtain ⟨i0, hi, hz0, hz1, hz2⟩ := info_parts hinfo
  refine step_append_lies w hgd s x Ts ho B T i0 zero n bytes hT hi hz0 hz1 hz2 hzn h0 v es.length (es.map row).flatten hs hown ad 1 c (row y) hx (by rw [hrow, Nat.one_mul]) hc hone (by decide) (by unfold maxLen; omega) (Nat.le_trans (Nat.mul_le_mul (show es.length + 1 ≤ 1073741824 by omega) hby) (by decide)) hB _ rfl ?_
  intro g cap w' h2 h3 h4 _
  refine h g cap w' ?_ h3 (ownsRow_belowOf hown hB h3)
  unfold OwnR
  simpa using h2
/-- 'append(out, x)' of one int64, which tells what has grown. -/
theorem wpList_appendIg {rest : List Oper} (T : TypeId) (hT : Tryd.prog.underlying T = some (.slice 2)) (hgd : o.guard = none) (s x : Operand) (ho : o.op = .call { callee := .builtin .append, args := #[s, x], argTypes := #[T, T] })
    {B : Nat} {v : Value} {l : List Int} (hs : a.eval s = v) (hown : OwnI w B v l) (n : Int) (ad : Addr) (c : Nat) (hx : a.eval x = .slice (some ad) 1 c)
    (hc : ∀ j u, [Value.int .i64 n][j]? = some u → w.cell? (ad.add j) = some u) (hl : l.length < 1073741824) (hB : B ≤ w.heap.size)
    (h : ∀ g cap w', OwnI w' B (.slice (some ⟨g, 0, none⟩) (l.length + 1) cap) (l ++ [n]) → w.grownBy w' v.ownBlock → Below B w w' → wpList Tryd.prog ops Q rest (a.put o.dst (.slice (some ⟨g, 0, none⟩) (l.length + 1) cap)) w') : wpList Tryd.prog ops Q (o :: rest) a w := by
  obtain ⟨i0, hi, hz0, hz1, hz2⟩ := info_parts i64info
  refine wpList_append_lies w hgd s x T ho B 2 i0 (.int .i64 0) 1 8 hT hi hz0 hz1 hz2 rfl (by decide) v l.length (l.map (Value.int .i64)) hs hown ad 1 c [.int .i64 n] hx rfl hc (by simp [Value.oneCell']) (by decide) (by unfold maxLen; omega) (by omega) hB _ rfl ?_
  intro g cap w' h2 h3 h4 _
  exact h g cap w' (OwnI.snoc h2) h3 (hown.belowOf hB h3)
end
theorem OwnI.keptB {w w' : World} {B B' : Nat} {u v : Value} {l : List Int} {b : List UInt8} (h : OwnI w B u l) (hb : OwnB w B' v b) (hg : w.grownBy w' v.ownBlock) : OwnI w' B u l := ownsRow_other (by decide) h hb hg
theorem OwnB.keptI {w w' : World} {B B' : Nat} {u v : Value} {l : List UInt8} {b : List Int} (h : OwnB w B u l) (hb : OwnI w B' v b) (hg : w.grownBy w' v.ownBlock) : OwnB w' B u l := ownsRow_other (by decide) h hb hg
end Go.Proofs.YtfedlehibkgjbaaDoor
end
section
set_option linter.unusedVariables false
namespace Go.Proofs.YtfedlehibkgjbaaDoor
open Go.RowKit
set_option linter.unusedVariables false
set_option linter.unusedSimpArgs false
set_option maxRecDepth 20000
/-- The words before position k, and where the word at k begins. -/
def spl (s : ByteArray) (b : Nat) : Nat → List StringV × Nat
  | 0 => ([], 0)
  | k + 1 => if (s.data.toList[k]?.map UInt8.toNat) = some b then ((spl s b k).1 ++ [⟨s.extract (spl s b k).2 k⟩], k + 1) else spl s b k
theorem spl_hit {s : ByteArray} {b k : Nat} (h : k < s.size) (e : s[k].toNat = b) : spl s b (k + 1) = ((spl s b k).1 ++ [⟨s.extract (spl s b k).2 k⟩], k + 1) := by
  have hl : k < s.data.toList.length := by simpa using h
  have h2 : s.data.toList[k]? = some s[k] := by rw [List.getElem?_eq_getElem hl]; rfl
  rw [spl, h2, if_pos (by simp [e])]
theorem spl_miss {s : ByteArray} {b k : Nat} (h : k < s.size) (e : ¬ s[k].toNat = b) : spl s b (k + 1) = spl s b k := by
  have hl : k < s.data.toList.length := by simpa using h
  have h2 : s.data.toList[k]? = some s[k] := by rw [List.getElem?_eq_getElem hl]; rfl
  rw [spl, h2, if_neg (by simpa using e)]
theorem spl_bd (s : ByteArray) (b k : Nat) : (spl s b k).2 ≤ k ∧ (spl s b k).1.length ≤ k := by
  induction k with
  | zero => exact ⟨Nat.le_refl _, Nat.le_refl _⟩
  | succ k ih =>
    rw [spl]
    split
    · simp; omega
    · omega
def splV (s : ByteArray) (b : Nat) : List StringV := (spl s b s.size).1 ++ [⟨s.extract (spl s b s.size).2 s.size⟩]
/-- What l01Split returns. -/
def SplRes (B : Nat) (es : List StringV) (w : World) (e : Ending) (w' : World) : Prop := (∃ v, e = .returned v ∧ OwnR rowString 9 1 w' B v es) ∧ Below B w w'
set_option maxHeartbeats 8000000 in
theorem split_any (s : ByteArray) (b : Nat) (hb : b < 256) (hs : s.size ≤ 1048576) (w : World) :
    Calls Tryd.prog 21 #[.string s, .int .u8 b] w (SplRes w.heap.size (splV s b) w) := by
  go_enter Tryd.func21, Tryd.ntmps21
  go_wp2
  go_loopw [5, 6, 7] (fun lv fv kv wr => ∃ k : Nat, k ≤ s.size ∧ kv = .int .i64 k ∧ fv = .int .i64 ((spl s b k).2 : Nat) ∧ OwnR rowString 9 1 wr w.heap.size lv (spl s b k).1 ∧ Below w.heap.size w wr) (fun _ _ kv _ => s.size - (intOf kv).toNat)
  case atStart => exact ⟨0, Nat.zero_le _, rfl, rfl, OwnR.empty _ _ (Nat.le_refl _), (Below.refl _ _).alloc (Nat.le_refl _) _⟩
  case round =>
    obtain ⟨k, hk, rfl, rfl, hown, hbr⟩ := hrel
    have hz : w.heap.size ≤ wr.heap.size := hbr.size
    have HB := Lib.hid hbr; clear hbr
    obtain ⟨hf, hlen⟩ := spl_bd s b k
    by_cases hp : k < s.size
    · have hl : (spl s b k).1.length < 1073741824 := by omega
      by_cases he : s[k].toNat = b
      · have HS := Lib.hid (spl_hit hp he)
        have hq : ((s[k].toNat : Int) == (b : Int)) = true := by simp [he]
        generalize (spl s b k).2 = f at *
        generalize (spl s b k).1 = L at *
        clear he
        have hsl1 : f ≤ k ∧ k ≤ s.size := ⟨hf, hk⟩
        go_wp2_with (at_builtin; refine wpList_appendR (B := w.heap.size) (es := L) 45 9 (.string ByteArray.empty) 16 Tryd.underlying45 infoString rfl (by omega) (by omega) rfl _ _ rfl rfl (hown.alloc _) ⟨s.extract f k⟩ rfl (by intro u hu; simp only [rowString, List.mem_singleton] at hu; subst hu; rfl) ⟨wr.heap.size, 0, none⟩ 1 rfl (World.news_of_block (cs := #[.string (s.extract f k)]) (t := 9) (fr := (0, 0)) (heap_alloc_new wr _)) hl (Nat.le_trans hz (by simp)) ?_; intro g cap w3 hown3 _ hb3)
        go_roundw
        case rel => exact ⟨k + 1, by omega, by go_num, by rw [HS.out]; go_num, by rw [HS.out]; exact hown3, (HB.out.alloc hz _).trans hb3⟩
        case measure => simp [intOf]; omega
      · have HS := Lib.hid (spl_miss hp he)
        have hq : ((s[k].toNat : Int) == (b : Int)) = false := by simp; omega
        clear he
        go_wp2
        go_roundw
        case rel => exact ⟨k + 1, by omega, by go_num, by rw [HS.out], by rw [HS.out]; exact hown, HB.out⟩
        case measure => simp [intOf]; omega
    · obtain rfl : k = s.size := by omega
      have HV := Lib.hid (show splV s b = (spl s b s.size).1 ++ [⟨s.extract (spl s b s.size).2 s.size⟩] from rfl)
      have hl : (spl s b s.size).1.length < 1073741824 := by omega
      generalize (spl s b s.size).2 = f at *
      generalize (spl s b s.size).1 = L at *
      go_wp2_with (at_builtin; refine wpList_appendR (B := w.heap.size) (es := L) 45 9 (.string ByteArray.empty) 16 Tryd.underlying45 infoString rfl (by omega) (by omega) rfl _ _ rfl rfl (hown.alloc _) ⟨s.extract f s.size⟩ rfl (by intro u hu; simp only [rowString, List.mem_singleton] at hu; subst hu; rfl) ⟨wr.heap.size, 0, none⟩ 1 rfl (World.news_of_block (cs := #[.string (s.extract f s.size)]) (t := 9) (fr := (0, 0)) (heap_alloc_new wr _)) hl (Nat.le_trans hz (by simp)) ?_; intro g cap w3 hown3 _ hb3)
      go_ret
      refine ⟨⟨_, rfl, ?_⟩, (HB.out.alloc hz _).trans hb3⟩
      rw [HV.out]
      exact hown3
end Go.Proofs.YtfedlehibkgjbaaDoor
end
section
set_option linter.unusedVariables false
namespace Go.Proofs.YtfedlehibkgjbaaDoor
open Go.RowKit
/-- May the byte c stand at place i of a name? -/
def okAt (i c : Nat) : Bool := (decide (65 ≤ c) && decide (c ≤ 90)) || (decide (0 < i) && (decide (c = 95) || (decide (48 ≤ c) && decide (c ≤ 57))))
def okTo (s : ByteArray) (k : Nat) : Bool := (List.range k).all fun j => okAt j (s[j]?.getD 0).toNat
def nameB (s : ByteArray) : Bool := okTo s s.size && inB 1 8 s.size
theorem okTo_succ (s : ByteArray) (k : Nat) (h : k < s.size) : okTo s (k + 1) = (okTo s k && okAt k s[k].toNat) := by
  have e : s[k]?.getD 0 = s[k] := by simp [h]
  simp [okTo, List.range_succ, e]
theorem okTo_no (s : ByteArray) (k : Nat) (h : k < s.size) (hc : okAt k s[k].toNat = false) : okTo s s.size = false := by
  have e : s[k]?.getD 0 = s[k] := by simp [h]
  unfold okTo
  rw [List.all_eq_false]
  exact ⟨k, by simp [h], by simp [h, hc]⟩
theorem okAt_high (i c : Nat) (h : 128 ≤ c) : okAt i c = false := by unfold okAt; simp; omega
end Go.Proofs.YtfedlehibkgjbaaDoor
end
section
set_option linter.unusedVariables false
namespace Go.Proofs.YtfedlehibkgjbaaDoor
open Go.RowKit
set_option maxHeartbeats 400000 in
theorem digit_yes {c : Nat} (w : World) (h1 : 48 ≤ c) (h2 : c ≤ 57) : Calls Tryd.prog 41 #[.int .u8 c] w fun e w' => e = .returned (.bool true) ∧ w = w' := by
  go_enter Tryd.func41, Tryd.ntmps41
  go_wp2
  all_goals
    go_ret
    exact ⟨ret_bool (decide_eq_true (by omega)), rfl⟩
set_option maxHeartbeats 400000 in
theorem digit_no {c : Nat} (w : World) (h : ¬ (48 ≤ c ∧ c ≤ 57)) : Calls Tryd.prog 41 #[.int .u8 c] w fun e w' => e = .returned (.bool false) ∧ w = w' := by
  by_cases h1 : 48 ≤ c
  · have h2 : 57 < c := by omega
    clear h
    go_enter Tryd.func41, Tryd.ntmps41
    go_wp2
    all_goals
      go_ret
      exact ⟨ret_bool (decide_eq_false (by omega)), rfl⟩
  · clear h
    go_enter Tryd.func41, Tryd.ntmps41
    go_wp2
    all_goals
      go_ret
      exact ⟨rfl, rfl⟩
/-- A byte of a name, wherever it stands. -/
def okAny (c : Nat) : Bool := (decide (65 ≤ c) && decide (c ≤ 90)) || (decide (c = 95) || (decide (48 ≤ c) && decide (c ≤ 57)))
theorem okAt_any {i c : Nat} (h : okAny c = false) : okAt i c = false := by
  unfold okAny at h; unfold okAt
  simp only [Bool.or_eq_false_iff] at h ⊢
  simp [h]
theorem okAt_first {i c : Nat} (h : okAny c = true) (hi : i = 0 → (65 ≤ c ∧ c ≤ 90)) : okAt i c = true := by
  unfold okAny at h; unfold okAt
  simp only [Bool.or_eq_true, Bool.and_eq_true, decide_eq_true_eq] at h ⊢
  by_cases hz : i = 0
  · exact .inl (hi hz)
  · rcases h with h | h
    · exact .inl h
    · exact .inr ⟨by omega, h⟩
end Go.Proofs.YtfedlehibkgjbaaDoor
end
section
set_option linter.unusedVariables false
namespace Go.Proofs.YtfedlehibkgjbaaDoor
open Go.RowKit
set_option linter.unusedVariables false
set_option linter.unusedSimpArgs false
set_option maxRecDepth 20000
/-- The number of the first k bytes, if all are digits. -/
def numD (s : ByteArray) : Nat → Option Nat
  | 0 => some 0
  | k + 1 => match numD s k, s.data.toList[k]? with
    | some n, some c => if 48 ≤ c.toNat ∧ c.toNat ≤ 57 then some (n * 10 + (c.toNat - 48)) else none
    | _, _ => none
def numW (s : ByteArray) : Int :=
  if s.size = 0 ∨ 7 < s.size ∨ (s.data.toList[0]?.map UInt8.toNat = some 48 ∧ 1 < s.size) then -1 else
  match numD s s.size with
  | some n => n
  | none => -1
theorem numD_hit {s : ByteArray} {k n d : Nat} (h : k < s.size) (hn : numD s k = some n) (e : s[k].toNat = 48 + d) (hd : d ≤ 9) : numD s (k + 1) = some (n * 10 + d) := by
  have hl : k < s.data.toList.length := by simpa using h
  have h2 : s.data.toList[k]? = some s[k] := by rw [List.getElem?_eq_getElem hl]; rfl
  rw [numD, hn, h2]
  simp only [e]
  rw [if_pos (by omega), show 48 + d - 48 = d by omega]
theorem numD_miss {s : ByteArray} {k : Nat} (h : k < s.size) (e : ¬ (48 ≤ s[k].toNat ∧ s[k].toNat ≤ 57)) : numD s (k + 1) = none := by
  have hl : k < s.data.toList.length := by simpa using h
  have h2 : s.data.toList[k]? = some s[k] := by rw [List.getElem?_eq_getElem hl]; rfl
  rw [numD, h2]
  cases numD s k with
  | none => rfl
  | some n => exact if_neg e
theorem numD_none (s : ByteArray) (k : Nat) (h : numD s k = none) (j : Nat) : numD s (k + j) = none := by
  induction j with
  | zero => exact h
  | succ j ih => rw [show k + (j + 1) = (k + j) + 1 by omega, numD, ih]
theorem numD_bd (s : ByteArray) (k n : Nat) (h : numD s k = some n) : n < 10 ^ k := by
  induction k generalizing n with
  | zero => rw [numD] at h; cases h; decide
  | succ k ih =>
    rw [numD] at h
    split at h
    · rename_i m c hm hc
      have := ih m hm
      split at h
      · cases h
        rw [Nat.pow_succ]
        omega
      · cases h
    · cases h
set_option maxHeartbeats 4000000 in
theorem l01Number_any (s : ByteArray) (hs : s.size ≤ 1048576) (w : World) :
    Calls Tryd.prog 22 #[.string s] w fun e w' => e = .returned (.int .i64 (numW s)) ∧ w' = w := by
  by_cases h0 : s.size = 0
  · have hr : numW s = -1 := by unfold numW; rw [if_pos (.inl h0)]
    rw [hr]
    have hb : s = ⟨#[]⟩ := by
      cases s with | mk d => simp only [ByteArray.mk.injEq]; exact Array.eq_empty_of_size_eq_zero h0
    subst hb
    clear h0 hs hr
    go_enter Tryd.func22, Tryd.ntmps22
    go_wp2
    go_ret
    exact ⟨rfl, rfl⟩
  · have hls : s.toList.length = s.size := by rw [ByteArray.toList_eq]; simp
    have hne : s.toList.isEmpty = false := by
      cases h : s.toList with
      | nil => rw [h] at hls; simp at hls; omega
      | cons => rfl
    have hne2 : ¬ s.toList = [] := by
      intro h; rw [h] at hls; simp at hls; omega
    clear hls
    have hpos : 0 < s.size := by omega
    have hfst : s.data.toList[0]? = some s[0] := by rw [List.getElem?_eq_getElem (by simpa using hpos)]; rfl
    by_cases h7 : 7 < s.size
    · have hr : numW s = -1 := by unfold numW; rw [if_pos (.inr (.inl h7))]
      rw [hr]
      clear hr hfst
      go_enter Tryd.func22, Tryd.ntmps22
      go_wp2
      go_ret
      exact ⟨rfl, rfl⟩
    · by_cases hz : s[0].toNat = 48 ∧ 1 < s.size
      · have hr : numW s = -1 := by unfold numW; rw [if_pos (.inr (.inr ⟨by rw [hfst]; simp [hz.1], hz.2⟩))]
        rw [hr]
        obtain ⟨hz1, hz2⟩ := hz
        clear hr hfst
        go_enter Tryd.func22, Tryd.ntmps22
        go_wp2
        go_ret
        exact ⟨rfl, rfl⟩
      · have hr : numW s = match numD s s.size with | some n => (n : Int) | none => -1 := by
          unfold numW
          rw [if_neg]
          rw [hfst]
          rintro (h | h | ⟨h, h'⟩)
          · exact h0 h
          · exact h7 h
          · exact hz ⟨by simpa using h, h'⟩
        have HR := Lib.hid hr
        obtain ⟨c0, hc0⟩ : ∃ c0, s[0].toNat = c0 := ⟨_, rfl⟩
        have hcase : (c0 ≠ 48) ∨ (c0 = 48 ∧ ¬ 1 < s.size) := by
          rw [hc0] at hz
          by_cases h : c0 = 48
          · exact .inr ⟨h, fun h' => hz ⟨h, h'⟩⟩
          · exact .inl h
        clear hr hfst hz
        rcases hcase with h48 | ⟨h48, h1⟩
        all_goals
          have hq0 : (((c0 : Nat) : Int) == 48) = decide (c0 = 48) := by
            by_cases h : c0 = 48
            · simp [h]
            · simp [h]; omega
          rw [← hc0] at hq0 h48
          clear hc0
          go_enter Tryd.func22, Tryd.ntmps22
          go_wp2
          clear hq0 h48
          go_loopw [3, 4] (fun nv kv wr => ∃ k n : Nat, k ≤ s.size ∧ kv = .int .i64 k ∧ nv = .int .i64 n ∧ Hid (numD s k = some n) ∧ wr = w) (fun _ kv _ => s.size - (intOf kv).toNat)
          case atStart => exact ⟨0, 0, Nat.zero_le _, rfl, rfl, by unfold Hid; rfl, rfl⟩
          case round =>
            obtain ⟨k, n, hk, rfl, rfl, hN, rfl⟩ := hrel
            have hnb : n < 10 ^ 7 := Nat.lt_of_lt_of_le (numD_bd s k n hN.out) (Nat.pow_le_pow_right (by omega) (by omega))
            by_cases hp : k < s.size
            · by_cases hd : 48 ≤ s[k].toNat ∧ s[k].toNat ≤ 57
              · obtain ⟨d, hd2⟩ : ∃ d, s[k].toNat = 48 + d := ⟨s[k].toNat - 48, by omega⟩
                have hd9 : d ≤ 9 := by omega
                have HS := Lib.hid (numD_hit hp hN.out hd2 hd9)
                clear hd
                have DY := Lib.hid (fun w1 => (show Calls Tryd.prog 41 #[.int .u8 (48 + (d : Int))] w1 (fun e w' => e = .returned (.bool true) ∧ w1 = w') by have := digit_yes (c := 48 + d) w1 (by omega) (by omega); simpa using this))
                go_wp2_with (go_at_call 41; refine (DY.out _).mono ?_; rintro e w1 ⟨rfl, rfl⟩)
                go_roundw
                case rel => exact ⟨k + 1, n * 10 + d, by omega, by go_num, by go_num, HS, trivial⟩
                case measure => simp [intOf]; omega
              · have HS := Lib.hid (numD_miss hp hd)
                have HD := Lib.hid hd
                clear hd
                go_wp2_with (go_at_call 41; refine (digit_no _ HD.out).mono ?_; rintro e w1 ⟨rfl, rfl⟩)
                go_ret
                refine ⟨?_, rfl⟩
                have hj := numD_none s (k + 1) HS.out (s.size - (k + 1))
                rw [show k + 1 + (s.size - (k + 1)) = s.size by omega] at hj
                rw [HR.out, hj]
                rfl
            · obtain rfl : k = s.size := by omega
              go_wp2
              go_ret
              refine ⟨?_, rfl⟩
              rw [HR.out, hN.out]
              rfl
end Go.Proofs.YtfedlehibkgjbaaDoor
end
section
set_option linter.unusedVariables false
namespace Go.Proofs.YtfedlehibkgjbaaDoor
open Go.RowKit
def RowB (C : Array Value) (l : List UInt8) (cap : Nat) : Prop := C.size = cap ∧ l.length ≤ cap ∧ ∀ j (h : j < l.length), C[j]? = some (.int .u8 (l[j].toNat : Int))
theorem RowB.ofBytes (s : ByteArray) (cap : Nat) (h : s.size ≤ cap) : RowB (bytesRow s cap) s.data.toList cap := by
  have hl : s.data.toList.length = s.size := by simp
  refine ⟨?_, by omega, ?_⟩
  · have : s.data.size = s.size := rfl
    simp [bytesRow]; omega
  · intro j hj
    have := bytesRow_at s cap j (by omega)
    rw [this]
    simp
theorem RowB.set {C : Array Value} {l : List UInt8} {cap : Nat} (h : RowB C l cap) (k : Nat) (x : UInt8) (hk : k < l.length) : RowB (C.setIfInBounds k (.int .u8 (x.toNat : Int))) (l.set k x) cap := by
  obtain ⟨h1, h2, h3⟩ := h
  refine ⟨by simpa using h1, by simpa using h2, ?_⟩
  intro j hj
  rw [List.length_set] at hj
  rw [Array.getElem?_setIfInBounds, List.getElem_set]
  by_cases e : k = j
  · subst e
    rw [if_pos rfl, if_pos (by omega), if_pos rfl]
  · rw [if_neg e, if_neg e]
    exact h3 j hj
theorem RowB.cell {C : Array Value} {l : List UInt8} {cap : Nat} (h : RowB C l cap) {w : World} {b : Nat} {fr : Nat × Nat} {T : TypeId} (hC : w.heap[b]? = some (.cells C T fr)) (k : Nat) (hk : k < l.length) : w.cell? ⟨b, k, none⟩ = some (.int .u8 (l[k].toNat : Int)) := by
  simp [World.cell?, hC, h.2.2 k hk]
theorem RowB.conv {C : Array Value} {l : List UInt8} {cap : Nat} (h : RowB C l cap) {w : World} {b : Nat} {fr : Nat × Nat} {T : TypeId} (hC : w.heap[b]? = some (.cells C T fr)) (n c : Nat) (hn : l.length = n) :
    (convert 30 9 (.slice (some ⟨b, 0, none⟩) n c)).run Tryd.prog w = .ok (.string ⟨l.toArray⟩) w := by
  subst hn
  refine conv_of _ _ _ _ ?_
  intro j hj
  rw [add0]
  exact h.cell hC j hj
theorem conv_new1 (W : World) (x : Int) (h1 : 0 ≤ x) (h2 : x < 256) :
    (convert 30 9 (.slice (some ⟨W.heap.size, 0, none⟩) 1 1)).run Tryd.prog (W.alloc (.cells #[.int .u8 x] 5)) = .ok (.string ⟨#[x.toNat.toUInt8]⟩) (W.alloc (.cells #[.int .u8 x] 5)) := by
  refine conv_of _ _ 1 [x.toNat.toUInt8] ?_
  intro j hj
  have e := add0 W.heap.size j
  have hx : x.toNat % 256 = x.toNat := Nat.mod_eq_of_lt (by omega)
  match j, hj with
  | 0, _ => rw [e]; simp [go_sem, hx]; omega
  | j + 1, hj => simp at hj
end Go.Proofs.YtfedlehibkgjbaaDoor
end
section
set_option linter.unusedVariables false
namespace Go.Proofs.YtfedlehibkgjbaaDoor
open Go.RowKit
set_option linter.unusedVariables false
set_option linter.unusedSimpArgs false
set_option maxRecDepth 20000
/-- A package variable holds these cells. -/
def TabAt (g : Nat) (vs : List Value) (w : World) : Prop := ∃ T fr, w.heap[g]? = some (.cells vs.toArray T fr)
theorem TabAt.lt {g : Nat} {vs : List Value} {w : World} (h : TabAt g vs w) : g < w.heap.size := by
  obtain ⟨T, fr, h⟩ := h
  exact (Array.getElem?_eq_some_iff.1 h).1
theorem TabAt.below {g : Nat} {vs : List Value} {w w' : World} {B : Nat} (h : TabAt g vs w) (hb : Below B w w') (hg : g < B) : TabAt g vs w' := by
  obtain ⟨T, fr, h⟩ := h
  exact ⟨T, fr, by rw [hb.block g hg]; exact h⟩
theorem TabAt.cell {g : Nat} {vs : List Value} {w : World} (h : TabAt g vs w) (i : Nat) (hi : i < vs.length) : w.cell? ⟨g, i, none⟩ = some vs[i] := by
  obtain ⟨T, fr, h⟩ := h
  simp [World.cell?, h, hi]
def pow10L : List Nat := [1, 10, 100, 1000, 10000, 100000, 1000000, 10000000, 100000000, 1000000000, 10000000000, 100000000000, 1000000000000, 10000000000000, 100000000000000, 1000000000000000, 10000000000000000, 100000000000000000, 1000000000000000000, 10000000000000000000]
def PowTab (w : World) : Prop := TabAt 0 (pow10L.map fun (s : Nat) => Value.int .u64 (s : Int)) w
theorem gPow : Tryd.prog.globalNamed "internal/strconv.uint64pow10" = some 0 := by kernel_rfl
theorem PowTab.is {w : World} (h : PowTab w) : Lib.TabIs Tryd.prog w "internal/strconv.uint64pow10" .u64 Lib.pow10Tab := by
  obtain ⟨T, fr, h⟩ := h
  unfold Lib.TabIs
  simp only [World.var?, gPow, Option.bind_some, h]
  congr 1
theorem PowTab.below {w w' : World} (h : PowTab w) (hb : Below w.heap.size w w') : PowTab w' := TabAt.below h hb (TabAt.lt h)
/-- A number's text in decimal. -/
def decT (n : Int) : ByteArray := ⟨(Lib.itoa n).toArray⟩
theorem decDigits_len : ∀ (k n : Nat), n < 10 ^ k → 0 < k → (Lib.decDigits n).length ≤ k := by
  intro k
  induction k with
  | zero => intro n h h0; omega
  | succ k ih =>
    intro n h _
    unfold Lib.decDigits
    split
    · simp
    · by_cases hk : k = 0
      · subst hk; omega
      · have := ih (n / 10) (by rw [Nat.pow_succ] at h; omega) (by omega)
        simp; omega
theorem decT_size {n : Int} (h0 : 0 ≤ n) (h1 : n < 100000) : (decT n).size ≤ 5 := by
  show (Lib.itoa n).toArray.size ≤ 5
  unfold Lib.itoa
  rw [if_neg (by omega)]
  have := decDigits_len 5 n.toNat (by omega) (by omega)
  simpa using this
theorem below_growD (w : World) (k : Nat) (os : Array Obj) : Below w.heap.size w («Sort».grow (w.drewN k) os) :=
  ⟨rfl, rfl, rfl, by show w.heap.size ≤ (w.heap ++ os).size; rw [Array.size_append]; omega, fun j hj => by show (w.heap ++ os)[j]? = w.heap[j]?; rw [Array.getElem?_append_left hj]⟩
theorem decDigits_small {n : Nat} (h : n < 10) : Lib.decDigits n = [UInt8.ofNat (48 + n)] := by unfold Lib.decDigits; rw [dif_pos h]
theorem decDigits_step {n : Nat} (h : ¬ n < 10) : Lib.decDigits n = Lib.decDigits (n / 10) ++ [UInt8.ofNat (48 + n % 10)] := by
  conv => lhs; unfold Lib.decDigits
  rw [dif_neg h]
theorem conv_cell1 (W : World) (g : Nat) (x : Int) (h1 : 0 ≤ x) (h2 : x < 256) (hc : W.cell? ⟨g, 0, none⟩ = some (.int .u8 x)) :
    (convert 30 9 (.slice (some ⟨g, 0, none⟩) 1 1)).run Tryd.prog W = .ok (.string ⟨#[x.toNat.toUInt8]⟩) W := by
  refine conv_of _ _ 1 [x.toNat.toUInt8] ?_
  intro j hj
  have e := add0 g j
  have hx : x.toNat % 256 = x.toNat := Nat.mod_eq_of_lt (by omega)
  match j, hj with
  | 0, _ => rw [e, hc]; simp [hx]; omega
  | j + 1, hj => simp at hj
end Go.Proofs.YtfedlehibkgjbaaDoor
end
