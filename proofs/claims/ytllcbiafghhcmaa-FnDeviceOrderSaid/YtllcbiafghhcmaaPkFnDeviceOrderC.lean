/- impl.ValidFlux -/
import Derived.Test.YtllcbiafghhcmaaPkFnDeviceOrderB
import Derived.Test.YtllcbiafghhcmaaPkFnDeviceOrderA
import Derived.Laws.RangeAny
import Derived.Laws.RangeString
section
set_option linter.unusedVariables false
namespace Go.Proofs.Ytllcbiafghhcmaa
open Go.RowKit
/-- Is the flux valid? -/
def fluxOk (c f : Int) (zs : List Int) : Bool := inB 4 200 c && (inB 1 4000 (zs.length : Int) && (zs.all (inB 1 2000000) && (decide (zs.sum ≤ 2000000) && inB 0 (zs[zs.length - 1]?.getD 0 - 1) f)))
theorem fluxOk_iff {c f : Int} {zs : List Int} : fluxOk c f zs = true ↔ (4 ≤ c ∧ c ≤ 200) ∧ (1 ≤ zs.length ∧ zs.length ≤ 4000) ∧ zs.all (inB 1 2000000) = true ∧ zs.sum ≤ 2000000 ∧ (0 ≤ f ∧ f ≤ zs[zs.length - 1]?.getD 0 - 1) := by
  unfold fluxOk
  simp only [Bool.and_eq_true, inB_iff, decide_eq_true_eq]
  constructor
  · rintro ⟨h1, ⟨h2, h3⟩, h4, h5, h6⟩
    exact ⟨h1, ⟨by omega, by omega⟩, h4, h5, h6⟩
  · rintro ⟨h1, ⟨h2, h3⟩, h4, h5, h6⟩
    exact ⟨h1, ⟨by omega, by omega⟩, h4, h5, h6⟩
end Go.Proofs.Ytllcbiafghhcmaa
end
section
set_option linter.unusedVariables false
namespace Go.Proofs.Ytllcbiafghhcmaa
open Go.RowKit
/-- In the world w the address p holds these three fields. -/
def FluxAt (w : World) (p : Nat) (c f : Int) (a : Option Addr) (n d : Nat) : Prop :=
  w.cell? ⟨p, 0, none⟩ = some (.int .i64 c) ∧ w.cell? ⟨p, 1, none⟩ = some (.int .i64 f) ∧ w.cell? ⟨p, 2, none⟩ = some (.slice a n d)
theorem FluxAt.below {w w' : World} {B p : Nat} {c f : Int} {a : Option Addr} {n d : Nat} (h : FluxAt w p c f a n d) (hb : Below B w w') (hp : p < B) : FluxAt w' p c f a n d :=
  ⟨by rw [hb.cell (p := ⟨p, 0, none⟩) hp]; exact h.1, by rw [hb.cell (p := ⟨p, 1, none⟩) hp]; exact h.2.1, by rw [hb.cell (p := ⟨p, 2, none⟩) hp]; exact h.2.2⟩
theorem FluxAt.new (w : World) (c f : Int) (a : Option Addr) (n d : Nat) (T : TypeId) (p : Nat) (hp : w.heap.size = p) : FluxAt (w.alloc (.cells #[.int .i64 c, .int .i64 f, .slice a n d] T)) p c f a n d := by
  subst hp
  exact ⟨by simp [go_sem], by simp [go_sem], by simp [go_sem]⟩
theorem FluxAt.drew {w : World} {p : Nat} {c f : Int} {a : Option Addr} {n d : Nat} (h : FluxAt w p c f a n d) : FluxAt w.drew p c f a n d := h
theorem FluxAt.lt {w : World} {p : Nat} {c f : Int} {a : Option Addr} {n d : Nat} (h : FluxAt w p c f a n d) : p < w.heap.size := World.block_lt_of_cell? w _ h.1
theorem fluxOk_all_no {c f : Int} {zs : List Int} {k : Nat} {x : Int} (h : zs[k]? = some x) (hx : inB 1 2000000 x = false) : fluxOk c f zs = false := by
  unfold fluxOk; rw [all_false_of h hx]; simp
end Go.Proofs.Ytllcbiafghhcmaa
end
section
set_option linter.unusedVariables false
namespace Go.Proofs.Ytllcbiafghhcmaa
open Go.RowKit
/-- Of the blocks that were there, only the one that the slice's address leads to may differ. -/
structure Keep (a : Option Addr) (w w' : World) : Prop where
  os : w'.os = w.os
  tape : w'.tape = w.tape
  output : w'.output = w.output
  size : w.heap.size ≤ w'.heap.size
  block : ∀ b, b < w.heap.size → a.map (·.block) ≠ some b → w'.heap[b]? = w.heap[b]?
theorem Keep.of_below {a : Option Addr} {w w' : World} (h : Below w.heap.size w w') : Keep a w w' := ⟨h.os, h.tape, h.output, h.size, fun b hb _ => h.block b hb⟩
theorem Keep.trans {a : Option Addr} {w w1 w2 : World} (h : Keep a w w1) (k : Keep a w1 w2) : Keep a w w2 :=
  ⟨k.os.trans h.os, k.tape.trans h.tape, k.output.trans h.output, Nat.le_trans h.size k.size, fun b hb hn => (k.block b (Nat.lt_of_lt_of_le hb h.size) hn).trans (h.block b hb hn)⟩
theorem Keep.cell {a : Option Addr} {w w' : World} (h : Keep a w w') {b o : Nat} (hb : b < w.heap.size) (hn : a.map (·.block) ≠ some b) : w'.cell? ⟨b, o, none⟩ = w.cell? ⟨b, o, none⟩ := World.cell?_of_block (h.block b hb hn)
theorem FluxAt.keep {x : Option Addr} {w w' : World} {p : Nat} {c f : Int} {a : Option Addr} {n d : Nat} (h : FluxAt w p c f a n d) (hk : Keep x w w') (hn : x.map (·.block) ≠ some p) : FluxAt w' p c f a n d := by
  have hl := h.lt
  exact ⟨by rw [hk.cell hl hn]; exact h.1, by rw [hk.cell hl hn]; exact h.2.1, by rw [hk.cell hl hn]; exact h.2.2⟩
/-- An owned row whose block lies in [B, C). -/
def SlI (w : World) (B C : Nat) (a : Option Addr) (zs : List Int) : Prop :=
  zs = [] ∨ ∃ g rest, a = some ⟨g, 0, none⟩ ∧ B ≤ g ∧ g < C ∧ w.heap[g]? = some (.cells ((zs.map (Value.int .i64)).toArray ++ rest) 2 (0, 0))
theorem SlO.within {w : World} {B : Nat} {a : Option Addr} {zs : List Int} (h : SlO w B a zs) : SlI w B w.heap.size a zs := by
  rcases h with rfl | ⟨g, rest, rfl, hg, hh⟩
  · exact .inl rfl
  · exact .inr ⟨g, rest, rfl, hg, (Array.getElem?_eq_some_iff.1 hh).1, hh⟩
theorem SlI.sl {w : World} {B C : Nat} {a : Option Addr} {zs : List Int} (h : SlI w B C a zs) : SlA w a zs := by
  rcases h with rfl | ⟨g, rest, rfl, hg, _, hh⟩
  · exact .inl rfl
  · exact (show SlO w B (some ⟨g, 0, none⟩) zs from .inr ⟨g, rest, rfl, hg, hh⟩).sl
theorem SlI.below {w w' : World} {B C D : Nat} {a : Option Addr} {zs : List Int} (h : SlI w B C a zs) (hb : Below D w w') (hD : C ≤ D) : SlI w' B C a zs := by
  rcases h with rfl | ⟨g, rest, rfl, hg, hC, hh⟩
  · exact .inl rfl
  · exact .inr ⟨g, rest, rfl, hg, hC, by rw [hb.block g (by omega)]; exact hh⟩
theorem SlI.mono {w : World} {B B' C C' : Nat} {a : Option Addr} {zs : List Int} (h : SlI w B C a zs) (hB : B' ≤ B) (hC : C ≤ C') : SlI w B' C' a zs := by
  rcases h with rfl | ⟨g, rest, rfl, hg, hl, hh⟩
  · exact .inl rfl
  · exact .inr ⟨g, rest, rfl, by omega, by omega, hh⟩
end Go.Proofs.Ytllcbiafghhcmaa
end
section
set_option linter.unusedVariables false
namespace Go.Proofs.Ytllcbiafghhcmaa
open Go.RowKit
def ToFluxPost (cl f : Int) (zs : List Int) (w : World) (e : Ending) (w' : World) : Prop :=
  ∃ g, e = .returned (.agg #[.int .i64 cl, .int .i64 f, .slice (some ⟨g, 0, none⟩) zs.length zs.length]) ∧ RowAt w' g zs ∧ w.heap.size ≤ g ∧ Below w.heap.size w w'
/-- Whether two fluxes are equal, field by field. -/
def fluxEq (c1 f1 : Int) (xs : List Int) (c2 f2 : Int) (ys : List Int) : Bool := c1 == c2 && (f1 == f2 && xs == ys)
end Go.Proofs.Ytllcbiafghhcmaa
end
section
set_option linter.unusedVariables false
namespace Go.Proofs.Ytllcbiafghhcmaa
open Go.RowKit
/-- Of the blocks that were there, only those from lo on and below hi may differ. -/
structure Sm (lo hi : Nat) (w w' : World) : Prop where
  size : w.heap.size ≤ w'.heap.size
  block : ∀ b, b < w.heap.size → (b < lo ∨ hi ≤ b) → w'.heap[b]? = w.heap[b]?
theorem Sm.of_below {w w' : World} (h : Below w.heap.size w w') : Sm 0 0 w w' := ⟨h.size, fun b hb _ => h.block b hb⟩
theorem Sm.alloc (w : World) (o : Obj) : Sm 0 0 w (w.alloc o) := ⟨by simp, fun b hb _ => Below.heap_alloc w o b hb⟩
theorem Sm.refl (w : World) : Sm 0 0 w w := ⟨Nat.le_refl _, fun _ _ _ => rfl⟩
theorem FluxAt.sm {lo hi : Nat} {w w' : World} {p : Nat} {c f : Int} {a : Option Addr} {n d : Nat} (h : FluxAt w p c f a n d) (hs : Sm lo hi w w') (hp : p < lo ∨ hi ≤ p) : FluxAt w' p c f a n d := by
  have hl := h.lt
  have e : ∀ o, w'.cell? ⟨p, o, none⟩ = w.cell? ⟨p, o, none⟩ := fun o => World.cell?_of_block (hs.block p hl hp)
  exact ⟨by rw [e]; exact h.1, by rw [e]; exact h.2.1, by rw [e]; exact h.2.2⟩
theorem SlI.sm {lo hi : Nat} {w w' : World} {B C : Nat} {a : Option Addr} {zs : List Int} (h : SlI w B C a zs) (hs : Sm lo hi w w') (hp : C ≤ lo ∨ hi ≤ B) : SlI w' B C a zs := by
  rcases h with rfl | ⟨g, rest, rfl, hg, hC, hh⟩
  · exact .inl rfl
  · exact .inr ⟨g, rest, rfl, hg, hC, by rw [hs.block g (Array.getElem?_eq_some_iff.1 hh).1 (by omega)]; exact hh⟩
theorem RowAt.sli {w : World} {g B : Nat} {zs : List Int} (h : RowAt w g zs) (hg : B ≤ g) : SlI w B w.heap.size (some ⟨g, 0, none⟩) zs := (h.slO hg).within
theorem SlI.drew {w : World} {B C : Nat} {a : Option Addr} {zs : List Int} (h : SlI w B C a zs) : SlI w.drew B C a zs := h
theorem below_step {n₀ : Nat} {w W W' : World} (h : Below n₀ w W) (hn : n₀ ≤ W.heap.size) (hb : Below W.heap.size W W') : Below n₀ w W' := h.trans (hb.mono hn)
theorem below_new {n₀ : Nat} {w W : World} (h : Below n₀ w W) (hn : n₀ ≤ W.heap.size) (o : Obj) : Below n₀ w (W.alloc o) := h.alloc hn o
theorem below_undrew {B : Nat} {w w' : World} (h : Below B w.drew w') : Below B w w' := ⟨h.os, h.tape, h.output, h.size, h.block⟩
/-- What a mark of a row in [B, C) has done. -/
def Marked (B C : Nat) (a : Option Addr) (k n : Nat) (w : World) (e : Ending) (w' : World) : Prop :=
  e = .returned (.int .i64 ((k + n : Nat) : Int)) ∧ SlI w' B C a (fromK k n) ∧ (∀ D, D ≤ B → D ≤ w.heap.size → Below D w w') ∧ Sm B C w w'
end Go.Proofs.Ytllcbiafghhcmaa
end
section
set_option linter.unusedVariables false
namespace Go.Proofs.Ytllcbiafghhcmaa
open Go.RowKit
theorem SlSI.sm {E : Type} {row : E → List Value} {T : TypeId} {lo hi : Nat} {w w' : World} {B C : Nat} {a : Option Addr} {es : List E} (h : SlSI row T w B C a es) (hs : Sm lo hi w w') (hp : C ≤ lo ∨ hi ≤ B) : SlSI row T w' B C a es := by
  rcases h with rfl | ⟨g, rest, rfl, hg, hC, hh⟩
  · exact .inl rfl
  · exact .inr ⟨g, rest, rfl, hg, hC, by rw [hs.block g (Array.getElem?_eq_some_iff.1 hh).1 (by omega)]; exact hh⟩
theorem BoxAt.sm {lo hi : Nat} {w w' : World} {p : Nat} {vs : Array Value} (h : BoxAt w p vs) (hs : Sm lo hi w w') (hp : p < lo ∨ hi ≤ p) : BoxAt w' p vs := by
  intro i v hv
  have h1 := h i v hv
  rw [World.cell?_of_block (hs.block p (World.block_lt_of_cell? w _ h1) hp)]
  exact h1
end Go.Proofs.Ytllcbiafghhcmaa
end
section
set_option linter.unusedVariables false
namespace Go.Proofs.Ytllcbiafghhcmaa
open Go.RowKit Go.ChangeShapes Go.WideShapes Go.ChangeAt Go.Joins Go.Deep
set_option linter.unusedVariables false
set_option linter.unusedSimpArgs false
set_option maxRecDepth 20000
structure DiscV where
  f0 : Int
  f1 : Int
  f2 : Int
  f3 : Int
  f4 : List SectorV
def wtDisc (x : DiscV) : Nat := wtSector x.f4
theorem wtDisc_len (x : DiscV) : x.f4.length ≤ wtDisc x := wtSector_len _
/-- What the walk is told of a Disc that came in. -/
def ArgDisc (W : World) (a : Option Addr) (x : DiscV) : Prop := x.f4.length ≤ maxLen ∧ SlS rowSector W a x.f4 ∧ ∀ e ∈ x.f4, e.f0.size ≤ maxLen
def ToDiscPost (x : DiscV) (w : World) (e : Ending) (w' : World) : Prop :=
  ∃ g, e = .returned (.agg #[.int .i64 x.f0, .int .i64 x.f1, .int .i64 x.f2, .int .i64 x.f3, .slice (some ⟨g, 0, none⟩) x.f4.length x.f4.length]) ∧ BlkS rowSector 39 w' g x.f4 ∧ w.heap.size ≤ g ∧ Below w.heap.size w w'
theorem DiscV.ext' {x y : DiscV} (h : x.f0 = y.f0 ∧ x.f1 = y.f1 ∧ x.f2 = y.f2 ∧ x.f3 = y.f3 ∧ x.f4 = y.f4) : x = y := by
  obtain ⟨x0, x1, x2, x3, x4⟩ := x; obtain ⟨y0, y1, y2, y3, y4⟩ := y
  simpa using h
end Go.Proofs.Ytllcbiafghhcmaa
end
section
set_option linter.unusedVariables false
namespace Go.Proofs.Ytllcbiafghhcmaa
open Go.RowKit
def isCell (c : UInt8) : Bool := c == 48 || c == 49
def cellsL (l : List UInt8) : Bool := l.all isCell
/-- 1 to 8000 characters 0 and 1. -/
def validCells (s : ByteArray) : Bool := cellsL s.data.toList && inB 1 8000 s.size
theorem cellsL_snoc (s : ByteArray) (k : Nat) (h : k < s.size) : cellsL (s.data.toList.take (k + 1)) = (cellsL (s.data.toList.take k) && isCell s[k]) := by
  have e : s.data.toList.take (k + 1) = s.data.toList.take k ++ [s[k]] := by rw [List.take_succ_eq_append_getElem (by simpa using h)]; rfl
  rw [e]; simp [cellsL]
theorem cellsL_no (s : ByteArray) (k : Nat) (h : k < s.size) (hc : isCell s[k] = false) : cellsL s.data.toList = false := by
  unfold cellsL
  rw [List.all_eq_false]
  exact ⟨s[k], by show s.data[k] ∈ _; simp, by simp [hc]⟩
theorem take_ge' (s : ByteArray) (k : Nat) (h : s.size ≤ k) : s.data.toList.take k = s.data.toList := by
  refine List.take_of_length_le ?_
  have : s.data.toList.length = s.size := by simp
  omega
theorem isCell_iff (c : UInt8) : isCell c = true ↔ c.toNat = 48 ∨ c.toNat = 49 := by
  unfold isCell
  simp only [Bool.or_eq_true, beq_iff_eq, ← UInt8.toNat_inj]
  rfl
/-- The rune at a byte that is no cell is no cell. -/
theorem rune_no (s : ByteArray) (pos : Nat) (h : pos < s.size) (hc : isCell s[pos] = false) : (Utf8.decode s pos).1 ≠ 48 ∧ (Utf8.decode s pos).1 ≠ 49 := by
  have h1 : ¬ (s[pos].toNat = 48 ∨ s[pos].toNat = 49) := by rw [← isCell_iff]; simp [hc]
  by_cases ha : s[pos].toNat < 128
  · rw [decode_ascii s pos h ha]
    exact ⟨fun e => h1 (.inl e), fun e => h1 (.inr e)⟩
  · have := (decode_high s pos h (by omega)).1
    omega
end Go.Proofs.Ytllcbiafghhcmaa
end
