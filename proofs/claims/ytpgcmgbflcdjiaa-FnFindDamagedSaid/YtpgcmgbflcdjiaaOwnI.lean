/- Rows of int64 that the call owns: append; a result that shares no memory: laws.markInt64S, laws.heldInt64S. -/
import Derived.Test.YtpgcmgbflcdjiaaSlices
import Derived.Test.YtpgcmgbflcdjiaaLawSl
import Derived.OwnWalk
import Derived.Maps.AppendAt
import Derived.Deep.AppendLies
import Derived.Deep.RegionHeld3
import Derived.BigRegion
namespace Go.Proofs.Ytpgcmgbflcdjiaa
open Go.RowKit
set_option linter.unusedVariables false
/-- v is a slice of int64s of the call's own, with the numbers l. -/
def OwnI (w : World) (B : Nat) (v : Value) (l : List Int) : Prop := w.ownsRow B 2 1 v l.length (l.map (Value.int .i64))
theorem OwnI.nil (w : World) (B : Nat) : OwnI w B (.slice none 0 0) [] := ⟨rfl, .inl ⟨rfl, rfl⟩⟩
theorem OwnI.empty (w : World) (B : Nat) (hB : B ≤ w.heap.size) : OwnI (w.alloc (.cells #[] 2)) B (.slice (some ⟨w.heap.size, 0, none⟩) 0 0) [] := by
  refine ⟨rfl, .inr ⟨w.heap.size, 0, #[], rfl, hB, heap_alloc_new w _, Nat.le_refl _, by simp [maxLen], rfl, rfl⟩⟩
theorem OwnI.alloc {w : World} {B : Nat} {v : Value} {l : List Int} (h : OwnI w B v l) (o : Obj) : OwnI (w.alloc o) B v l := World.ownsRow.alloc h o
theorem OwnI.drew {w : World} {B : Nat} {v : Value} {l : List Int} (h : OwnI w B v l) : OwnI w.drew B v l := h
theorem OwnI.snoc {w : World} {B : Nat} {v : Value} {l : List Int} {x : Int}
    (h : w.ownsRow B 2 1 v (l.length + 1) (l.map (Value.int .i64) ++ [.int .i64 x])) : OwnI w B v (l ++ [x]) := by
  unfold OwnI
  simpa using h
theorem OwnI.belowOf {B : Nat} {w w' : World} {v : Value} {l : List Int} (h : OwnI w B v l) (hB : B ≤ w.heap.size) (hg : w.grownBy w' v.ownBlock) : Below B w w' := by
  refine (Below.refl B w).grown hg hB ?_
  intro k hk
  rcases h.2 with ⟨rfl, _⟩ | ⟨g, cap, cur, rfl, hg, _⟩
  · cases hk
  · cases hk; exact hg
/-- In the world w the slice 'a' with this capacity has just the numbers zs, in a block of its own from B on. -/
def SlO (w : World) (B : Nat) (a : Option Addr) (zs : List Int) : Prop :=
  zs = [] ∨ ∃ g rest, a = some ⟨g, 0, none⟩ ∧ B ≤ g ∧ w.heap[g]? = some (.cells ((zs.map (Value.int .i64)).toArray ++ rest) 2 (0, 0))
theorem OwnI.slO {w : World} {B : Nat} {v : Value} {l : List Int} (h : OwnI w B v l) : ∃ a c, v = .slice a l.length c ∧ SlO w B a l := by
  obtain ⟨h1, h2⟩ := h
  rcases h2 with ⟨rfl, hl⟩ | ⟨g, cap, cur, rfl, hg, hh, hn, hm, hs, ht⟩
  · exact ⟨none, 0, by rw [hl], .inl (List.length_eq_zero_iff.1 hl)⟩
  · refine ⟨_, _, rfl, .inr ⟨g, (cur.toList.drop l.length).toArray, rfl, hg, ?_⟩⟩
    rw [hh]
    congr 2
    apply Array.ext'
    simp only [Array.toList_append]
    rw [← ht]
    simp
theorem RowAt.slO {w : World} {B g : Nat} {zs : List Int} (h : RowAt w g zs) (hg : B ≤ g) : SlO w B (some ⟨g, 0, none⟩) zs :=
  .inr ⟨g, #[], rfl, hg, by unfold RowAt at h; simpa using h⟩
theorem SlO.nil (w : World) (B : Nat) (a : Option Addr) : SlO w B a [] := .inl rfl
theorem SlO.mono {w : World} {B B' : Nat} {a : Option Addr} {zs : List Int} (h : SlO w B a zs) (hB : B' ≤ B) : SlO w B' a zs := by
  rcases h with rfl | ⟨g, rest, rfl, hg, hh⟩
  · exact .inl rfl
  · exact .inr ⟨g, rest, rfl, Nat.le_trans hB hg, hh⟩
theorem SlO.sl {w : World} {B : Nat} {a : Option Addr} {zs : List Int} (h : SlO w B a zs) : SlA w a zs := by
  rcases h with rfl | ⟨g, rest, rfl, hg, hh⟩
  · exact .inl rfl
  · refine .inr ⟨g, 0, rfl, (Array.getElem?_eq_some_iff.1 hh).1, ?_⟩
    intro i x hx
    have hi : i < zs.length := (List.getElem?_eq_some_iff.1 hx).1
    simp [World.cell?, hh, Array.getElem?_append, hi]
    obtain ⟨_, e⟩ := List.getElem?_eq_some_iff.1 hx
    exact e
theorem SlO.drew {w : World} {B : Nat} {a : Option Addr} {zs : List Int} (h : SlO w B a zs) : SlO w.drew B a zs := h
/-- An owned row that lies below a mark is kept by what leaves all below the mark. -/
theorem SlO.below {w w' : World} {B C : Nat} {a : Option Addr} {zs : List Int} (h : SlO w B a zs) (hb : Below C w w') (hC : w.heap.size ≤ C) : SlO w' B a zs := by
  rcases h with rfl | ⟨g, rest, rfl, hg, hh⟩
  · exact .inl rfl
  · have hl : g < w.heap.size := (Array.getElem?_eq_some_iff.1 hh).1
    exact .inr ⟨g, rest, rfl, hg, by rw [hb.block g (by omega)]; exact hh⟩

section
variable {ops : Array Oper} {o : Oper} {a : Act} {Q : Exit → Act → World → Prop} {w : World}
/-- 'append(out, x)' of one int64 to a row of the call's own, in a plain region. -/
theorem wpList_appendI {rest : List Oper} (T : TypeId) (hT : Try.prog.underlying T = some (.slice 2)) (hgd : o.guard = none) (s x : Operand) (ho : o.op = .call { callee := .builtin .append, args := #[s, x], argTypes := #[T, T] })
    {B : Nat} {v : Value} {l : List Int} (hs : a.eval s = v) (hown : OwnI w B v l) (n : Int) (ad : Addr) (c : Nat) (hx : a.eval x = .slice (some ad) 1 c)
    (hc : ∀ j u, [Value.int .i64 n][j]? = some u → w.cell? (ad.add j) = some u) (hl : l.length < 1073741824) (hB : B ≤ w.heap.size)
    (h : ∀ g cap w', OwnI w' B (.slice (some ⟨g, 0, none⟩) (l.length + 1) cap) (l ++ [n]) → Below B w w' → (v.ownBlock = some g ∨ g = w.heap.size) → wpList Try.prog ops Q rest (a.put o.dst (.slice (some ⟨g, 0, none⟩) (l.length + 1) cap)) w') : wpList Try.prog ops Q (o :: rest) a w := by
  obtain ⟨i0, hi, hz0, hz1, hz2⟩ := info_parts i64info
  refine wpList_append_lies w hgd s x T ho B 2 i0 (.int .i64 0) 1 8 hT hi hz0 hz1 hz2 rfl (by decide) v l.length (l.map (Value.int .i64)) hs hown ad 1 c [.int .i64 n] hx rfl hc (by simp [Value.oneCell']) (by decide) (by unfold maxLen; omega) (by omega) hB _ rfl ?_
  intro g cap w' h2 h3 h4 _
  exact h g cap w' (OwnI.snoc h2) (hown.belowOf hB h3) h4
/-- The same, in a region that draws its order. -/
theorem step_appendI {K : Act → World → Prop} {E : Prop} (T : TypeId) (hT : Try.prog.underlying T = some (.slice 2)) (hgd : o.guard = none) (s x : Operand) (ho : o.op = .call { callee := .builtin .append, args := #[s, x], argTypes := #[T, T] })
    {B : Nat} {v : Value} {l : List Int} (hs : a.eval s = v) (hown : OwnI w B v l) (n : Int) (ad : Addr) (c : Nat) (hx : a.eval x = .slice (some ad) 1 c)
    (hc : ∀ j u, [Value.int .i64 n][j]? = some u → w.cell? (ad.add j) = some u) (hl : l.length < 1073741824) (hB : B ≤ w.heap.size)
    (h : ∀ g cap w', OwnI w' B (.slice (some ⟨g, 0, none⟩) (l.length + 1) cap) (l ++ [n]) → Below B w w' → (v.ownBlock = some g ∨ g = w.heap.size) → K (a.put o.dst (.slice (some ⟨g, 0, none⟩) (l.length + 1) cap)) w') :
    if Region.wanted o (yielded ops a.tmps) = true then Oper.wp Try.prog o a w K Q else E := by
  obtain ⟨i0, hi, hz0, hz1, hz2⟩ := info_parts i64info
  refine step_append_lies w hgd s x T ho B 2 i0 (.int .i64 0) 1 8 hT hi hz0 hz1 hz2 rfl (by decide) v l.length (l.map (Value.int .i64)) hs hown ad 1 c [.int .i64 n] hx rfl hc (by simp [Value.oneCell']) (by decide) (by unfold maxLen; omega) (by omega) hB _ rfl ?_
  intro g cap w' h2 h3 h4 _
  exact h g cap w' (OwnI.snoc h2) (hown.belowOf hB h3) h4
end

/-- Only block g may differ, and no block has come. -/
structure Touch (g : Nat) (w w' : World) : Prop where
  os : w'.os = w.os
  tape : w'.tape = w.tape
  output : w'.output = w.output
  size : w'.heap.size = w.heap.size
  block : ∀ k, k ≠ g → w'.heap[k]? = w.heap[k]?
theorem Touch.refl (g : Nat) (w : World) : Touch g w w := ⟨rfl, rfl, rfl, rfl, fun _ _ => rfl⟩
theorem Touch.setCell {g : Nat} {w w' : World} (h : Touch g w w') (i : Nat) (v : Value) : Touch g w (w'.setCell ⟨g, i, none⟩ v) :=
  ⟨h.os, h.tape, h.output, by rw [← h.size]; simp [World.setCell], fun k hk => by rw [Below.heap_setCell _ _ _ _ hk]; exact h.block k hk⟩
theorem Touch.drew {g : Nat} {w w' : World} (h : Touch g w w') : Touch g w w'.drew := ⟨h.os, h.tape, h.output, h.size, h.block⟩
theorem Touch.below {g B : Nat} {w w' : World} (h : Touch g w w') (hB : B ≤ g) : Below B w w' :=
  ⟨h.os, h.tape, h.output, Nat.le_of_eq h.size.symm, fun k hk => h.block k (by omega)⟩
theorem heap_set_row (w : World) (g i : Nat) (cs : Array Value) (t : TypeId) (v : Value) (hg : w.heap[g]? = some (.cells cs t (0, 0))) :
    (w.setCell ⟨g, i, none⟩ v).heap[g]? = some (.cells (cs.setIfInBounds i v) t (0, 0)) := by
  simp [World.setCell, Array.getElem?_modify, hg]
/-- The numbers from k on, n of them. -/
def fromK (k : Int) : Nat → List Int
  | 0 => []
  | n + 1 => fromK k n ++ [k + n]
theorem fromK_length (k : Int) (n : Nat) : (fromK k n).length = n := by
  induction n with
  | zero => rfl
  | succ n ih => simp [fromK, ih]
theorem fromK_at (k : Int) (n i : Nat) (h : i < n) : (fromK k n)[i]? = some (k + i) := by
  induction n with
  | zero => omega
  | succ n ih =>
    unfold fromK
    by_cases e : i < n
    · rw [List.getElem?_append_left (by rw [fromK_length]; omega)]; exact ih e
    · obtain rfl : i = n := by omega
      rw [List.getElem?_append_right (by rw [fromK_length]; omega), fromK_length]; simp
/-- The row's cells when i of its numbers are overwritten. -/
def mkRow (k : Int) (zs : List Int) (i : Nat) (rest : Array Value) : Array Value := ((fromK k i ++ zs.drop i).map (Value.int .i64)).toArray ++ rest
theorem mkRow_zero (k : Int) (zs : List Int) (rest : Array Value) : mkRow k zs 0 rest = (zs.map (Value.int .i64)).toArray ++ rest := by simp [mkRow, fromK]
theorem mkRow_all (k : Int) (zs : List Int) (rest : Array Value) : mkRow k zs zs.length rest = ((fromK k zs.length).map (Value.int .i64)).toArray ++ rest := by simp [mkRow]
theorem mkRow_size (k : Int) (zs : List Int) (i : Nat) (rest : Array Value) (h : i ≤ zs.length) : (mkRow k zs i rest).size = zs.length + rest.size := by
  simp [mkRow, fromK_length]; omega
theorem mkRow_succ (k : Int) (zs : List Int) (i : Nat) (rest : Array Value) (h : i < zs.length) : (mkRow k zs i rest).setIfInBounds i (.int .i64 (k + i)) = mkRow k zs (i + 1) rest := by
  apply Array.ext'
  simp only [mkRow, Array.toList_setIfInBounds, Array.toList_append]
  have hd : zs.drop i = zs[i] :: zs.drop (i + 1) := by simp
  have hl : (List.map (Value.int .i64) (fromK k i)).length = i := by simp [fromK_length]
  rw [hd]
  simp only [fromK, List.map_append, List.append_assoc]
  rw [List.set_append_right _ _ (by omega), hl]
  simp only [Nat.sub_self, List.map_cons, List.map_nil, List.cons_append, List.nil_append, List.set_cons_zero]
end Go.Proofs.Ytpgcmgbflcdjiaa
