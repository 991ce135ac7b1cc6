/- The base of this seat's texts: the walk's kit and small lemmas. -/
import Derived.Test.YtllcbiafghhcmaaProg
import Derived.WalkKit
import Derived.WalkSpells
import Derived.WalkLawsBesides
import Derived.Handy
import Derived.LoopN
import Derived.Lib.Hide
import Derived.Deep.LoopGhost
import Derived.Deep.QuietTactic
import Derived.BigQuiet
import Derived.Laws.IdiomStrings
import Derived.OwnWalk
import Derived.Maps.AppendAt
import Derived.Lib.UnsafeStr
import Derived.Lib.BufferWrite
import Derived.Deep.AppendLies
import Derived.Deep.RegionHeld3
import Derived.WalkSmall
import Derived.Laws.Runes
import Derived.Laws.BitsLemmas
import Derived.WalkMore
section
set_option linter.unusedVariables false
namespace Go.Proofs.Ytllcbiafghhcmaa
open Go.RowKit

theorem ret_bool {a b : Bool} (h : a = b) : Ending.returned (.bool a) = .returned (.bool b) := by rw [h]
theorem ret_int {k : IntKind} {a b : Int} (h : a = b) : Ending.returned (.int k a) = .returned (.int k b) := by rw [h]

theorem bcell {W w1 : World} (hb : Below W.heap.size W w1) : (∀ b o, b < W.heap.size → w1.cell? ⟨b, o, none⟩ = W.cell? ⟨b, o, none⟩) ∧ (∀ b o, b < W.heap.size → w1.frozen? ⟨b, o, none⟩ = W.frozen? ⟨b, o, none⟩) :=
  ⟨fun b o h => hb.cell (p := ⟨b, o, none⟩) h, fun b o h => hb.frozen (p := ⟨b, o, none⟩) h⟩

/-- What the walk is told of a slice of integers that came in: it is nil, or leads to a row of cells. -/
def IsRow (k : IntKind) (w : World) (a : Option Addr) (len cap : Nat) (zs : List Int) : Prop :=
  (a = none ∧ len = 0 ∧ cap = 0 ∧ zs = []) ∨
  ∃ x, a = some x ∧ len ≤ cap ∧ cap ≤ maxLen ∧ zs.length = cap ∧ (∀ i, i < zs.length → w.cell? (x.add i) = some (.int k (zs.getD i 0))) ∧ ∀ n ∈ zs, (Lit.int k n).wf = true

/-- lo ≤ n ≤ hi. -/
def inB (lo hi n : Int) : Bool := decide (lo ≤ n) && decide (n ≤ hi)
theorem inB_true {lo hi n : Int} (h1 : ¬ n < lo) (h2 : ¬ hi < n) : inB lo hi n = true := by unfold inB; simp; omega
theorem inB_lo {lo hi n : Int} (h1 : n < lo) : inB lo hi n = false := by unfold inB; simp; omega
theorem inB_hi {lo hi n : Int} (h1 : hi < n) : inB lo hi n = false := by unfold inB; simp; omega
theorem inB_iff {lo hi n : Int} : inB lo hi n = true ↔ lo ≤ n ∧ n ≤ hi := by unfold inB; simp

theorem all_take_snoc {p : Int → Bool} {zs : List Int} {k : Nat} {x : Int} (h : zs[k]? = some x) : (zs.take (k+1)).all p = ((zs.take k).all p && p x) := by
  rw [List.take_add_one, h]; simp
theorem all_false_of {p : Int → Bool} {zs : List Int} {k : Nat} {x : Int} (h : zs[k]? = some x) (hp : p x = false) : zs.all p = false := by
  rw [List.all_eq_false]
  exact ⟨x, List.mem_of_getElem? h, by simp [hp]⟩
/-- The cells from an address on hold these int64s. -/
def Ints (w : World) (b off : Nat) (zs : List Int) : Prop := ∀ i x, zs[i]? = some x → w.cell? ⟨b, off + i, none⟩ = some (.int .i64 x)
end Go.Proofs.Ytllcbiafghhcmaa
end
section
set_option linter.unusedVariables false
namespace Go.Proofs.Ytllcbiafghhcmaa
open Go.RowKit

theorem u8info : (Try.prog.info? 5).map (fun i => (i.zero, i.size, i.bytes)) = some (some (.int .u8 0), 1, 1) := by kernel_rfl

/-- 'string(b)' of a slice of bytes whose cells are l. -/
theorem conv_of (W : World) (a : Addr) (cap : Nat) (l : List UInt8) (hc : ∀ j (hj : j < l.length), W.cell? (a.add j) = some (.int .u8 (l[j].toNat : Int))) :
    (convert 22 9 (.slice (some a) l.length cap)).run Try.prog W = .ok (.string ⟨l.toArray⟩) W :=
  run_convert_bytes_back W 22 9 5 a cap l Try.underlying22 Try.underlying5 Try.underlying9 hc

theorem heap_set_marked (w : World) (g i : Nat) (cs : Array Value) (t : TypeId) (fr : Nat × Nat) (v : Value) (hg : w.heap[g]? = some (.cells cs t fr)) :
    (w.setCell ⟨g, i, none⟩ v).heap[g]? = some (.cells (cs.setIfInBounds i v) t fr) := by
  simp [World.setCell, Array.getElem?_modify, hg]
theorem add0 (b j : Nat) : ((⟨b, 0, none⟩ : Addr).add j) = ⟨b, j, none⟩ := by
  simp [Addr.add]
  intro h; exact h.symm

theorem conv_new2 (W : World) (x y : Int) (h1 : 0 ≤ x) (h2 : x < 256) (h3 : 0 ≤ y) (h4 : y < 256) :
    (convert 22 9 (.slice (some ⟨W.heap.size, 0, none⟩) 2 2)).run Try.prog (W.alloc (.cells #[.int .u8 x, .int .u8 y] 5)) = .ok (.string ⟨#[x.toNat.toUInt8, y.toNat.toUInt8]⟩) (W.alloc (.cells #[.int .u8 x, .int .u8 y] 5)) := by
  refine conv_of _ _ 2 [x.toNat.toUInt8, y.toNat.toUInt8] ?_
  intro j hj
  have e := add0 W.heap.size j
  have hx : x.toNat % 256 = x.toNat := Nat.mod_eq_of_lt (by omega)
  have hy : y.toNat % 256 = y.toNat := Nat.mod_eq_of_lt (by omega)
  match j, hj with
  | 0, _ => rw [e]; simp [go_sem, hx]; omega
  | 1, _ => rw [e]; simp [go_sem, hy]; omega
  | j + 2, hj => simp at hj; omega

/-- v is a slice of bytes of the call's own, with the bytes l. -/
def OwnB (w : World) (B : Nat) (v : Value) (l : List UInt8) : Prop := w.ownsRow B 5 1 v l.length (Lib.byteCells l)

theorem conv_own {w : World} {B : Nat} {v : Value} {l : List UInt8} (h : OwnB w B v l) : (convert 22 9 v).run Try.prog w = .ok (.string ⟨l.toArray⟩) w := by
  obtain ⟨h1, h2⟩ := h
  rcases h2 with ⟨rfl, hl⟩ | ⟨g, cap, cur, rfl, hg, hh, hn, hm, hs, ht⟩
  · have e : l = [] := List.length_eq_zero_iff.1 hl
    subst e
    rw [run_convert_bytes_string w _ _ _ none 0 0 Try.underlying22 Try.underlying5 Try.underlying9]
    rfl
  · refine conv_of _ _ cap l ?_
    intro j hj
    have e := add0 g j
    have hc : cur[j]? = some (.int .u8 (l[j].toNat : Int)) := by
      have h3 : (cur.toList.take (l.length * 1))[j]? = (Lib.byteCells l)[j]? := by rw [ht]
      rw [List.getElem?_take_of_lt (by omega)] at h3
      simpa [Lib.byteCells, hj] using h3
    rw [e]
    simp [World.cell?, hh, hc]

theorem OwnB.nil (w : World) (B : Nat) (hB : B ≤ w.heap.size) : OwnB (w.alloc (.cells #[] 5)) B (.slice (some ⟨w.heap.size, 0, none⟩) 0 0) [] := by
  refine ⟨rfl, .inr ⟨w.heap.size, 0, #[], rfl, hB, ?_, Nat.le_refl _, by simp [maxLen], rfl, rfl⟩⟩
  show (w.heap.push _)[w.heap.size]? = _
  simp

theorem OwnB.snoc {w : World} {B : Nat} {v : Value} {l : List UInt8} {x : Int} (h1 : 0 ≤ x) (h2 : x < 256)
    (h : w.ownsRow B 5 1 v (l.length + 1) (Lib.byteCells l ++ [.int .u8 x])) : OwnB w B v (l ++ [x.toNat.toUInt8]) := by
  have e : Lib.byteCells (l ++ [x.toNat.toUInt8]) = Lib.byteCells l ++ [.int .u8 x] := by
    rw [Lib.byteCells_append]
    have hx : x.toNat % 256 = x.toNat := Nat.mod_eq_of_lt (by omega)
    simp [Lib.byteCells, hx]; omega
  unfold OwnB
  rw [e]
  simpa using h

theorem below_of_grown {B : Nat} {w w' : World} {v : Value} {l : List UInt8} (h : OwnB w B v l) (hB : B ≤ w.heap.size) (hg : w.grownBy w' v.ownBlock) : Below B w w' := by
  refine (Below.refl B w).grown hg hB ?_
  intro k hk
  rcases h.2 with ⟨rfl, _⟩ | ⟨g, cap, cur, rfl, hg, _⟩
  · cases hk
  · cases hk; exact hg

section
variable {ops : Array Oper} {o : Oper} {a : Act} {Q : Exit → Act → World → Prop} {w : World}
/-- 'append(out, x)' of one byte to bytes of the call's own, in a plain region. -/
theorem wpList_appendB {rest : List Oper} (hgd : o.guard = none) (s x : Operand) (ho : o.op = .call { callee := .builtin .append, args := #[s, x], argTypes := #[22, 22] })
    {B : Nat} {v : Value} {l : List UInt8} (hs : a.eval s = v) (hown : OwnB w B v l) (x8 : Int) (h0 : 0 ≤ x8) (h1 : x8 < 256) (ad : Addr) (c : Nat) (hx : a.eval x = .slice (some ad) 1 c)
    (hc : ∀ j u, [Value.int .u8 x8][j]? = some u → w.cell? (ad.add j) = some u) (hl : l.length < 2147483648) (hB : B ≤ w.heap.size)
    (h : ∀ g cap w', OwnB w' B (.slice (some ⟨g, 0, none⟩) (l.length + 1) cap) (l ++ [x8.toNat.toUInt8]) → w.grownBy w' v.ownBlock → Below B w w' → (v.ownBlock = some g ∨ g = w.heap.size) → wpList Try.prog ops Q rest (a.put o.dst (.slice (some ⟨g, 0, none⟩) (l.length + 1) cap)) w') : wpList Try.prog ops Q (o :: rest) a w := by
  obtain ⟨i0, hi, hz0, hz1, hz2⟩ := info_parts u8info
  refine wpList_append_lies w hgd s x 22 ho B 5 i0 (.int .u8 0) 1 1 Try.underlying22 hi hz0 hz1 hz2 rfl (by decide) v l.length (Lib.byteCells l) hs hown ad 1 c [.int .u8 x8] hx rfl hc (by simp [Value.oneCell']) (by decide) (by unfold maxLen; omega) (by omega) hB _ rfl ?_
  intro g cap w' h2 h3 h4 _
  refine h g cap w' ?_ h3 (below_of_grown hown hB h3) h4
  have h5 := OwnB.snoc h0 h1 h2
  exact h5
/-- The same, in a region that draws its order. -/
theorem step_appendB {K : Act → World → Prop} {E : Prop} (hgd : o.guard = none) (s x : Operand) (ho : o.op = .call { callee := .builtin .append, args := #[s, x], argTypes := #[22, 22] })
    {B : Nat} {v : Value} {l : List UInt8} (hs : a.eval s = v) (hown : OwnB w B v l) (x8 : Int) (h0 : 0 ≤ x8) (h1 : x8 < 256) (ad : Addr) (c : Nat) (hx : a.eval x = .slice (some ad) 1 c)
    (hc : ∀ j u, [Value.int .u8 x8][j]? = some u → w.cell? (ad.add j) = some u) (hl : l.length < 2147483648) (hB : B ≤ w.heap.size)
    (h : ∀ g cap w', OwnB w' B (.slice (some ⟨g, 0, none⟩) (l.length + 1) cap) (l ++ [x8.toNat.toUInt8]) → w.grownBy w' v.ownBlock → Below B w w' → (v.ownBlock = some g ∨ g = w.heap.size) → K (a.put o.dst (.slice (some ⟨g, 0, none⟩) (l.length + 1) cap)) w') :
    if Region.wanted o (yielded ops a.tmps) = true then Oper.wp Try.prog o a w K Q else E := by
  obtain ⟨i0, hi, hz0, hz1, hz2⟩ := info_parts u8info
  refine step_append_lies w hgd s x 22 ho B 5 i0 (.int .u8 0) 1 1 Try.underlying22 hi hz0 hz1 hz2 rfl (by decide) v l.length (Lib.byteCells l) hs hown ad 1 c [.int .u8 x8] hx rfl hc (by simp [Value.oneCell']) (by decide) (by unfold maxLen; omega) (by omega) hB _ rfl ?_
  intro g cap w' h2 h3 h4 _
  exact h g cap w' (OwnB.snoc h0 h1 h2) h3 (below_of_grown hown hB h3) h4
/-- The same, of several bytes. -/
theorem step_appendBs {K : Act → World → Prop} {E : Prop} (hgd : o.guard = none) (s x : Operand) (ho : o.op = .call { callee := .builtin .append, args := #[s, x], argTypes := #[22, 22] })
    {B : Nat} {v : Value} {l : List UInt8} (hs : a.eval s = v) (hown : OwnB w B v l) (cs : List UInt8) (hcs : 0 < cs.length) (ad : Addr) (c : Nat) (hx : a.eval x = .slice (some ad) cs.length c)
    (hc : ∀ j u, (Lib.byteCells cs)[j]? = some u → w.cell? (ad.add j) = some u) (hl : l.length + cs.length < 2147483648) (hB : B ≤ w.heap.size)
    (h : ∀ g cap w', OwnB w' B (.slice (some ⟨g, 0, none⟩) (l.length + cs.length) cap) (l ++ cs) → w.grownBy w' v.ownBlock → Below B w w' → (v.ownBlock = some g ∨ g = w.heap.size) → K (a.put o.dst (.slice (some ⟨g, 0, none⟩) (l.length + cs.length) cap)) w') :
    if Region.wanted o (yielded ops a.tmps) = true then Oper.wp Try.prog o a w K Q else E := by
  obtain ⟨i0, hi, hz0, hz1, hz2⟩ := info_parts u8info
  refine step_append_lies w hgd s x 22 ho B 5 i0 (.int .u8 0) 1 1 Try.underlying22 hi hz0 hz1 hz2 rfl (by decide) v l.length (Lib.byteCells l) hs hown ad cs.length c (Lib.byteCells cs) hx (by rw [Lib.byteCells_length]; omega) hc (Lib.byteCells_one cs) hcs (by unfold maxLen; omega) (by omega) hB _ rfl ?_
  intro g cap w' h2 h3 h4 _
  refine h g cap w' ?_ h3 (below_of_grown hown hB h3) h4
  unfold OwnB
  rw [Lib.byteCells_append, List.length_append]
  exact h2
end
theorem OwnB.below {w w' : World} {B : Nat} {v : Value} {l : List UInt8} (h : OwnB w B v l) (hb : Below w.heap.size w w') : OwnB w' B v l := by
  refine ⟨h.1, ?_⟩
  rcases h.2 with h2 | ⟨g, cap, cur, rfl, hg, hh, r⟩
  · exact .inl h2
  · exact .inr ⟨g, cap, cur, rfl, hg, by rw [hb.block g (Array.getElem?_eq_some_iff.1 hh).1]; exact hh, r⟩
theorem OwnB.alloc {w : World} {B : Nat} {v : Value} {l : List UInt8} (h : OwnB w B v l) (o : Obj) : OwnB (w.alloc o) B v l := World.ownsRow.alloc h o
theorem OwnB.drew {w : World} {B : Nat} {v : Value} {l : List UInt8} (h : OwnB w B v l) : OwnB w.drew B v l := h
end Go.Proofs.Ytllcbiafghhcmaa
end
section
set_option linter.unusedVariables false
namespace Go.Proofs.Ytllcbiafghhcmaa
open Go.RowKit
/-- Nothing but block g has changed, and no block is new. -/
def Only (g : Nat) (w w' : World) : Prop := w'.os = w.os ∧ w'.tape = w.tape ∧ w'.output = w.output ∧ w'.heap.size = w.heap.size ∧ ∀ b, b ≠ g → w'.heap[b]? = w.heap[b]?
theorem Only.refl (g : Nat) (w : World) : Only g w w := ⟨rfl, rfl, rfl, rfl, fun _ _ => rfl⟩
theorem Only.trans {g : Nat} {a b c : World} (h : Only g a b) (h' : Only g b c) : Only g a c :=
  ⟨h'.1.trans h.1, h'.2.1.trans h.2.1, h'.2.2.1.trans h.2.2.1, h'.2.2.2.1.trans h.2.2.2.1, fun x hx => (h'.2.2.2.2 x hx).trans (h.2.2.2.2 x hx)⟩
theorem Only.drewN {g : Nat} {a b : World} (h : Only g a b) (n : Nat) : Only g a (b.drewN n) := h
theorem Only.setCell {g : Nat} {a b : World} (h : Only g a b) (i : Nat) (v : Value) : Only g a (b.setCell ⟨g, i, none⟩ v) :=
  ⟨h.1, h.2.1, h.2.2.1, by rw [← h.2.2.2.1]; simp [World.setCell], fun x hx => by rw [Below.heap_setCell _ _ _ _ (by simpa using hx)]; exact h.2.2.2.2 x hx⟩
theorem Only.below {g B : Nat} {a b : World} (h : Only g a b) (hB : B ≤ g) : Below B a b :=
  ⟨h.1, h.2.1, h.2.2.1, by rw [h.2.2.2.1]; exact Nat.le_refl _, fun i hi => h.2.2.2.2 i (by omega)⟩
theorem add_block (x : Addr) (i : Nat) : (x.add i).block = x.block := by
  cases x; unfold Addr.add; first | rfl | (split <;> rfl)
/-- The bytes that choose. -/
def CodeAt (w : World) (a : Option Addr) (n : Nat) : Prop := n = 0 ∨ ∃ x : Addr, a = some x ∧ ∀ i, i < n → ∃ v : Nat, v < 256 ∧ w.cell? (x.add i) = some (.int .u8 (v : Int))
/-- The source, k choices on. -/
def SrcAt (w : World) (p : Nat) (a : Option Addr) (n cap k : Nat) : Prop :=
  ∃ s : Int, w.heap[p]? = some (.cells #[.slice a n cap, .int .i64 (k : Int), .int .u64 s] 119 (0, 0)) ∧ (n = 0 ∨ ∀ x, a = some x → x.block ≠ p) ∧ CodeAt w a n
theorem CodeAt.only {w w' : World} {a : Option Addr} {n p : Nat} (h : CodeAt w a n) (hp : n = 0 ∨ ∀ x, a = some x → x.block ≠ p) (ho : Only p w w') : CodeAt w' a n := by
  rcases h with h | ⟨x, rfl, h⟩
  · exact .inl h
  · rcases hp with h0 | hp
    · exact .inl h0
    refine .inr ⟨x, rfl, fun i hi => ?_⟩
    obtain ⟨v, hv, hc⟩ := h i hi
    refine ⟨v, hv, ?_⟩
    have e : w'.heap[(x.add i).block]? = w.heap[(x.add i).block]? := ho.2.2.2.2 _ (by rw [add_block]; exact hp x rfl)
    rw [World.cell?_of_block e]
    exact hc
theorem CodeAt.below {w w' : World} {a : Option Addr} {n B : Nat} (h : CodeAt w a n) (hp : n = 0 ∨ ∀ x, a = some x → x.block < B) (ho : Below B w w') : CodeAt w' a n := by
  rcases h with h | ⟨x, rfl, h⟩
  · exact .inl h
  · rcases hp with h0 | hp
    · exact .inl h0
    refine .inr ⟨x, rfl, fun i hi => ?_⟩
    obtain ⟨v, hv, hc⟩ := h i hi
    refine ⟨v, hv, ?_⟩
    have e : w'.heap[(x.add i).block]? = w.heap[(x.add i).block]? := ho.block _ (by rw [add_block]; exact hp x rfl)
    rw [World.cell?_of_block e]
    exact hc
/-- What a choice has done. -/
def Chose (p : Nat) (a : Option Addr) (n cap k d : Nat) (w w' : World) : Prop := ∃ k', k ≤ k' ∧ k' ≤ k + d ∧ SrcAt w' p a n cap k' ∧ Only p w w'
theorem heap_put_row (w : World) (g i : Nat) (cs : Array Value) (t : TypeId) (v : Value) (hg : w.heap[g]? = some (.cells cs t (0, 0))) :
    (w.setCell ⟨g, i, none⟩ v).heap[g]? = some (.cells (cs.setIfInBounds i v) t (0, 0)) := by
  simp [World.setCell, Array.getElem?_modify, hg]
theorem chose_one {p : Nat} {a : Option Addr} {n cap k : Nat} {w : World} (h : SrcAt w p a n cap k) (m q : Nat) (s' : Int) :
    Chose p a n cap k 1 w ((((w.drewN m).setCell ⟨p, 1, none⟩ (.int .i64 ((k : Int) + 1))).setCell ⟨p, 2, none⟩ (.int .u64 s')).drewN q) := by
  obtain ⟨s, hh, hne, hc⟩ := h
  have ho : Only p w ((((w.drewN m).setCell ⟨p, 1, none⟩ (.int .i64 ((k : Int) + 1))).setCell ⟨p, 2, none⟩ (.int .u64 s')).drewN q) :=
    ((((Only.refl p w).drewN m).setCell 1 _).setCell 2 _).drewN q
  refine ⟨k + 1, by omega, by omega, ⟨s', ?_, hne, hc.only hne ho⟩, ho⟩
  have h1 := heap_put_row (w.drewN m) p 1 _ _ (.int .i64 ((k : Int) + 1)) hh
  have h2 := heap_put_row _ p 2 _ _ (.int .u64 s') h1
  exact h2
theorem and_255 (x : Int) : 0 ≤ wrap64 (bits .and .u64 (IntKind.u64.wrap x / 1099511627776) 255) ∧ wrap64 (bits .and .u64 (IntKind.u64.wrap x / 1099511627776) 255) < 256 := by
  have hb : 0 ≤ IntKind.u64.wrap x ∧ IntKind.u64.wrap x < 18446744073709551616 := by rw [IntKind.wrap_u64]; omega
  generalize IntKind.u64.wrap x = y at hb ⊢
  have h : bits .and .u64 (y / 1099511627776) 255 = (y / 1099511627776) % 256 :=
    bits_mask .u64 64 (by decide) (fun n h0 h1 => by rw [IntKind.wrap_u64]; omega) 8 (by decide) (y / 1099511627776) (by omega) (by omega)
  rw [h]
  unfold wrap64
  omega
set_option maxHeartbeats 2000000 in
theorem next_any (p : Nat) (a : Option Addr) (n cap k : Nat) (w : World) (hn : n ≤ 1048576) (hk : k < 1099511627776) (h : SrcAt w p a n cap k) :
    Calls Try.prog 68 #[.pointer (some ⟨p, 0, none⟩)] w fun e w' => ∃ v : Int, e = .returned (.int .i64 v) ∧ 0 ≤ v ∧ v < 256 ∧ Chose p a n cap k 1 w w' := by
  have HS := Lib.hid h
  obtain ⟨s, hh, hne, hc⟩ := h
  have c0 : w.cell? ⟨p, 0, none⟩ = some (.slice a n cap) := by simp [World.cell?, hh]
  have c1 : w.cell? ⟨p, 1, none⟩ = some (.int .i64 (k : Int)) := by simp [World.cell?, hh]
  have c2 : w.cell? ⟨p, 2, none⟩ = some (.int .u64 s) := by simp [World.cell?, hh]
  have f1 : w.frozen? ⟨p, 1, none⟩ = false := by simp [World.frozen?, hh]
  have f2 : w.frozen? ⟨p, 2, none⟩ = false := by simp [World.frozen?, hh]
  by_cases hlt : k < n
  · obtain ⟨x, rfl, hx⟩ : ∃ x : Addr, a = some x ∧ ∀ i, i < n → ∃ v : Nat, v < 256 ∧ w.cell? (x.add i) = some (.int .u8 (v : Int)) := by
      rcases hc with h0 | h0
      · omega
      · exact h0
    obtain ⟨v, hv, hcell⟩ := hx k hlt
    have e1 : (k : Int) < (n : Int) := by omega
    have e2 : (k : Int) + 1 ≤ (n : Int) := by omega
    go_enter Try.func68, Try.ntmps68
    go_wp2
    go_quiet (fail)
    go_wp2
    go_quiet (fail)
    go_wp2
    go_quiet (fail)
    go_wp2
    go_ret
    exact ⟨_, rfl, by omega, by omega, chose_one HS.out _ _ _⟩
  · have e1 : ¬ (k : Int) < (n : Int) := by omega
    have e2 : ¬ (k : Int) + 1 ≤ (n : Int) := by omega
    go_enter Try.func68, Try.ntmps68
    go_wp2
    go_quiet (fail)
    go_wp2
    go_quiet (fail)
    go_wp2
    go_ret
    exact ⟨_, rfl, (and_255 _).1, (and_255 _).2, chose_one HS.out _ _ _⟩
theorem Chose.zero {p : Nat} {a : Option Addr} {n cap k : Nat} {w : World} (h : SrcAt w p a n cap k) (d : Nat) : Chose p a n cap k d w w := ⟨k, by omega, by omega, h, Only.refl _ _⟩
theorem Chose.trans {p : Nat} {a : Option Addr} {n cap k d k' d' : Nat} {w w1 w2 : World} (h : k' ≤ k + d) (hk : k ≤ k') (ho : Only p w w1) (h2 : Chose p a n cap k' d' w1 w2) : Chose p a n cap k (d + d') w w2 := by
  obtain ⟨k2, q1, q2, q3, q4⟩ := h2
  exact ⟨k2, by omega, by omega, q3, ho.trans q4⟩
set_option maxHeartbeats 2000000 in
theorem pick_any (m : Int) (p : Nat) (a : Option Addr) (n cap k : Nat) (w : World) (hm : m ≤ 4611686018427387904) (hn : n ≤ 1048576) (hk : k < 1000000000000) (h : SrcAt w p a n cap k) :
    Calls Try.prog 31 #[.pointer (some ⟨p, 0, none⟩), .int .i64 m] w fun e w' => ∃ v : Int, e = .returned (.int .i64 v) ∧ 0 ≤ v ∧ (v < m ∨ v = 0) ∧ Chose p a n cap k 2 w w' := by
  have N1 := Lib.hid (next_any p a n cap k w hn (by omega) h)
  by_cases h1 : m ≤ 1
  · have HS := Lib.hid h; clear h
    go_enter Try.func31, Try.ntmps31
    go_wp2
    go_ret
    exact ⟨0, rfl, by omega, .inr rfl, Chose.zero HS.out 2⟩
  · have hm0 : ¬ m = 0 := by omega
    have hm1 : (m == 0) = false := by rw [beq_eq_false_iff_ne]; omega
    clear h
    by_cases h2 : m ≤ 200
    · go_enter Try.func31, Try.ntmps31
      go_wp2_with fail
      refine N1.out.mono ?_
      rintro e w1 ⟨v, rfl, hv0, hv1, k1, q1, q2, q3, q4⟩
      have hr := Int.tmod_eq_emod_of_nonneg (b := m) hv0
      have hr0 := Int.emod_nonneg v hm0
      have hr1 := Int.emod_lt_of_pos v (show 0 < m by omega)
      go_wp2
      go_ret
      exact ⟨v % m, rfl, hr0, .inl hr1, ⟨k1, q1, by omega, q3, q4⟩⟩
    · go_enter Try.func31, Try.ntmps31
      go_wp2_with fail
      refine N1.out.mono ?_
      rintro e w1 ⟨v, rfl, hv0, hv1, k1, q1, q2, q3, q4⟩
      have N2 := Lib.hid (next_any p a n cap k1 w1 hn (by omega) q3)
      clear q3
      go_wp2_with fail
      refine N2.out.mono ?_
      rintro e w2 ⟨u, rfl, hu0, hu1, k2, r1, r2, r3, r4⟩
      have e1 : IntKind.i64.wrap (v * 256) = v * 256 := wrap_small _ (by omega) (by omega)
      have e2 : IntKind.i64.wrap (v * 256 + u) = v * 256 + u := wrap_small _ (by omega) (by omega)
      have hx0 : 0 ≤ v * 256 + u := by omega
      have hr := Int.tmod_eq_emod_of_nonneg (b := m) hx0
      have hr0 := Int.emod_nonneg (v * 256 + u) hm0
      have hr1 := Int.emod_lt_of_pos (v * 256 + u) (show 0 < m by omega)
      go_wp2
      go_ret
      exact ⟨(v * 256 + u) % m, rfl, hr0, .inl hr1, ⟨k2, by omega, by omega, r3, q4.trans r4⟩⟩
set_option maxHeartbeats 2000000 in
theorem among_any (b c : Nat) (l : List Int) (p : Nat) (a : Option Addr) (n cap k : Nat) (w : World) (hl0 : 1 ≤ l.length) (hl : l.length ≤ 1000000) (hb : b ≠ p) (hi : Ints w b 0 l) (hn : n ≤ 1048576) (hk : k < 1000000000000) (h : SrcAt w p a n cap k) :
    Calls Try.prog 30 #[.pointer (some ⟨p, 0, none⟩), .slice (some ⟨b, 0, none⟩) l.length c] w fun e w' => ∃ v : Int, e = .returned (.int .i64 v) ∧ v ∈ l ∧ Chose p a n cap k 2 w w' := by
  have N1 := Lib.hid (pick_any (l.length : Int) p a n cap k w (by omega) hn hk h)
  have HI := Lib.hid hi
  clear h hi
  go_enter Try.func30, Try.ntmps30
  go_wp2_with fail
  refine N1.out.mono ?_
  rintro e w1 ⟨v, rfl, hv0, hv1, k1, q1, q2, q3, q4⟩
  obtain ⟨i, rfl⟩ : ∃ i : Nat, v = i := ⟨v.toNat, by omega⟩
  have hi : i < l.length := by omega
  have e1 : (i : Int) < (l.length : Int) := by omega
  have hx : l[i]? = some l[i] := List.getElem?_eq_getElem hi
  have hcell : w1.cell? ⟨b, i, none⟩ = some (.int .i64 l[i]) := by
    have := HI.out i _ hx
    rw [Nat.zero_add] at this
    rw [World.cell?_of_block (a := ⟨b, i, none⟩) (q4.2.2.2.2 b hb)]
    exact this
  have hmem : l[i] ∈ l := List.getElem_mem hi
  generalize l[i] = x at *
  have HH := Lib.hid (And.intro q3 (And.intro q4 hx)); clear q3 q4 hx
  go_wp2
  go_ret
  exact ⟨x, rfl, hmem, ⟨k1, q1, q2, HH.out.1, HH.out.2.1⟩⟩
end Go.Proofs.Ytllcbiafghhcmaa
end
section
set_option linter.unusedVariables false
namespace Go.Proofs.Ytllcbiafghhcmaa
open Go.RowKit
theorem SrcAt.lt {w : World} {p : Nat} {a : Option Addr} {n cap k : Nat} (h : SrcAt w p a n cap k) : p < w.heap.size := by
  obtain ⟨s, hh, _⟩ := h
  exact (Array.getElem?_eq_some_iff.1 hh).1
/-- The code's bytes lie below C. -/
def CodeLt (a : Option Addr) (n C : Nat) : Prop := n = 0 ∨ ∀ x, a = some x → x.block < C
theorem CodeLt.mono {a : Option Addr} {n C C' : Nat} (h : CodeLt a n C) (hC : C ≤ C') : CodeLt a n C' := h.imp id fun h x hx => Nat.lt_of_lt_of_le (h x hx) hC
theorem SrcAt.below {w w' : World} {p C : Nat} {a : Option Addr} {n cap k : Nat} (h : SrcAt w p a n cap k) (ha : CodeLt a n C) (hb : Below C w w') (hp : p < C) : SrcAt w' p a n cap k := by
  obtain ⟨s, hh, hne, hc⟩ := h
  exact ⟨s, by rw [hb.block _ hp]; exact hh, hne, hc.below ha hb⟩
theorem src_new (w : World) (a : Option Addr) (n cap : Nat) (ha : CodeLt a n w.heap.size) (hc : CodeAt w a n) :
    SrcAt (w.alloc (.cells #[.slice a n cap, .int .i64 0, .int .u64 0] 119)) w.heap.size a n cap 0 := by
  refine ⟨0, by show (w.heap.push _)[w.heap.size]? = _; simp, ha.imp id fun h x hx => Nat.ne_of_lt (h x hx), hc.below ha (Below.alloc (Below.refl _ w) (Nat.le_refl _) _)⟩
theorem eight_ints (w : World) : Ints (w.alloc (.cells #[.int .i64 0, .int .i64 1, .int .i64 65, .int .i64 78, .int .i64 161, .int .i64 255, .int .i64 229, .int .i64 16] 2)) w.heap.size 0 [0, 1, 65, 78, 161, 255, 229, 16] := by
  intro i u hu
  match i, hu with
  | 0, hu => simp at hu; subst hu; simp [go_sem]
  | 1, hu => simp at hu; subst hu; simp [go_sem]
  | 2, hu => simp at hu; subst hu; simp [go_sem]
  | 3, hu => simp at hu; subst hu; simp [go_sem]
  | 4, hu => simp at hu; subst hu; simp [go_sem]
  | 5, hu => simp at hu; subst hu; simp [go_sem]
  | 6, hu => simp at hu; subst hu; simp [go_sem]
  | 7, hu => simp at hu; subst hu; simp [go_sem]
  | i + 8, hu => simp at hu
theorem eight_bd {v : Int} (h : v ∈ [(0 : Int), 1, 65, 78, 161, 255, 229, 16]) : 0 ≤ v ∧ v < 256 := by
  simp at h; omega
set_option maxHeartbeats 1000000 in
theorem l00From_any (a : Option Addr) (n cap : Nat) (w : World) :
    Calls Try.prog 28 #[.slice a n cap] w fun e w' => e = .returned (.pointer (some ⟨w.heap.size, 0, none⟩)) ∧ w.alloc (.cells #[.slice a n cap, .int .i64 0, .int .u64 0] 119) = w' := by
  go_enter Try.func28, Try.ntmps28
  go_wp2
  go_ret
  exact ⟨rfl, rfl⟩
end Go.Proofs.Ytllcbiafghhcmaa
end
section
set_option linter.unusedVariables false
namespace Go.Proofs.Ytllcbiafghhcmaa
open Go.RowKit
theorem OwnB.only {w w' : World} {B p : Nat} {v : Value} {l : List UInt8} (h : OwnB w B v l) (ho : Only p w w') (hp : p < B) : OwnB w' B v l := by
  obtain ⟨g1, g2⟩ := h
  refine ⟨g1, ?_⟩
  rcases g2 with g2 | ⟨g, cap', cur, g3, g4, g5, r⟩
  · exact .inl g2
  · exact .inr ⟨g, cap', cur, g3, g4, by rw [ho.2.2.2.2 g (by omega)]; exact g5, r⟩
set_option maxHeartbeats 1000000 in
theorem one_any (m : Int) (p : Nat) (a : Option Addr) (n cap k : Nat) (w : World) (hm : m ≤ 4611686018427387904) (hn : n ≤ 1048576) (hk : k < 1000000000000) (h : SrcAt w p a n cap k) :
    Calls Try.prog 45 #[.pointer (some ⟨p, 0, none⟩), .int .i64 m] w fun e w' => ∃ b : Bool, e = .returned (.bool b) ∧ Chose p a n cap k 2 w w' := by
  have N1 := Lib.hid (pick_any m p a n cap k w hm hn hk h)
  clear h
  go_enter Try.func45, Try.ntmps45
  go_wp2_with fail
  refine N1.out.mono ?_
  rintro e w1 ⟨v, rfl, hv0, hv1, hc⟩
  have HC := Lib.hid hc; clear hc
  go_wp2
  go_ret
  exact ⟨_, rfl, HC.out⟩
/-- Where a draw stands: its own bytes, at most L of them; at most K choices. -/
def Dr (w : World) (p : Nat) (a : Option Addr) (n cap K L : Nat) (wr : World) (out : Value) : Prop :=
  ∃ l : List UInt8, OwnB wr w.heap.size out l ∧ l.length ≤ L ∧ (∃ k, k ≤ K ∧ SrcAt wr p a n cap k) ∧ Below p w wr ∧ w.heap.size ≤ wr.heap.size
theorem Dr.chose {w : World} {p : Nat} {a : Option Addr} {n cap K L k : Nat} {wr w' : World} {out : Value} {l : List UInt8} (hp : p < w.heap.size) (ho : OwnB wr w.heap.size out l) (hl : l.length ≤ L) (hk : k ≤ K) (hb : Below p w wr) (hs : w.heap.size ≤ wr.heap.size) (hc : Chose p a n cap k 2 wr w') : Dr w p a n cap (K + 2) L w' out := by
  obtain ⟨k', q1, q2, q3, q4⟩ := hc
  exact ⟨l, ho.only q4 hp, hl, ⟨k', by omega, q3⟩, hb.trans (q4.below (Nat.le_refl _)), by have := q4.2.2.2.1; omega⟩
theorem Dr.snoc {w : World} {p : Nat} {a : Option Addr} {n cap K L k : Nat} {wr w' : World} {o : Obj} {l : List UInt8} {x : UInt8} {v : Value} (hp : p < w.heap.size) (ha : CodeLt a n w.heap.size) (ho : OwnB w' w.heap.size v (l ++ [x])) (hl : l.length ≤ L) (hk : k ≤ K) (hsrc : SrcAt wr p a n cap k) (hb : Below p w wr) (hs : w.heap.size ≤ wr.heap.size) (hg : Below w.heap.size (wr.alloc o) w') : Dr w p a n cap K (L + 1) w' v :=
  ⟨l ++ [x], ho, by simp; omega, ⟨k, hk, (hsrc.below ha (Below.alloc (Below.refl _ wr) hs _) hp).below ha hg hp⟩, (hb.alloc (by omega) _).trans (hg.mono (by omega)), by have := hg.size; simp at this; omega⟩
end Go.Proofs.Ytllcbiafghhcmaa
end
section
set_option linter.unusedVariables false
namespace Go.Proofs.Ytllcbiafghhcmaa
open Go.RowKit
theorem code_of {w : World} {a : Option Addr} {n cap : Nat} {zs : List Int} (h : IsRow .u8 w a n cap zs) : CodeAt w a n ∧ CodeLt a n w.heap.size := by
  rcases h with ⟨_, h, _⟩ | ⟨x, rfl, h1, h2, h3, h4, h5⟩
  · exact ⟨.inl h, .inl h⟩
  · refine ⟨.inr ⟨x, rfl, fun i hi => ?_⟩, ?_⟩
    · have hi2 : i < zs.length := by omega
      have hb := bounds_u8 (h5 zs[i] (List.getElem_mem hi2))
      have hc := h4 i hi2
      refine ⟨zs[i].toNat, by omega, ?_⟩
      rw [hc]
      have e : zs.getD i 0 = zs[i] := by simp [List.getD, hi2]
      rw [e, Int.toNat_of_nonneg hb.1]
    · by_cases h0 : n = 0
      · exact .inl h0
      · right
        intro y hy
        cases hy
        have hc := h4 0 (by omega)
        have := World.block_lt_of_cell? w (x.add 0) hc
        rwa [add_block] at this
theorem Dr.chose1 {w : World} {p : Nat} {a : Option Addr} {n cap K L k : Nat} {wr w' : World} {out : Value} {l : List UInt8} (hp : p < w.heap.size) (ho : OwnB wr w.heap.size out l) (hl : l.length ≤ L) (hk : k ≤ K) (hb : Below p w wr) (hs : w.heap.size ≤ wr.heap.size) (hc : Chose p a n cap k 1 wr w') : Dr w p a n cap (K + 1) L w' out := by
  obtain ⟨k', q1, q2, q3, q4⟩ := hc
  exact ⟨l, ho.only q4 hp, hl, ⟨k', by omega, q3⟩, hb.trans (q4.below (Nat.le_refl _)), by have := q4.2.2.2.1; omega⟩
theorem five_ints (w : World) : Ints (w.alloc (.cells #[.int .i64 0, .int .i64 255, .int .i64 78, .int .i64 161, .int .i64 85] 2)) w.heap.size 0 [0, 255, 78, 161, 85] := by
  intro i x hx
  have h := heap_alloc_new w (.cells #[.int .i64 0, .int .i64 255, .int .i64 78, .int .i64 161, .int .i64 85] 2)
  match i, hx with
  | 0, hx => simp at hx; subst hx; simp only [World.cell?, h]; rfl
  | 1, hx => simp at hx; subst hx; simp only [World.cell?, h]; rfl
  | 2, hx => simp at hx; subst hx; simp only [World.cell?, h]; rfl
  | 3, hx => simp at hx; subst hx; simp only [World.cell?, h]; rfl
  | 4, hx => simp at hx; subst hx; simp only [World.cell?, h]; rfl
  | i + 5, hx => simp at hx
end Go.Proofs.Ytllcbiafghhcmaa
end
section
set_option linter.unusedVariables false
namespace Go.Proofs.Ytllcbiafghhcmaa
open Go.RowKit
set_option linter.unusedVariables false
def Sf (p : Nat) (w w' : World) : Prop := p < w.heap.size ∧ Below p w w' ∧ w.heap.size ≤ w'.heap.size ∧ ∀ b, b < w.heap.size → b ≠ p → w'.heap[b]? = w.heap[b]?
theorem Sf.refl {p : Nat} {w : World} (hp : p < w.heap.size) : Sf p w w := ⟨hp, Below.refl _ _, Nat.le_refl _, fun _ _ _ => rfl⟩
theorem Sf.only {p : Nat} {w w' : World} (hp : p < w.heap.size) (h : Only p w w') : Sf p w w' :=
  ⟨hp, h.below (Nat.le_refl _), by rw [h.2.2.2.1]; exact Nat.le_refl _, fun b _ hne => h.2.2.2.2 b hne⟩
theorem Sf.of_below {p : Nat} {w w' : World} (hp : p < w.heap.size) (h : Below w.heap.size w w') : Sf p w w' :=
  ⟨hp, h.mono (by omega), h.size, fun b hb _ => h.block b hb⟩
theorem Sf.trans {p : Nat} {a b c : World} (h : Sf p a b) (h' : Sf p b c) : Sf p a c :=
  ⟨h.1, h.2.1.trans h'.2.1, Nat.le_trans h.2.2.1 h'.2.2.1, fun k hk hne => (h'.2.2.2 k (Nat.lt_of_lt_of_le hk h.2.2.1) hne).trans (h.2.2.2 k hk hne)⟩
theorem Sf.alloc {p : Nat} {a w : World} (h : Sf p a w) (o : Obj) : Sf p a (w.alloc o) :=
  h.trans (Sf.of_below (Nat.lt_of_lt_of_le h.1 h.2.2.1) ((Below.refl _ _).alloc (Nat.le_refl _) o))
theorem Sf.drew {p : Nat} {a w : World} (h : Sf p a w) : Sf p a w.drew := ⟨h.1, h.2.1.drew, h.2.2.1, h.2.2.2⟩
theorem Sf.setCell {p : Nat} {a w : World} (h : Sf p a w) (g i : Nat) (v : Value) (hg : a.heap.size ≤ g) : Sf p a (w.setCell ⟨g, i, none⟩ v) := by
  refine ⟨h.1, h.2.1.setCell (by show p ≤ g; have := h.1; omega) _, by simpa [World.setCell] using h.2.2.1, fun b hb hne => ?_⟩
  have e : (w.setCell ⟨g, i, none⟩ v).heap[b]? = w.heap[b]? := by
    simp only [World.setCell, Array.getElem?_modify]
    rw [if_neg (by omega)]
  rw [e]
  exact h.2.2.2 b hb hne
theorem Sf.grow {p : Nat} {a w w' : World} (h : Sf p a w) (hb : Below a.heap.size w w') : Sf p a w' :=
  ⟨h.1, h.2.1.trans (hb.mono (by have := h.1; omega)), Nat.le_trans h.2.2.1 hb.size, fun b hb' hne => (hb.block b hb').trans (h.2.2.2 b hb' hne)⟩
theorem Sf.cell {p : Nat} {w w' : World} (h : Sf p w w') {b i : Nat} (hb : b < w.heap.size) (hne : b ≠ p) : w'.cell? ⟨b, i, none⟩ = w.cell? ⟨b, i, none⟩ := World.cell?_of_block (h.2.2.2 b hb hne)
theorem Sf.frozen {p : Nat} {w w' : World} (h : Sf p w w') {b i : Nat} (hb : b < w.heap.size) (hne : b ≠ p) : w'.frozen? ⟨b, i, none⟩ = w.frozen? ⟨b, i, none⟩ := by
  have := h.2.2.2 b hb hne
  simp [World.frozen?, this]
/-- The source lies on where a block of the call's own is written. -/
theorem SrcAt.own {w : World} {p C g i : Nat} {v : Value} {a : Option Addr} {n cap k : Nat} (h : SrcAt w p a n cap k) (ha : CodeLt a n C) (hp : p < C) (hg : C ≤ g) : SrcAt (w.setCell ⟨g, i, none⟩ v) p a n cap k :=
  h.below ha ((Below.refl C w).setCell (p := ⟨g, i, none⟩) hg v) hp
/-- What a choice leaves: the source at most d choices on, the frame. -/
def ChoseF (p : Nat) (a : Option Addr) (n cap k d : Nat) (w w' : World) : Prop := ∃ k', k ≤ k' ∧ k' ≤ k + d ∧ SrcAt w' p a n cap k' ∧ Sf p w w'
theorem Chose.f {p : Nat} {a : Option Addr} {n cap k d : Nat} {w w' : World} (hp : p < w.heap.size) (h : Chose p a n cap k d w w') : ChoseF p a n cap k d w w' := by
  obtain ⟨k', h1, h2, h3, h4⟩ := h
  exact ⟨k', h1, h2, h3, Sf.only hp h4⟩
theorem ChoseF.trans {p : Nat} {a : Option Addr} {n cap k k1 d d' : Nat} {w w1 w2 : World} (hk : k ≤ k1) (h : k1 ≤ k + d) (ho : Sf p w w1) (h2 : ChoseF p a n cap k1 d' w1 w2) : ChoseF p a n cap k (d + d') w w2 := by
  obtain ⟨k', q1, q2, q3, q4⟩ := h2
  exact ⟨k', by omega, by omega, q3, ho.trans q4⟩
end Go.Proofs.Ytllcbiafghhcmaa
end
section
set_option linter.unusedVariables false
namespace Go.Proofs.Ytllcbiafghhcmaa
open Go.RowKit

set_option maxHeartbeats 400000 in
theorem within_list (lo hi : Int) (zs : List Int) (b off c : Nat) (w : World) (hl : zs.length ≤ maxLen) (hc : Ints w b off zs) :
    Calls Try.prog 69 #[.int .i64 lo, .int .i64 hi, .slice (some ⟨b, off, none⟩) zs.length c] w fun e w' => e = .returned (.bool (zs.all (inB lo hi))) ∧ w = w' := by
  unfold maxLen at hl
  go_enter Try.func69, Try.ntmps69
  go_wp2
  go_loop [11] (fun i => ∃ k : Nat, k ≤ zs.length ∧ i = .int .i64 k ∧ Hid ((zs.take k).all (inB lo hi) = true)) (fun i => zs.length - (intOf i).toNat)
  case atStart => exact ⟨0, Nat.zero_le _, rfl, by simp [Hid]⟩
  case round =>
    obtain ⟨k, hk, rfl, ha⟩ := hrel
    by_cases hlt : k < zs.length
    · obtain ⟨x, hx⟩ : ∃ x, zs[k]? = some x := ⟨zs[k], by simp [hlt]⟩
      have hcell := hc k x hx
      have HX := Lib.hid hx; clear hx
      by_cases h1 : x < lo
      · go_wp2
        go_ret
        exact ⟨ret_bool (by rw [all_false_of HX.out (inB_lo h1)]), rfl⟩
      · by_cases h2 : hi < x
        · go_wp2
          go_ret
          exact ⟨ret_bool (by rw [all_false_of HX.out (inB_hi h2)]), rfl⟩
        · go_wp2
          go_round
          case rel => exact ⟨k + 1, by omega, by go_num, by unfold Hid; rw [all_take_snoc HX.out, ha.out, inB_true h1 h2]; rfl⟩
          case measure => simp [intOf]; omega
    · go_wp2
      go_ret
      have e : zs.take k = zs := List.take_of_length_le (by omega)
      rw [e] at ha
      exact ⟨ret_bool ha.out.symm, rfl⟩

theorem within_one (lo hi n : Int) (b off c : Nat) (w : World) (hc : w.cell? ⟨b, off, none⟩ = some (.int .i64 n)) :
    Calls Try.prog 69 #[.int .i64 lo, .int .i64 hi, .slice (some ⟨b, off, none⟩) 1 c] w fun e w' => e = .returned (.bool (inB lo hi n)) ∧ w = w' := by
  have h := within_list lo hi [n] b off c w (by simp [maxLen]) (by
    intro i x hx
    cases i with
    | zero => simp at hx; subst hx; simpa using hc
    | succ i => simp at hx)
  simpa using h

theorem cell_new (w : World) (v : Value) (T : TypeId) : (w.alloc (.cells #[v] T)).cell? ⟨w.heap.size, 0, none⟩ = some v := by simp [go_sem]
theorem within_new (lo hi n : Int) (w : World) (T : TypeId) :
    Calls Try.prog 69 #[.int .i64 lo, .int .i64 hi, .slice (some ⟨w.heap.size, 0, none⟩) 1 1] (w.alloc (.cells #[.int .i64 n] T)) fun e w' => e = .returned (.bool (inB lo hi n)) ∧ (w.alloc (.cells #[.int .i64 n] T)) = w' :=
  within_one lo hi n w.heap.size 0 1 _ (cell_new w _ T)

theorem within_at (lo hi n : Int) (w : World) (T : TypeId) (b : Nat) (hb : w.heap.size = b) :
    Calls Try.prog 69 #[.int .i64 lo, .int .i64 hi, .slice (some ⟨b, 0, none⟩) 1 1] (w.alloc (.cells #[.int .i64 n] T)) fun e w' => e = .returned (.bool (inB lo hi n)) ∧ (w.alloc (.cells #[.int .i64 n] T)) = w' := by
  subst hb
  exact within_new lo hi n w T

theorem l00In_any (n lo hi : Int) (w : World) :
    Calls Try.prog 42 #[.int .i64 n, .int .i64 lo, .int .i64 hi] w fun e w' => e = .returned (.bool (inB lo hi n)) ∧ w = w' := by
  by_cases h1 : lo ≤ n <;> by_cases h2 : n ≤ hi
  all_goals
    go_enter Try.func42, Try.ntmps42
    go_wp2
    go_ret
    exact ⟨ret_bool (by unfold inB; simp; try omega), rfl⟩
end Go.Proofs.Ytllcbiafghhcmaa
end
