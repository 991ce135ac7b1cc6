/- Rows of structs (or strings) that the call owns: append; several rows of different types side by side. -/
import Derived.Test.YtpgcmgbflcdjiaaRecs
import Derived.Test.YtpgcmgbflcdjiaaOwnI
import Derived.Test.YtpgcmgbflcdjiaaConv
import Derived.Test.YtpgcmgbflcdjiaaSlRes
namespace Go.Proofs.Ytpgcmgbflcdjiaa
open Go.RowKit
set_option linter.unusedVariables false
section
variable {E : Type}
/-- v is a slice of structs of the call's own, with the structs es. -/
def OwnR (row : E → List Value) (T : TypeId) (n : Nat) (w : World) (B : Nat) (v : Value) (es : List E) : Prop := w.ownsRow B T n v es.length (es.map row).flatten
variable {row : E → List Value} {T : TypeId} {n : Nat} {w w' : World} {B : Nat} {v : Value} {es : List E}
theorem OwnR.nil (w : World) (B : Nat) : OwnR row T n w B (.slice none 0 0) [] := ⟨by simp, .inl ⟨rfl, rfl⟩⟩
theorem OwnR.empty (w : World) (B : Nat) (hB : B ≤ w.heap.size) : OwnR row T n (w.alloc (.cells #[] T)) B (.slice (some ⟨w.heap.size, 0, none⟩) 0 0) [] := by
  refine ⟨by simp, .inr ⟨w.heap.size, 0, #[], rfl, hB, heap_alloc_new w _, Nat.le_refl _, by simp [maxLen], by simp, by simp⟩⟩
theorem OwnR.alloc (h : OwnR row T n w B v es) (o : Obj) : OwnR row T n (w.alloc o) B v es := World.ownsRow.alloc h o
theorem OwnR.drew (h : OwnR row T n w B v es) : OwnR row T n w.drew B v es := h
theorem OwnR.below (h : OwnR row T n w B v es) (hb : Below w.heap.size w w') : OwnR row T n w' B v es := by
  refine ⟨h.1, ?_⟩
  rcases h.2 with h2 | ⟨g, cap, cur, rfl, hg, hh, r⟩
  · exact .inl h2
  · exact .inr ⟨g, cap, cur, rfl, hg, by rw [hb.block g (Array.getElem?_eq_some_iff.1 hh).1]; exact hh, r⟩
theorem OwnR.mono {B' : Nat} (h : OwnR row T n w B v es) (hB : B' ≤ B) : OwnR row T n w B' v es := by
  refine ⟨h.1, ?_⟩
  rcases h.2 with h2 | ⟨g, cap, cur, rfl, hg, r⟩
  · exact .inl h2
  · exact .inr ⟨g, cap, cur, rfl, Nat.le_trans hB hg, r⟩
theorem ownsRow_belowOf {size k : Nat} {xs : List Value} (h : w.ownsRow B T size v k xs) (hB : B ≤ w.heap.size) (hg : w.grownBy w' v.ownBlock) : Below B w w' := by
  refine (Below.refl B w).grown hg hB ?_
  intro k hk
  rcases h.2 with ⟨rfl, _⟩ | ⟨g, cap, cur, rfl, hg, _⟩
  · cases hk
  · cases hk; exact hg
theorem OwnR.slSI (h : OwnR row T n w B v es) : ∃ a c, v = .slice a es.length c ∧ SlSI row T w B w.heap.size a es := by
  obtain ⟨h1, h2⟩ := h
  rcases h2 with ⟨rfl, hl⟩ | ⟨g, cap, cur, rfl, hg, hh, hn, hm, hs, ht⟩
  · exact ⟨none, 0, by rw [hl], .inl (List.length_eq_zero_iff.1 hl)⟩
  · refine ⟨_, _, rfl, .inr ⟨g, (cur.toList.drop (es.length * n)).toArray, rfl, hg, (Array.getElem?_eq_some_iff.1 hh).1, ?_⟩⟩
    rw [hh]
    congr 2
    apply Array.ext'
    simp only [Array.toList_append]
    rw [← ht]
    simp
/-- A slice of structs in a block from B on. -/
def SlSO (row : E → List Value) (T : TypeId) (w : World) (B : Nat) (a : Option Addr) (es : List E) : Prop := SlSI row T w B w.heap.size a es
theorem SlSO.within {a : Option Addr} (h : SlSO row T w B a es) : SlSI row T w B w.heap.size a es := h
theorem SlSO.mono {a : Option Addr} {B' : Nat} (h : SlSO row T w B a es) (hB : B' ≤ B) : SlSO row T w B' a es := SlSI.mono h hB (Nat.le_refl _)
/-- A result that is a slice of structs of the call's own. -/
def RecRes (row : E → List Value) (T : TypeId) (es : List E) (w : World) (e : Ending) (w' : World) : Prop :=
  ∃ a cap, e = .returned (.slice a es.length cap) ∧ SlSO row T w' w.heap.size a es ∧ Below w.heap.size w w'
/-- Two results: a slice of structs of the call's own, and a code. -/
def RecRes2 (row : E → List Value) (T : TypeId) (es : List E) (code : Int) (w : World) (e : Ending) (w' : World) : Prop :=
  ∃ a cap, e = .returned (.tuple #[.slice a es.length cap, .int .i64 code]) ∧ SlSO row T w' w.heap.size a es ∧ Below w.heap.size w w'
theorem RecRes.of (h : OwnR row T n w' w.heap.size v es) (hb : Below w.heap.size w w') : RecRes row T es w (.returned v) w' := by
  obtain ⟨a, c, rfl, hs⟩ := h.slSI
  exact ⟨a, c, rfl, hs, hb⟩
end
/-- A row keeps its cells while a row of another type is appended to. -/
theorem ownsRow_other {W W' : World} {B B' : Nat} {t e : TypeId} (hte : t ≠ e) {s1 s2 k1 k2 : Nat} {u v : Value} {xs ys : List Value} (h : W.ownsRow B t s1 u k1 xs) (hr : W.ownsRow B' e s2 v k2 ys) (hg : W.grownBy W' v.ownBlock) :
    W'.ownsRow B t s1 u k1 xs := by
  refine ⟨h.1, ?_⟩
  rcases h.2 with h2 | ⟨g, cap, cur, rfl, hgB, hh, r⟩
  · exact .inl h2
  · refine .inr ⟨g, cap, cur, rfl, hgB, ?_, r⟩
    refine (hg.block g (Array.getElem?_eq_some_iff.1 hh).1 ?_).trans hh
    rcases hr.2 with ⟨rfl, _⟩ | ⟨g2, cap2, cur2, rfl, _, hgb, _⟩
    · simp [Value.ownBlock]
    · intro e'
      obtain rfl : g = g2 := by simpa [Value.ownBlock] using e'
      have := hh.symm.trans hgb
      simp at this
      exact hte this.2
section
variable {E : Type} {ops : Array Oper} {o : Oper} {a : Act} {Q : Exit → Act → World → Prop} {w : World} {row : E → List Value} {n : Nat}
/-- 'append(out, x)' of one struct to a row of the call's own, in a plain region. -/
theorem wpList_appendR {rest : List Oper} (Ts T : TypeId) (zero : Value) (bytes : Nat) (hT : Try.prog.underlying Ts = some (.slice T)) (hinfo : (Try.prog.info? T).map (fun i => (i.zero, i.size, i.bytes)) = some (some zero, n, bytes)) (hzn : zero.cells.size = n) (h0 : 0 < n) (hby : bytes ≤ 1000)
    (hgd : o.guard = none) (s x : Operand) (ho : o.op = .call { callee := .builtin .append, args := #[s, x], argTypes := #[Ts, Ts] })
    {B : Nat} {v : Value} {es : List E} (hs : a.eval s = v) (hown : OwnR row T n w B v es) (y : E) (hrow : (row y).length = n) (hone : ∀ u ∈ row y, u.oneCell' = true) (ad : Addr) (c : Nat) (hx : a.eval x = .slice (some ad) 1 c)
    (hc : ∀ j u, (row y)[j]? = some u → w.cell? (ad.add j) = some u) (hl : es.length < 1073741824) (hB : B ≤ w.heap.size)
    (h : ∀ g cap w', OwnR row T n w' B (.slice (some ⟨g, 0, none⟩) (es.length + 1) cap) (es ++ [y]) → w.grownBy w' v.ownBlock → Below B w w' → wpList Try.prog ops Q rest (a.put o.dst (.slice (some ⟨g, 0, none⟩) (es.length + 1) cap)) w') : wpList Try.prog ops Q (o :: rest) a w := by
  obtain ⟨i0, hi, hz0, hz1, hz2⟩ := info_parts hinfo
  refine wpList_append_lies w hgd s x Ts ho B T i0 zero n bytes hT hi hz0 hz1 hz2 hzn h0 v es.length (es.map row).flatten hs hown ad 1 c (row y) hx (by rw [hrow, Nat.one_mul]) hc hone (by decide) (by unfold maxLen; omega) (Nat.le_trans (Nat.mul_le_mul (show es.length + 1 ≤ 1073741824 by omega) hby) (by decide)) hB _ rfl ?_
  intro g cap w' h2 h3 h4 _
  refine h g cap w' ?_ h3 (ownsRow_belowOf hown hB h3)
  unfold OwnR
  simpa using h2
/-- The same, in a region that draws its order. -/
theorem step_appendR {K : Act → World → Prop} {E' : Prop} (Ts T : TypeId) (zero : Value) (bytes : Nat) (hT : Try.prog.underlying Ts = some (.slice T)) (hinfo : (Try.prog.info? T).map (fun i => (i.zero, i.size, i.bytes)) = some (some zero, n, bytes)) (hzn : zero.cells.size = n) (h0 : 0 < n) (hby : bytes ≤ 1000)
    (hgd : o.guard = none) (s x : Operand) (ho : o.op = .call { callee := .builtin .append, args := #[s, x], argTypes := #[Ts, Ts] })
    {B : Nat} {v : Value} {es : List E} (hs : a.eval s = v) (hown : OwnR row T n w B v es) (y : E) (hrow : (row y).length = n) (hone : ∀ u ∈ row y, u.oneCell' = true) (ad : Addr) (c : Nat) (hx : a.eval x = .slice (some ad) 1 c)
    (hc : ∀ j u, (row y)[j]? = some u → w.cell? (ad.add j) = some u) (hl : es.length < 1073741824) (hB : B ≤ w.heap.size)
    (h : ∀ g cap w', OwnR row T n w' B (.slice (some ⟨g, 0, none⟩) (es.length + 1) cap) (es ++ [y]) → w.grownBy w' v.ownBlock → Below B w w' → K (a.put o.dst (.slice (some ⟨g, 0, none⟩) (es.length + 1) cap)) w') :
    if Region.wanted o (yielded ops a.tmps) = true then Oper.wp Try.prog o a w K Q else E' := by
  obtain ⟨i0, hi, hz0, hz1, hz2⟩ := info_parts hinfo
  refine step_append_lies w hgd s x Ts ho B T i0 zero n bytes hT hi hz0 hz1 hz2 hzn h0 v es.length (es.map row).flatten hs hown ad 1 c (row y) hx (by rw [hrow, Nat.one_mul]) hc hone (by decide) (by unfold maxLen; omega) (Nat.le_trans (Nat.mul_le_mul (show es.length + 1 ≤ 1073741824 by omega) hby) (by decide)) hB _ rfl ?_
  intro g cap w' h2 h3 h4 _
  refine h g cap w' ?_ h3 (ownsRow_belowOf hown hB h3)
  unfold OwnR
  simpa using h2
/-- 'append(out, x)' of one int64, which tells what has grown. -/
theorem wpList_appendIg {rest : List Oper} (T : TypeId) (hT : Try.prog.underlying T = some (.slice 2)) (hgd : o.guard = none) (s x : Operand) (ho : o.op = .call { callee := .builtin .append, args := #[s, x], argTypes := #[T, T] })
    {B : Nat} {v : Value} {l : List Int} (hs : a.eval s = v) (hown : OwnI w B v l) (n : Int) (ad : Addr) (c : Nat) (hx : a.eval x = .slice (some ad) 1 c)
    (hc : ∀ j u, [Value.int .i64 n][j]? = some u → w.cell? (ad.add j) = some u) (hl : l.length < 1073741824) (hB : B ≤ w.heap.size)
    (h : ∀ g cap w', OwnI w' B (.slice (some ⟨g, 0, none⟩) (l.length + 1) cap) (l ++ [n]) → w.grownBy w' v.ownBlock → Below B w w' → wpList Try.prog ops Q rest (a.put o.dst (.slice (some ⟨g, 0, none⟩) (l.length + 1) cap)) w') : wpList Try.prog ops Q (o :: rest) a w := by
  obtain ⟨i0, hi, hz0, hz1, hz2⟩ := info_parts i64info
  refine wpList_append_lies w hgd s x T ho B 2 i0 (.int .i64 0) 1 8 hT hi hz0 hz1 hz2 rfl (by decide) v l.length (l.map (Value.int .i64)) hs hown ad 1 c [.int .i64 n] hx rfl hc (by simp [Value.oneCell']) (by decide) (by unfold maxLen; omega) (by omega) hB _ rfl ?_
  intro g cap w' h2 h3 h4 _
  exact h g cap w' (OwnI.snoc h2) h3 (hown.belowOf hB h3)
end
theorem OwnI.keptB {w w' : World} {B B' : Nat} {u v : Value} {l : List Int} {b : List UInt8} (h : OwnI w B u l) (hb : OwnB w B' v b) (hg : w.grownBy w' v.ownBlock) : OwnI w' B u l := ownsRow_other (by decide) h hb hg
theorem OwnB.keptI {w w' : World} {B B' : Nat} {u v : Value} {l : List UInt8} {b : List Int} (h : OwnB w B u l) (hb : OwnI w B' v b) (hg : w.grownBy w' v.ownBlock) : OwnB w' B u l := ownsRow_other (by decide) h hb hg
end Go.Proofs.Ytpgcmgbflcdjiaa
