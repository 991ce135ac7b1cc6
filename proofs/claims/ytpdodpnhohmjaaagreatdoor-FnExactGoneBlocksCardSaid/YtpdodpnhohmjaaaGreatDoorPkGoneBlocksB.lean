/- laws.markFlux, laws.heldFlux; what a mark leaves alone. -/
import Derived.Test.YtpdodpnhohmjaaaGreatDoorPkGoneBlocksA
import Derived.Test.YtpdodpnhohmjaaaGreatDoorRows
import Derived.Laws.IdiomCopy
import Derived.Deep.Slices
import Derived.Deep.Fields
import Derived.ProofKit
import Derived.OpenShut
import Derived.Lib.SmallJoins
section
set_option linter.unusedVariables false
namespace Go.Proofs.YtpdodpnhohmjaaaGreatDoor
open Go.RowKit
set_option maxRecDepth 20000
/-- Of the blocks that were there, only the one that the slice's address leads to may differ. -/
structure Keep (a : Option Addr) (w w' : World) : Prop where
  os : w'.os = w.os
  tape : w'.tape = w.tape
  output : w'.output = w.output
  size : w.heap.size ≤ w'.heap.size
  block : ∀ b, b < w.heap.size → a.map (·.block) ≠ some b → w'.heap[b]? = w.heap[b]?
theorem Keep.of_below {a : Option Addr} {w w' : World} (h : Below w.heap.size w w') : Keep a w w' := ⟨h.os, h.tape, h.output, h.size, fun b hb _ => h.block b hb⟩
theorem Keep.trans {a : Option Addr} {w w1 w2 : World} (h : Keep a w w1) (k : Keep a w1 w2) : Keep a w w2 :=
  ⟨k.os.trans h.os, k.tape.trans h.tape, k.output.trans h.output, Nat.le_trans h.size k.size, fun b hb hn => (k.block b (Nat.lt_of_lt_of_le hb h.size) hn).trans (h.block b hb hn)⟩
theorem Keep.cell {a : Option Addr} {w w' : World} (h : Keep a w w') {b o : Nat} (hb : b < w.heap.size) (hn : a.map (·.block) ≠ some b) : w'.cell? ⟨b, o, none⟩ = w.cell? ⟨b, o, none⟩ := World.cell?_of_block (h.block b hb hn)
theorem FluxAt.keep {x : Option Addr} {w w' : World} {p : Nat} {c f : Int} {a : Option Addr} {n d : Nat} (h : FluxAt w p c f a n d) (hk : Keep x w w') (hn : x.map (·.block) ≠ some p) : FluxAt w' p c f a n d := by
  have hl := h.lt
  exact ⟨by rw [hk.cell hl hn]; exact h.1, by rw [hk.cell hl hn]; exact h.2.1, by rw [hk.cell hl hn]; exact h.2.2⟩
/-- An owned row whose block lies in [B, C). -/
def SlI (w : World) (B C : Nat) (a : Option Addr) (zs : List Int) : Prop :=
  zs = [] ∨ ∃ g rest, a = some ⟨g, 0, none⟩ ∧ B ≤ g ∧ g < C ∧ w.heap[g]? = some (.cells ((zs.map (Value.int .i64)).toArray ++ rest) 2 (0, 0))
theorem SlO.within {w : World} {B : Nat} {a : Option Addr} {zs : List Int} (h : SlO w B a zs) : SlI w B w.heap.size a zs := by
  rcases h with rfl | ⟨g, rest, rfl, hg, hh⟩
  · exact .inl rfl
  · exact .inr ⟨g, rest, rfl, hg, (Array.getElem?_eq_some_iff.1 hh).1, hh⟩
theorem SlI.sl {w : World} {B C : Nat} {a : Option Addr} {zs : List Int} (h : SlI w B C a zs) : SlA w a zs := by
  rcases h with rfl | ⟨g, rest, rfl, hg, _, hh⟩
  · exact .inl rfl
  · exact (show SlO w B (some ⟨g, 0, none⟩) zs from .inr ⟨g, rest, rfl, hg, hh⟩).sl
theorem SlI.below {w w' : World} {B C D : Nat} {a : Option Addr} {zs : List Int} (h : SlI w B C a zs) (hb : Below D w w') (hD : C ≤ D) : SlI w' B C a zs := by
  rcases h with rfl | ⟨g, rest, rfl, hg, hC, hh⟩
  · exact .inl rfl
  · exact .inr ⟨g, rest, rfl, hg, hC, by rw [hb.block g (by omega)]; exact hh⟩
theorem SlI.mono {w : World} {B B' C C' : Nat} {a : Option Addr} {zs : List Int} (h : SlI w B C a zs) (hB : B' ≤ B) (hC : C ≤ C') : SlI w B' C' a zs := by
  rcases h with rfl | ⟨g, rest, rfl, hg, hl, hh⟩
  · exact .inl rfl
  · exact .inr ⟨g, rest, rfl, by omega, by omega, hh⟩
end Go.Proofs.YtpdodpnhohmjaaaGreatDoor
end
section
set_option linter.unusedVariables false
namespace Go.Proofs.YtpdodpnhohmjaaaGreatDoor
open Go.RowKit
set_option maxRecDepth 20000
def ToFluxPost (cl f : Int) (zs : List Int) (w : World) (e : Ending) (w' : World) : Prop :=
  ∃ g, e = .returned (.agg #[.int .i64 cl, .int .i64 f, .slice (some ⟨g, 0, none⟩) zs.length zs.length]) ∧ RowAt w' g zs ∧ w.heap.size ≤ g ∧ Below w.heap.size w w'
/-- Whether two fluxes are equal, field by field. -/
def fluxEq (c1 f1 : Int) (xs : List Int) (c2 f2 : Int) (ys : List Int) : Bool := c1 == c2 && (f1 == f2 && xs == ys)
end Go.Proofs.YtpdodpnhohmjaaaGreatDoor
end
section
set_option linter.unusedVariables false
namespace Go.Proofs.YtpdodpnhohmjaaaGreatDoor
open Go.RowKit
set_option maxRecDepth 20000
/-- Of the blocks that were there, only those from lo on and below hi may differ. -/
structure Sm (lo hi : Nat) (w w' : World) : Prop where
  size : w.heap.size ≤ w'.heap.size
  block : ∀ b, b < w.heap.size → (b < lo ∨ hi ≤ b) → w'.heap[b]? = w.heap[b]?
theorem Sm.of_below {w w' : World} (h : Below w.heap.size w w') : Sm 0 0 w w' := ⟨h.size, fun b hb _ => h.block b hb⟩
theorem Sm.alloc (w : World) (o : Obj) : Sm 0 0 w (w.alloc o) := ⟨by simp, fun b hb _ => Below.heap_alloc w o b hb⟩
theorem Sm.refl (w : World) : Sm 0 0 w w := ⟨Nat.le_refl _, fun _ _ _ => rfl⟩
theorem FluxAt.sm {lo hi : Nat} {w w' : World} {p : Nat} {c f : Int} {a : Option Addr} {n d : Nat} (h : FluxAt w p c f a n d) (hs : Sm lo hi w w') (hp : p < lo ∨ hi ≤ p) : FluxAt w' p c f a n d := by
  have hl := h.lt
  have e : ∀ o, w'.cell? ⟨p, o, none⟩ = w.cell? ⟨p, o, none⟩ := fun o => World.cell?_of_block (hs.block p hl hp)
  exact ⟨by rw [e]; exact h.1, by rw [e]; exact h.2.1, by rw [e]; exact h.2.2⟩
theorem SlI.sm {lo hi : Nat} {w w' : World} {B C : Nat} {a : Option Addr} {zs : List Int} (h : SlI w B C a zs) (hs : Sm lo hi w w') (hp : C ≤ lo ∨ hi ≤ B) : SlI w' B C a zs := by
  rcases h with rfl | ⟨g, rest, rfl, hg, hC, hh⟩
  · exact .inl rfl
  · exact .inr ⟨g, rest, rfl, hg, hC, by rw [hs.block g (Array.getElem?_eq_some_iff.1 hh).1 (by omega)]; exact hh⟩
theorem RowAt.sli {w : World} {g B : Nat} {zs : List Int} (h : RowAt w g zs) (hg : B ≤ g) : SlI w B w.heap.size (some ⟨g, 0, none⟩) zs := (h.slO hg).within
theorem SlI.drew {w : World} {B C : Nat} {a : Option Addr} {zs : List Int} (h : SlI w B C a zs) : SlI w.drew B C a zs := h
theorem below_step {n₀ : Nat} {w W W' : World} (h : Below n₀ w W) (hn : n₀ ≤ W.heap.size) (hb : Below W.heap.size W W') : Below n₀ w W' := h.trans (hb.mono hn)
theorem below_new {n₀ : Nat} {w W : World} (h : Below n₀ w W) (hn : n₀ ≤ W.heap.size) (o : Obj) : Below n₀ w (W.alloc o) := h.alloc hn o
theorem below_undrew {B : Nat} {w w' : World} (h : Below B w.drew w') : Below B w w' := ⟨h.os, h.tape, h.output, h.size, h.block⟩
/-- What a mark of a row in [B, C) has done. -/
def Marked (B C : Nat) (a : Option Addr) (k n : Nat) (w : World) (e : Ending) (w' : World) : Prop :=
  e = .returned (.int .i64 ((k + n : Nat) : Int)) ∧ SlI w' B C a (fromK k n) ∧ (∀ D, D ≤ B → D ≤ w.heap.size → Below D w w') ∧ Sm B C w w'
theorem markInt_sm (a : Option Addr) (zs : List Int) (cap k B C : Nat) (w : World) (hl : zs.length ≤ 4194304) (hk : k ≤ 4194304) (hC : C ≤ w.heap.size) (h : SlI w B C a zs) :
    Calls Tryz.prog 13 #[.slice a zs.length cap, .int .i64 k] w (Marked B C a k zs.length w) := by
  have hO : SlO w B a zs := by
    rcases h with rfl | ⟨g, rest, rfl, hg, hg2, hh⟩
    · exact .inl rfl
    · exact .inr ⟨g, rest, rfl, hg, hh⟩
  refine (markInt_any a zs cap k B w hl hk hO).mono ?_
  rintro e w' ⟨rfl, hso, hb, hs, hoth⟩
  refine ⟨rfl, ?_, fun D hD _ => hb.mono hD, by omega, ?_⟩
  · rcases h with rfl | ⟨g, rest, rfl, hg, hg2, hh⟩
    · exact .inl rfl
    · rcases hso with e | ⟨g', rest', e, hg', hh'⟩
      · exact .inl e
      · cases e
        exact .inr ⟨g, rest', rfl, hg, hg2, hh'⟩
  · intro b hbw hbc
    refine hoth b ?_
    rcases h with rfl | ⟨g, rest, rfl, hg, hg2, hh⟩
    · exact .inl rfl
    · right; simp; omega
end Go.Proofs.YtpdodpnhohmjaaaGreatDoor
end
section
set_option linter.unusedVariables false
namespace Go.Proofs.YtpdodpnhohmjaaaGreatDoor
open Go.RowKit
set_option maxRecDepth 20000
/-- From ⟨b, off⟩ on stand these cells. -/
def CellsAt (w : World) (b off : Nat) (vs : List Value) : Prop := ∀ i v, vs[i]? = some v → w.cell? ⟨b, off + i, none⟩ = some v
theorem CellsAt.below {w w' : World} {B b off : Nat} {vs : List Value} (h : CellsAt w b off vs) (hb : Below B w w') (hB : b < B) : CellsAt w' b off vs := by
  intro i x hx
  rw [hb.cell (p := ⟨b, off + i, none⟩) hB]; exact h i x hx
theorem flatten_at {α : Type} {n : Nat} : ∀ {rows : List (List α)} (_ : ∀ r ∈ rows, r.length = n) {k : Nat} {r : List α} (_ : rows[k]? = some r) {j : Nat} (_ : j < n), rows.flatten[k * n + j]? = r[j]?
  | [], _, k, r, hk, j, hj => by simp at hk
  | r0 :: rest, hn, 0, r, hk, j, hj => by
    simp at hk
    subst hk
    have h0 := hn r0 (by simp)
    simp [List.getElem?_append, h0, hj]
  | r0 :: rest, hn, k + 1, r, hk, j, hj => by
    have h0 := hn r0 (by simp)
    have hk' : rest[k]? = some r := by simpa using hk
    have ih := flatten_at (rows := rest) (fun x hx => hn x (by simp [hx])) hk' hj
    have e : (k + 1) * n + j = r0.length + (k * n + j) := by rw [h0, Nat.add_mul]; omega
    rw [e, List.flatten_cons, List.getElem?_append_right (by omega)]
    simpa using ih
theorem flatten_len {α : Type} {n : Nat} : ∀ {rows : List (List α)} (_ : ∀ r ∈ rows, r.length = n), rows.flatten.length = rows.length * n
  | [], _ => by simp
  | r0 :: rest, hn => by
    have h0 := hn r0 (by simp)
    have ih := flatten_len (rows := rest) (fun x hx => hn x (by simp [hx]))
    simp only [List.flatten_cons, List.length_append, List.length_cons, h0, ih, Nat.add_mul]
    omega
section
variable {E : Type}
/-- A slice '.slice a es.length c' reads as the structs es in the world w; 'row' gives a struct's cells. -/
def SlS (row : E → List Value) (w : World) (a : Option Addr) (es : List E) : Prop := es = [] ∨ ∃ b off, a = some ⟨b, off, none⟩ ∧ b < w.heap.size ∧ CellsAt w b off (es.map row).flatten
/-- Block g holds just es. -/
def BlkS (row : E → List Value) (T : TypeId) (w : World) (g : Nat) (es : List E) : Prop := w.heap[g]? = some (.cells (es.map row).flatten.toArray T (0, 0))
/-- What the walk is told of a slice of structs that came in. -/
def RecArg (row : E → List Value) (w : World) (a : Option Addr) (es : List E) : Prop := es.length ≤ maxLen ∧ SlS row w a es
/-- A slice of structs of the call's own, in a block from B on and below C. -/
def SlSI (row : E → List Value) (T : TypeId) (w : World) (B C : Nat) (a : Option Addr) (es : List E) : Prop :=
  es = [] ∨ ∃ g rest, a = some ⟨g, 0, none⟩ ∧ B ≤ g ∧ g < C ∧ w.heap[g]? = some (.cells ((es.map row).flatten.toArray ++ rest) T (0, 0))
variable {row : E → List Value} {T : TypeId} {w w' : World} {a : Option Addr} {es : List E} {n g B C D b off k : Nat} {e : E}
theorem SlS.below (h : SlS row w a es) (hb : Below B w w') (hB : w.heap.size ≤ B) : SlS row w' a es := by
  rcases h with rfl | ⟨b, off, rfl, hlt, hi⟩
  · exact .inl rfl
  · exact .inr ⟨b, off, rfl, Nat.lt_of_lt_of_le hlt hb.size, hi.below hb (by omega)⟩
theorem SlS.at (hn : ∀ e, (row e).length = n) (h : SlS row w a es) (hk : es[k]? = some e) : ∃ b off, a = some ⟨b, off, none⟩ ∧ b < w.heap.size ∧ CellsAt w b (off + k * n) (row e) := by
  rcases h with rfl | ⟨b, off, rfl, hlt, hi⟩
  · simp at hk
  · refine ⟨b, off, rfl, hlt, fun j v hv => ?_⟩
    have hj : j < n := by rw [← hn e]; exact (List.getElem?_eq_some_iff.1 hv).1
    have := hi (k * n + j) v (by rw [flatten_at (n := n) (by simp; intro x _; exact hn x) (r := row e) (by simp [hk]) hj]; exact hv)
    rwa [← Nat.add_assoc] at this
theorem BlkS.lt (h : BlkS row T w g es) : g < w.heap.size := (Array.getElem?_eq_some_iff.1 h).1
theorem BlkS.below (h : BlkS row T w g es) (hb : Below B w w') (hg : g < B) : BlkS row T w' g es := by unfold BlkS; rw [hb.block g hg]; exact h
theorem BlkS.drew (h : BlkS row T w g es) : BlkS row T w.drew g es := h
theorem BlkS.sl (h : BlkS row T w g es) : SlS row w (some ⟨g, 0, none⟩) es := by
  refine .inr ⟨g, 0, rfl, h.lt, fun i v hv => ?_⟩
  have h' : w.heap[g]? = some (.cells (es.map row).flatten.toArray T (0, 0)) := h
  simp only [World.cell?, h', Nat.zero_add, List.getElem?_toArray]
  rw [hv]; rfl
theorem BlkS.sli (h : BlkS row T w g es) (hg : B ≤ g) : SlSI row T w B w.heap.size (some ⟨g, 0, none⟩) es :=
  .inr ⟨g, #[], rfl, hg, h.lt, by unfold BlkS at h; simpa using h⟩
theorem SlSI.sl (h : SlSI row T w B C a es) : SlS row w a es := by
  rcases h with rfl | ⟨g, rest, rfl, hg, hC, hh⟩
  · exact .inl rfl
  · refine .inr ⟨g, 0, rfl, (Array.getElem?_eq_some_iff.1 hh).1, fun i v hv => ?_⟩
    have hi := (List.getElem?_eq_some_iff.1 hv).1
    simp only [World.cell?, hh, Nat.zero_add]
    rw [Array.getElem?_append_left (by simpa using hi), List.getElem?_toArray, hv]; rfl
theorem SlSI.below (h : SlSI row T w B C a es) (hb : Below D w w') (hD : C ≤ D) : SlSI row T w' B C a es := by
  rcases h with rfl | ⟨g, rest, rfl, hg, hC, hh⟩
  · exact .inl rfl
  · exact .inr ⟨g, rest, rfl, hg, hC, by rw [hb.block g (by omega)]; exact hh⟩
theorem SlSI.mono {B' C' : Nat} (h : SlSI row T w B C a es) (hB : B' ≤ B) (hC : C ≤ C') : SlSI row T w B' C' a es := by
  rcases h with rfl | ⟨g, rest, rfl, hg, hl, hh⟩
  · exact .inl rfl
  · exact .inr ⟨g, rest, rfl, by omega, by omega, hh⟩
theorem SlSI.drew (h : SlSI row T w B C a es) : SlSI row T w.drew B C a es := h
/-- What a copy gives: a slice of its own with the same structs. -/
def ToRecs (row : E → List Value) (T : TypeId) (es : List E) (w : World) (e : Ending) (w' : World) : Prop :=
  ∃ g, e = .returned (.slice (some ⟨g, 0, none⟩) es.length es.length) ∧ BlkS row T w' g es ∧ w.heap.size ≤ g ∧ Below w.heap.size w w'
end
/-- Several cells set one behind the other. -/
def setAll {α : Type} : List α → Nat → List α → List α
  | l, _, [] => l
  | l, p, v :: vs => setAll (l.set p v) (p + 1) vs
theorem setAll_mid {α : Type} : ∀ (vs : List α) (xs ys zs : List α) (p : Nat) (_ : xs.length = p) (_ : ys.length = vs.length), setAll (xs ++ ys ++ zs) p vs = xs ++ vs ++ zs
  | [], xs, ys, zs, p, hp, hl => by
    have : ys = [] := List.length_eq_zero_iff.1 (by simpa using hl)
    subst this; simp [setAll]
  | v :: vs, xs, [], zs, p, hp, hl => by simp at hl
  | v :: vs, xs, y :: ys, zs, p, hp, hl => by
    have e : (xs ++ y :: ys ++ zs).set p v = (xs ++ [v]) ++ ys ++ zs := by
      subst hp
      simp
    have hl' : ys.length = vs.length := by simpa using hl
    rw [setAll, e, setAll_mid vs (xs ++ [v]) ys zs (p + 1) (by simp [hp]) hl']
    simp
theorem heap_setCells (T : TypeId) (g : Nat) : ∀ (vs : List Value) (p : Nat) (w : World) (cs : List Value) (_ : w.heap[g]? = some (.cells cs.toArray T (0, 0))), (w.setCells g p vs).heap[g]? = some (.cells (setAll cs p vs).toArray T (0, 0))
  | [], p, w, cs, h => h
  | v :: vs, p, w, cs, h => by
    refine heap_setCells T g vs (p + 1) _ (cs.set p v) ?_
    simp [World.setCell, Array.getElem?_modify, h]
theorem below_setCells {B : Nat} (g : Nat) (hg : B ≤ g) : ∀ (vs : List Value) (p : Nat) (w w' : World) (_ : Below B w w'), Below B w (w'.setCells g p vs)
  | [], p, w, w', h => h
  | v :: vs, p, w, w', h => below_setCells g hg vs (p + 1) w _ (h.trans ⟨rfl, rfl, rfl, by simp [World.setCell], fun k hk => Below.heap_setCell _ _ _ _ (by show k ≠ g; omega)⟩)
section
variable {E : Type}
/-- The cells of a block of structs of which k have been copied; the others hold zeros. -/
def cpS (row : E → List Value) (zero : List Value) (es : List E) (k : Nat) : List Value := ((es.take k).map row).flatten ++ (List.replicate (es.length - k) zero).flatten
theorem cpS_all (row : E → List Value) (zero : List Value) (es : List E) : cpS row zero es es.length = (es.map row).flatten := by simp [cpS]
theorem rows_len {row : E → List Value} {n : Nat} (hn : ∀ e, (row e).length = n) (es : List E) : ∀ r ∈ es.map row, r.length = n := by
  intro r hr
  obtain ⟨e, _, rfl⟩ := List.mem_map.1 hr
  exact hn e
theorem reps_len {zero : List Value} {n : Nat} (hz : zero.length = n) (m : Nat) : ∀ r ∈ List.replicate m zero, r.length = n := by
  intro r hr
  rw [(List.mem_replicate.1 hr).2]; exact hz
theorem cpS_succ {row : E → List Value} {zero : List Value} {n : Nat} (hn : ∀ e, (row e).length = n) (hz : zero.length = n) {es : List E} {k : Nat} {e : E} (hk : es[k]? = some e) : setAll (cpS row zero es k) (k * n) (row e) = cpS row zero es (k + 1) := by
  have hlt : k < es.length := (List.getElem?_eq_some_iff.1 hk).1
  have e1 : es.length - k = (es.length - (k + 1)) + 1 := by omega
  unfold cpS
  rw [e1, List.replicate_succ, List.flatten_cons, ← List.append_assoc, setAll_mid (row e) _ zero _ (k * n) ?_ (by rw [hz, hn])]
  · rw [List.take_add_one, hk]
    simp
  · rw [flatten_len (rows_len hn _), List.length_map, List.length_take, Nat.min_eq_left (by omega)]
theorem cpS_size {row : E → List Value} {zero : List Value} {n : Nat} (hn : ∀ e, (row e).length = n) (hz : zero.length = n) {es : List E} {k : Nat} (hk : k ≤ es.length) : (cpS row zero es k).length = es.length * n := by
  unfold cpS
  rw [List.length_append, flatten_len (rows_len hn _), flatten_len (reps_len hz _), List.length_map, List.length_take, List.length_replicate, Nat.min_eq_left hk, ← Nat.add_mul]
  congr 1
  omega
theorem made_flatten (zero : List Value) (n : Nat) (h0 : 0 < zero.length) : madeCells zero.toArray (n * zero.length) = (List.replicate n zero).flatten.toArray := by
  have hl : (List.replicate n zero).flatten.length = n * zero.length := by
    rw [flatten_len (reps_len rfl n)]; simp
  apply Array.ext
  · rw [size_madeCells]; simp
  · intro i h1 h2
    rw [size_madeCells] at h1
    have hq : i / zero.length < n := Nat.div_lt_of_lt_mul (by rw [Nat.mul_comm]; exact h1)
    have hr : i % zero.length < zero.length := Nat.mod_lt _ h0
    have h3 := flatten_at (reps_len rfl n) (k := i / zero.length) (r := zero) (by simp [hq]) hr
    have e : i / zero.length * zero.length + i % zero.length = i := by rw [Nat.mul_comm]; exact Nat.div_add_mod _ _
    rw [e] at h3
    have h4 : (List.replicate n zero).flatten[i]? = some ((List.replicate n zero).flatten[i]'(by rw [hl]; exact h1)) := List.getElem?_eq_getElem _
    have h5 : zero[i % zero.length]? = some (zero[i % zero.length]'hr) := List.getElem?_eq_getElem _
    rw [h4, h5] at h3
    have h6 := Option.some.inj h3
    simp only [madeCells, Array.getElem_map, Array.getElem_range, List.getElem_toArray, List.size_toArray]
    rw [h6, List.getElem!_toArray, List.getElem!_eq_getElem?_getD, h5]
    rfl
end
/-- 'make([]T, n)' of structs, n a variable: an equation for every world. -/
theorem run_make_recs {P : Program} (t e : TypeId) (zero : List Value) (size bytes : Nat) (ht : P.underlying t = some (.slice e)) (hinfo : (P.info? e).map (fun i => (i.zero, i.size, i.bytes)) = some (some (.agg zero.toArray), size, bytes)) (hz : zero.length = size) (h0 : 0 < size)
    (kl kc : IntKind) (n : Nat) (hbytes : bytes * n ≤ 281474976710656) (h63 : n ≤ 9223372036854775807) (w : World) :
    (Instr.makeSlice t (.int kl (n : Int)) (.int kc (n : Int))).run P w = .ok (.slice (some ⟨w.heap.size, 0, none⟩) n n) (w.alloc (.cells (List.replicate n zero).flatten.toArray e)) := by
  obtain ⟨i, hi, hzz⟩ := Option.map_eq_some_iff.1 hinfo
  simp only [Prod.mk.injEq] at hzz
  obtain ⟨hz1, hs, hb⟩ := hzz
  have hr := run_make (P := P) w t e i _ ht hi hz1 kl kc n n (by omega) (by omega) (by rw [hb]; have : ((bytes * n : Nat) : Int) ≤ 281474976710656 := by omega
                                                                                       rwa [Int.natCast_mul] at this) (by omega)
  rw [hr]
  have e1 : (Value.agg zero.toArray).cells = zero.toArray := rfl
  rw [e1, hs, ← hz, Int.toNat_natCast, made_flatten zero n (by omega)]
theorem cpS_zero {E : Type} (row : E → List Value) (zero : List Value) (es : List E) : (List.replicate es.length zero).flatten = cpS row zero es 0 := by simp [cpS]
end Go.Proofs.YtpdodpnhohmjaaaGreatDoor
end
section
set_option linter.unusedVariables false
namespace Go.Proofs.YtpdodpnhohmjaaaGreatDoor
open Go.RowKit Go.ChangeShapes Go.WideShapes Go.ChangeAt Go.Joins Go.Deep
theorem list_of {E : Type} {p : Nat → E → Prop} : ∀ n : Nat, (∀ i, i < n → ∃ e, p i e) → ∃ es : List E, es.length = n ∧ ∀ i e, es[i]? = some e → p i e
  | 0, _ => ⟨[], rfl, by simp⟩
  | n + 1, h => by
    obtain ⟨es, hl, hp⟩ := list_of n (fun i hi => h i (by omega))
    obtain ⟨e, he⟩ := h n (by omega)
    refine ⟨es ++ [e], by simp [hl], fun i x hx => ?_⟩
    by_cases hi : i < n
    · rw [List.getElem?_append_left (by omega)] at hx; exact hp i x hx
    · have hlt := (List.getElem?_eq_some_iff.1 hx).1
      have : i = n := by simp at hlt; omega
      subst this
      rw [List.getElem?_append_right (by omega), hl] at hx
      simp at hx
      subst hx; exact he
theorem add_plain (b off k : Nat) : (⟨b, off, none⟩ : Addr).add k = ⟨b, off + k, none⟩ := by
  by_cases h0 : k = 0
  · subst h0; simp [Addr.add]
  · simp [Addr.add, h0]
section
variable {H : Type} {enc : TypeId × Value → H} {P : Program} {w : World} {base : Nat} {spare : Nat → Bool} {held : Bool}
theorem int_cell {T : TypeId} {c : Value} {n : Nat} {y : DataW H × List MemPlace} (hT : P.underlying T = some (.int .i64)) (h : DataW.trod enc P w base spare held n T [c] = some y) : ∃ x : Int, c = .int .i64 x := by
  obtain ⟨x, e, _, _⟩ := DataW.trod_int hT h
  simp at e
  exact ⟨x, e⟩
theorem string_cell {T : TypeId} {c : Value} {n : Nat} {y : DataW H × List MemPlace} (hT : P.underlying T = some .string) (h : DataW.trod enc P w base spare held n T [c] = some y) : ∃ x : ByteArray, c = .string x ∧ x.size ≤ maxLen := by
  obtain ⟨x, e, _, hx⟩ := DataW.trod_string hT h
  simp at e
  exact ⟨x, e, hx⟩
theorem bool_cell {T : TypeId} {c : Value} {n : Nat} {y : DataW H × List MemPlace} (hT : P.underlying T = some .bool) (h : DataW.trod enc P w base spare held n T [c] = some y) : ∃ x : Bool, c = .bool x := by
  obtain ⟨x, e, _⟩ := DataW.trod_bool hT h
  simp at e
  exact ⟨x, e⟩
theorem open_recs {E : Type} {row : E → List Value} {ok : E → Prop} {n : Nat} (hn : ∀ e, (row e).length = n) {t el : TypeId} {fs : Array Field} (ht : P.underlying t = some (.slice el)) (he : P.underlying el = some (.struct fs))
    (hone : oneCellFields P fs = true) (hC : P.cellsOf el = n) (hfs : fs.size = n) (h0 : 0 < n)
    (hread : ∀ cs : List Value, cs.length = n → (∀ (j : Nat) (f : Field), fs[j]? = some f → ∃ (c : Value) (m : Nat) (y : DataW H × List MemPlace), cs[j]? = some c ∧ DataW.trod enc P w base (fun _ => true) held m f.type [c] = some y) → ∃ e, cs = row e ∧ ok e)
    {a : Option Addr} {len cap fuel : Nat} {x : DataW H × List MemPlace} (h : DataW.trod enc P w base (fun _ => true) held fuel t [.slice a len cap] = some x) :
    ∃ es : List E, len = es.length ∧ es.length ≤ maxLen ∧ SlS row w a es ∧ ∀ e ∈ es, ok e := by
  rcases open_slice ht h with ⟨hcs, _⟩ | ⟨a', len', cap', m, k, D, Pl, hcs, _, hl, hm, hmm, _, hi⟩
  · simp at hcs
    obtain ⟨rfl, rfl, rfl⟩ := hcs
    exact ⟨[], rfl, by simp, .inl rfl, by simp⟩
  · simp at hcs
    obtain ⟨rfl, rfl, rfl⟩ := hcs
    simp at hmm
    subst hmm
    have each : ∀ i, i < len → ∃ e, ok e ∧ ∀ j v, (row e)[j]? = some v → w.cell? (a'.add (i * n + j)) = some v := by
      intro i hil
      obtain ⟨cs, h1, h2⟩ := hi i (by omega)
      rw [hC] at h1
      obtain ⟨_, hlen, hat⟩ := World.cells?_some h1
      obtain ⟨ys, q, _, _, _, hyl, hf⟩ := DataW.trod_struct he h2
      obtain ⟨e, rfl, hok⟩ := hread cs hlen (by
        intro j f hj
        have hlt : j < fs.size := (Array.getElem?_eq_some_iff.1 hj).1
        obtain ⟨ho, hk⟩ := hone_of hone j f hj
        have h3 := hf j f hj
        rw [ho, hk] at h3
        have hd : (cs.drop j).take 1 = [cs[j]'(by omega)] := by
          rw [List.drop_eq_getElem_cons (by omega)]
          rfl
        rw [hd] at h3
        refine ⟨cs[j]'(by omega), q, ys[j]'(by omega), List.getElem?_eq_getElem _, ?_⟩
        rw [h3]
        exact List.getElem?_eq_getElem (by omega))
      refine ⟨e, hok, fun j v hv => ?_⟩
      have hj : j < n := by rw [← hn e]; exact (List.getElem?_eq_some_iff.1 hv).1
      have := hat j hj
      rw [add_add] at this
      rw [this]; exact hv
    obtain ⟨es, hlen, hp⟩ := list_of len each
    refine ⟨es, hlen.symm, by omega, ?_, fun e hx => ?_⟩
    · cases hes : es with
      | nil => exact .inl rfl
      | cons e0 r =>
        right
        obtain ⟨b, off, spot⟩ := a'
        have hfst := (hp 0 e0 (by simp [hes])).2 0 _ (List.getElem?_eq_getElem (by rw [hn]; exact h0))
        have hspot : spot = none := by simpa [Addr.add] using World.cell?_spot hfst
        subst hspot
        refine ⟨b, off, rfl, World.block_lt_of_cell? w _ (by rw [add_plain] at hfst; exact hfst), ?_⟩
        rw [← hes]
        intro i v hv
        have hlt := (List.getElem?_eq_some_iff.1 hv).1
        rw [flatten_len (rows_len hn es), List.length_map] at hlt
        have hq : i / n < es.length := Nat.div_lt_of_lt_mul (by rw [Nat.mul_comm]; exact hlt)
        have hr : i % n < n := Nat.mod_lt _ h0
        have hk : es[i / n]? = some (es[i / n]'hq) := List.getElem?_eq_getElem _
        have ei : i / n * n + i % n = i := by rw [Nat.mul_comm]; exact Nat.div_add_mod _ _
        have h3 := flatten_at (rows_len hn es) (k := i / n) (r := row (es[i / n]'hq)) (by simp [hk]) hr
        rw [ei] at h3
        have h4 := (hp _ _ hk).2 (i % n) v (by rw [← h3]; exact hv)
        rw [ei, add_plain] at h4
        exact h4
    · obtain ⟨i, hi⟩ := List.getElem?_of_mem hx
      exact (hp i e hi).1
end
/-- What a law's size check gives: what is left, or -1. -/
def szV (left n : Nat) : Int := if n ≤ left then ((left - n : Nat) : Int) else -1
theorem le_sum_of_mem {x : Nat} : ∀ {l : List Nat}, x ∈ l → x ≤ l.sum
  | [], h => by cases h
  | y :: r, h => by
    rw [List.sum_cons]
    rcases List.mem_cons.1 h with rfl | h
    · exact Nat.le_add_right _ _
    · exact Nat.le_trans (le_sum_of_mem h) (Nat.le_add_left _ _)
theorem toList_ne2 {m s : ByteArray} (h : ¬ m = s) : (m.toList == s.toList) = false := by
  rw [beq_eq_false_iff_ne]
  intro h2
  apply h
  rw [ByteArray.toList_eq, ByteArray.toList_eq] at h2
  apply ByteArray.ext
  exact Array.toList_inj.1 h2
theorem take_eq {E : Type} {xs ys : List E} (hl : xs.length = ys.length) (h : xs.take xs.length = ys.take xs.length) : xs = ys := by
  rw [List.take_length, hl, List.take_length] at h; exact h
theorem below_drewN' {B : Nat} {a w : World} (h : Below B a w) (n : Nat) : Below B a (w.drewN n) := ⟨h.os, h.tape, h.output, h.size, h.block⟩
end Go.Proofs.YtpdodpnhohmjaaaGreatDoor
end
section
set_option linter.unusedVariables false
namespace Go.Proofs.YtpdodpnhohmjaaaGreatDoor
open Go.RowKit Go.ChangeShapes Go.WideShapes Go.ChangeAt Go.Joins Go.Deep
/-- The cells from p on hold these values. -/
def BoxAt (w : World) (p : Nat) (vs : Array Value) : Prop := ∀ i v, vs[i]? = some v → w.cell? ⟨p, i, none⟩ = some v
theorem BoxAt.new (w : World) (vs : Array Value) (T : TypeId) (p : Nat) (hp : w.heap.size = p) : BoxAt (w.alloc (.cells vs T)) p vs := by
  subst hp
  intro i v hv
  have e := heap_alloc_new w (.cells vs T)
  simp only [World.cell?, e, hv]
  rfl
theorem BoxAt.below {w w' : World} {B p : Nat} {vs : Array Value} (h : BoxAt w p vs) (hb : Below B w w') (hp : p < B) : BoxAt w' p vs := by
  intro i v hv
  rw [hb.cell (p := ⟨p, i, none⟩) hp]; exact h i v hv
theorem BoxAt.alloc {w : World} {p : Nat} {vs : Array Value} (h : BoxAt w p vs) (o : Obj) (hp : p < w.heap.size) : BoxAt (w.alloc o) p vs := h.below ((Below.refl w.heap.size w).alloc (Nat.le_refl _) o) hp
theorem BoxAt.drew {w : World} {p : Nat} {vs : Array Value} (h : BoxAt w p vs) : BoxAt w.drew p vs := h
theorem BoxAt.lt {w : World} {p : Nat} {vs : Array Value} (h : BoxAt w p vs) (h0 : 0 < vs.size) : p < w.heap.size := World.block_lt_of_cell? w _ (h 0 vs[0] (by simp [h0]))
section
variable {H : Type} {enc : TypeId × Value → H} {P : Program} {w : World} {base : Nat} {spare : Nat → Bool} {held : Bool}
/-- A struct of one-cell fields, whatever their number: its cells, and what each is read as. -/
theorem open_fields {r : Reach} {b0 : Nat} {t : TypeId} {fs : Array Field} {m : Nat} {v : Value} {d : DataW H} {p : List MemPlace} (hs : P.underlying t = some (.struct fs)) (hone : oneCellFields P fs = true) (hC0 : P.cellsOf t = m) (hm : fs.size = m)
    (hv : Value.okWide P w r b0 t v) (h : DataW.Trod enc P w base spare held t v d p) :
    ∃ cs : Array Value, v = .agg cs ∧ cs.size = m ∧ ∀ (j : Nat) (f : Field), fs[j]? = some f → ∃ (c : Value) (n : Nat) (y : DataW H × List MemPlace), cs[j]? = some c ∧ DataW.trod enc P w base spare held n f.type [c] = some y := by
  obtain ⟨cs, rfl, hsz⟩ := okWide_struct hs hv
  have hC : P.cellsOf t = fs.size := hC0.trans hm.symm
  rw [hC] at hsz
  refine ⟨cs, rfl, hsz.trans hm, ?_⟩
  intro j f hj
  obtain ⟨fuel, hf⟩ := h
  obtain ⟨ys, n, _, _, _, hlen, hat⟩ := DataW.trod_struct hs hf
  have hlt : j < fs.size := (Array.getElem?_eq_some_iff.1 hj).1
  obtain ⟨ho, hk⟩ := hone_of hone j f hj
  have h1 := hat j f hj
  rw [ho, hk] at h1
  have e1 : (Value.cells (.agg cs)).toList = cs.toList := rfl
  have hd : (cs.toList.drop j).take 1 = [cs[j]'(by omega)] := by
    rw [List.drop_eq_getElem_cons (by simp; omega)]
    rfl
  rw [e1, hd] at h1
  refine ⟨cs[j]'(by omega), n, ys[j]'(by omega), by simp [show j < cs.size by omega], ?_⟩
  rw [h1]
  exact List.getElem?_eq_getElem (by omega)
theorem int_field {T : TypeId} {c : Value} {n : Nat} {y : DataW H × List MemPlace} (hT : P.underlying T = some (.int .i64)) (h : DataW.trod enc P w base spare held n T [c] = some y) : ∃ x : Int, c = .int .i64 x := by
  obtain ⟨x, e, _, _⟩ := DataW.trod_int hT h
  simp at e
  exact ⟨x, e⟩
end
end Go.Proofs.YtpdodpnhohmjaaaGreatDoor
end
section
set_option linter.unusedVariables false
namespace Go.Proofs.YtpdodpnhohmjaaaGreatDoor
open Go.RowKit
set_option maxRecDepth 20000
theorem SlSI.sm {E : Type} {row : E → List Value} {T : TypeId} {lo hi : Nat} {w w' : World} {B C : Nat} {a : Option Addr} {es : List E} (h : SlSI row T w B C a es) (hs : Sm lo hi w w') (hp : C ≤ lo ∨ hi ≤ B) : SlSI row T w' B C a es := by
  rcases h with rfl | ⟨g, rest, rfl, hg, hC, hh⟩
  · exact .inl rfl
  · exact .inr ⟨g, rest, rfl, hg, hC, by rw [hs.block g (Array.getElem?_eq_some_iff.1 hh).1 (by omega)]; exact hh⟩
theorem BoxAt.sm {lo hi : Nat} {w w' : World} {p : Nat} {vs : Array Value} (h : BoxAt w p vs) (hs : Sm lo hi w w') (hp : p < lo ∨ hi ≤ p) : BoxAt w' p vs := by
  intro i v hv
  have h1 := h i v hv
  rw [World.cell?_of_block (hs.block p (World.block_lt_of_cell? w _ h1) hp)]
  exact h1
end Go.Proofs.YtpdodpnhohmjaaaGreatDoor
end
section
set_option linter.unusedVariables false
namespace Go.Proofs.YtpdodpnhohmjaaaGreatDoor
open Go.RowKit Go.ChangeShapes Go.WideShapes Go.ChangeAt Go.Joins
/-- What the walk is told of a flux that came in. -/
def FluxArg (w : World) (a : Option Addr) (xs : List Int) : Prop := xs.length ≤ maxLen ∧ SlA w a xs
set_option maxRecDepth 100000 in
theorem open_ints64 {H : Type} {enc : TypeId × Value → H} {W : World} {base : Nat} {v : Value} {d : DataW H} {p : List MemPlace}
    (hv : Value.okWide Tryz.prog W .any base 24 v) (h : DataW.Trod enc Tryz.prog W 0 (fun _ => true) true 24 v d p) :
    ∃ (a : Option Addr) (xs : List Int) (cap : Nat), v = .slice a xs.length cap ∧ FluxArg W a xs := by
  obtain ⟨a0, len0, cap0, rfl⟩ := okWide_slice Tryz.underlying24 hv
  obtain ⟨fuel, hf⟩ := h
  rcases open_ints Tryz.underlying24 Tryz.underlying2 (by kernel_rfl) hf with ⟨hcs, _⟩ | ⟨x, len, cap, zs, hcs, _, hl, hm, hz, _, hcell, _⟩
  · simp [Value.cells] at hcs
    obtain ⟨rfl, rfl, rfl⟩ := hcs
    exact ⟨none, [], 0, rfl, by simp, .inl rfl⟩
  · simp [Value.cells] at hcs
    obtain ⟨rfl, rfl, rfl⟩ := hcs
    have hz' : zs.length = cap0 := by simpa using hz
    have hlen : (zs.take len0).length = len0 := by simp; omega
    refine ⟨some x, zs.take len0, cap0, by rw [hlen], by rw [hlen]; omega, ?_⟩
    by_cases h0 : len0 = 0
    · exact .inl (by subst h0; rfl)
    · obtain ⟨b, off, spot⟩ := x
      have hc := hcell 0 (by omega)
      have hspot : spot = none := by simpa [Addr.add] using World.cell?_spot hc
      subst hspot
      have hc0 : W.cell? ⟨b, off + 0, none⟩ = some (.int .i64 (zs.getD 0 0)) := by simpa [Addr.add] using hc
      refine .inr ⟨b, off, rfl, World.block_lt_of_cell? W _ hc0, ?_⟩
      intro i y hy
      have hi : i < len0 := by
        have := (List.getElem?_eq_some_iff.1 hy).1
        omega
      have hc2 := hcell i (by omega)
      rw [List.getElem?_take_of_lt hi] at hy
      have e : zs.getD i 0 = y := by simp [hy]
      rw [e] at hc2
      have ea : (⟨b, off, none⟩ : Addr).add i = ⟨b, off + i, none⟩ := by
        by_cases h0 : i = 0
        · subst h0; simp [Addr.add]
        · simp [Addr.add, h0]
      rw [ea] at hc2
      exact hc2
end Go.Proofs.YtpdodpnhohmjaaaGreatDoor
end
