/- Slices of structs: what is told of one; blocks of structs that the call owns; several cells set at once. -/
import Derived.Test.YtpgcmgbflcdjiaaSlices
import Derived.Test.YtpgcmgbflcdjiaaRows
import Derived.Laws.IdiomCopy
import Derived.Deep.Slices
import Derived.Deep.Fields
import Derived.ProofKit
import Derived.OpenShut
import Derived.Lib.SmallJoins
namespace Go.Proofs.Ytpgcmgbflcdjiaa
open Go.RowKit
set_option linter.unusedVariables false
/-- From ⟨b, off⟩ on stand these cells. -/
def CellsAt (w : World) (b off : Nat) (vs : List Value) : Prop := ∀ i v, vs[i]? = some v → w.cell? ⟨b, off + i, none⟩ = some v
theorem CellsAt.below {w w' : World} {B b off : Nat} {vs : List Value} (h : CellsAt w b off vs) (hb : Below B w w') (hB : b < B) : CellsAt w' b off vs := by
  intro i x hx
  rw [hb.cell (p := ⟨b, off + i, none⟩) hB]; exact h i x hx
theorem flatten_at {α : Type} {n : Nat} : ∀ {rows : List (List α)} (_ : ∀ r ∈ rows, r.length = n) {k : Nat} {r : List α} (_ : rows[k]? = some r) {j : Nat} (_ : j < n), rows.flatten[k * n + j]? = r[j]?
  | [], _, k, r, hk, j, hj => by simp at hk
  | r0 :: rest, hn, 0, r, hk, j, hj => by
    simp at hk
    subst hk
    have h0 := hn r0 (by simp)
    simp [List.getElem?_append, h0, hj]
  | r0 :: rest, hn, k + 1, r, hk, j, hj => by
    have h0 := hn r0 (by simp)
    have hk' : rest[k]? = some r := by simpa using hk
    have ih := flatten_at (rows := rest) (fun x hx => hn x (by simp [hx])) hk' hj
    have e : (k + 1) * n + j = r0.length + (k * n + j) := by rw [h0, Nat.add_mul]; omega
    rw [e, List.flatten_cons, List.getElem?_append_right (by omega)]
    simpa using ih
theorem flatten_len {α : Type} {n : Nat} : ∀ {rows : List (List α)} (_ : ∀ r ∈ rows, r.length = n), rows.flatten.length = rows.length * n
  | [], _ => by simp
  | r0 :: rest, hn => by
    have h0 := hn r0 (by simp)
    have ih := flatten_len (rows := rest) (fun x hx => hn x (by simp [hx]))
    simp only [List.flatten_cons, List.length_append, List.length_cons, h0, ih, Nat.add_mul]
    omega
section
variable {E : Type}
/-- A slice '.slice a es.length c' reads as the structs es in the world w; 'row' gives a struct's cells. -/
def SlS (row : E → List Value) (w : World) (a : Option Addr) (es : List E) : Prop := es = [] ∨ ∃ b off, a = some ⟨b, off, none⟩ ∧ b < w.heap.size ∧ CellsAt w b off (es.map row).flatten
/-- Block g holds just es. -/
def BlkS (row : E → List Value) (T : TypeId) (w : World) (g : Nat) (es : List E) : Prop := w.heap[g]? = some (.cells (es.map row).flatten.toArray T (0, 0))
/-- What the walk is told of a slice of structs that came in. -/
def RecArg (row : E → List Value) (w : World) (a : Option Addr) (es : List E) : Prop := es.length ≤ maxLen ∧ SlS row w a es
/-- A slice of structs of the call's own, in a block from B on and below C. -/
def SlSI (row : E → List Value) (T : TypeId) (w : World) (B C : Nat) (a : Option Addr) (es : List E) : Prop :=
  es = [] ∨ ∃ g rest, a = some ⟨g, 0, none⟩ ∧ B ≤ g ∧ g < C ∧ w.heap[g]? = some (.cells ((es.map row).flatten.toArray ++ rest) T (0, 0))
variable {row : E → List Value} {T : TypeId} {w w' : World} {a : Option Addr} {es : List E} {n g B C D b off k : Nat} {e : E}
theorem SlS.below (h : SlS row w a es) (hb : Below B w w') (hB : w.heap.size ≤ B) : SlS row w' a es := by
  rcases h with rfl | ⟨b, off, rfl, hlt, hi⟩
  · exact .inl rfl
  · exact .inr ⟨b, off, rfl, Nat.lt_of_lt_of_le hlt hb.size, hi.below hb (by omega)⟩
theorem SlS.at (hn : ∀ e, (row e).length = n) (h : SlS row w a es) (hk : es[k]? = some e) : ∃ b off, a = some ⟨b, off, none⟩ ∧ b < w.heap.size ∧ CellsAt w b (off + k * n) (row e) := by
  rcases h with rfl | ⟨b, off, rfl, hlt, hi⟩
  · simp at hk
  · refine ⟨b, off, rfl, hlt, fun j v hv => ?_⟩
    have hj : j < n := by rw [← hn e]; exact (List.getElem?_eq_some_iff.1 hv).1
    have := hi (k * n + j) v (by rw [flatten_at (n := n) (by simp; intro x _; exact hn x) (r := row e) (by simp [hk]) hj]; exact hv)
    rwa [← Nat.add_assoc] at this
theorem BlkS.lt (h : BlkS row T w g es) : g < w.heap.size := (Array.getElem?_eq_some_iff.1 h).1
theorem BlkS.below (h : BlkS row T w g es) (hb : Below B w w') (hg : g < B) : BlkS row T w' g es := by unfold BlkS; rw [hb.block g hg]; exact h
theorem BlkS.drew (h : BlkS row T w g es) : BlkS row T w.drew g es := h
theorem BlkS.sl (h : BlkS row T w g es) : SlS row w (some ⟨g, 0, none⟩) es := by
  refine .inr ⟨g, 0, rfl, h.lt, fun i v hv => ?_⟩
  have h' : w.heap[g]? = some (.cells (es.map row).flatten.toArray T (0, 0)) := h
  simp only [World.cell?, h', Nat.zero_add, List.getElem?_toArray]
  rw [hv]; rfl
theorem BlkS.sli (h : BlkS row T w g es) (hg : B ≤ g) : SlSI row T w B w.heap.size (some ⟨g, 0, none⟩) es :=
  .inr ⟨g, #[], rfl, hg, h.lt, by unfold BlkS at h; simpa using h⟩
theorem SlSI.sl (h : SlSI row T w B C a es) : SlS row w a es := by
  rcases h with rfl | ⟨g, rest, rfl, hg, hC, hh⟩
  · exact .inl rfl
  · refine .inr ⟨g, 0, rfl, (Array.getElem?_eq_some_iff.1 hh).1, fun i v hv => ?_⟩
    have hi := (List.getElem?_eq_some_iff.1 hv).1
    simp only [World.cell?, hh, Nat.zero_add]
    rw [Array.getElem?_append_left (by simpa using hi), List.getElem?_toArray, hv]; rfl
theorem SlSI.below (h : SlSI row T w B C a es) (hb : Below D w w') (hD : C ≤ D) : SlSI row T w' B C a es := by
  rcases h with rfl | ⟨g, rest, rfl, hg, hC, hh⟩
  · exact .inl rfl
  · exact .inr ⟨g, rest, rfl, hg, hC, by rw [hb.block g (by omega)]; exact hh⟩
theorem SlSI.mono {B' C' : Nat} (h : SlSI row T w B C a es) (hB : B' ≤ B) (hC : C ≤ C') : SlSI row T w B' C' a es := by
  rcases h with rfl | ⟨g, rest, rfl, hg, hl, hh⟩
  · exact .inl rfl
  · exact .inr ⟨g, rest, rfl, by omega, by omega, hh⟩
theorem SlSI.drew (h : SlSI row T w B C a es) : SlSI row T w.drew B C a es := h
/-- What a copy gives: a slice of its own with the same structs. -/
def ToRecs (row : E → List Value) (T : TypeId) (es : List E) (w : World) (e : Ending) (w' : World) : Prop :=
  ∃ g, e = .returned (.slice (some ⟨g, 0, none⟩) es.length es.length) ∧ BlkS row T w' g es ∧ w.heap.size ≤ g ∧ Below w.heap.size w w'
end
/-- Several cells set one behind the other. -/
def setAll {α : Type} : List α → Nat → List α → List α
  | l, _, [] => l
  | l, p, v :: vs => setAll (l.set p v) (p + 1) vs
theorem setAll_mid {α : Type} : ∀ (vs : List α) (xs ys zs : List α) (p : Nat) (_ : xs.length = p) (_ : ys.length = vs.length), setAll (xs ++ ys ++ zs) p vs = xs ++ vs ++ zs
  | [], xs, ys, zs, p, hp, hl => by
    have : ys = [] := List.length_eq_zero_iff.1 (by simpa using hl)
    subst this; simp [setAll]
  | v :: vs, xs, [], zs, p, hp, hl => by simp at hl
  | v :: vs, xs, y :: ys, zs, p, hp, hl => by
    have e : (xs ++ y :: ys ++ zs).set p v = (xs ++ [v]) ++ ys ++ zs := by
      subst hp
      simp
    have hl' : ys.length = vs.length := by simpa using hl
    rw [setAll, e, setAll_mid vs (xs ++ [v]) ys zs (p + 1) (by simp [hp]) hl']
    simp
theorem heap_setCells (T : TypeId) (g : Nat) : ∀ (vs : List Value) (p : Nat) (w : World) (cs : List Value) (_ : w.heap[g]? = some (.cells cs.toArray T (0, 0))), (w.setCells g p vs).heap[g]? = some (.cells (setAll cs p vs).toArray T (0, 0))
  | [], p, w, cs, h => h
  | v :: vs, p, w, cs, h => by
    refine heap_setCells T g vs (p + 1) _ (cs.set p v) ?_
    simp [World.setCell, Array.getElem?_modify, h]
theorem below_setCells {B : Nat} (g : Nat) (hg : B ≤ g) : ∀ (vs : List Value) (p : Nat) (w w' : World) (_ : Below B w w'), Below B w (w'.setCells g p vs)
  | [], p, w, w', h => h
  | v :: vs, p, w, w', h => below_setCells g hg vs (p + 1) w _ (h.trans ⟨rfl, rfl, rfl, by simp [World.setCell], fun k hk => Below.heap_setCell _ _ _ _ (by show k ≠ g; omega)⟩)
section
variable {E : Type}
/-- The cells of a block of structs of which k have been copied; the others hold zeros. -/
def cpS (row : E → List Value) (zero : List Value) (es : List E) (k : Nat) : List Value := ((es.take k).map row).flatten ++ (List.replicate (es.length - k) zero).flatten
theorem cpS_all (row : E → List Value) (zero : List Value) (es : List E) : cpS row zero es es.length = (es.map row).flatten := by simp [cpS]
theorem rows_len {row : E → List Value} {n : Nat} (hn : ∀ e, (row e).length = n) (es : List E) : ∀ r ∈ es.map row, r.length = n := by
  intro r hr
  obtain ⟨e, _, rfl⟩ := List.mem_map.1 hr
  exact hn e
theorem reps_len {zero : List Value} {n : Nat} (hz : zero.length = n) (m : Nat) : ∀ r ∈ List.replicate m zero, r.length = n := by
  intro r hr
  rw [(List.mem_replicate.1 hr).2]; exact hz
theorem cpS_succ {row : E → List Value} {zero : List Value} {n : Nat} (hn : ∀ e, (row e).length = n) (hz : zero.length = n) {es : List E} {k : Nat} {e : E} (hk : es[k]? = some e) : setAll (cpS row zero es k) (k * n) (row e) = cpS row zero es (k + 1) := by
  have hlt : k < es.length := (List.getElem?_eq_some_iff.1 hk).1
  have e1 : es.length - k = (es.length - (k + 1)) + 1 := by omega
  unfold cpS
  rw [e1, List.replicate_succ, List.flatten_cons, ← List.append_assoc, setAll_mid (row e) _ zero _ (k * n) ?_ (by rw [hz, hn])]
  · rw [List.take_add_one, hk]
    simp
  · rw [flatten_len (rows_len hn _), List.length_map, List.length_take, Nat.min_eq_left (by omega)]
theorem cpS_size {row : E → List Value} {zero : List Value} {n : Nat} (hn : ∀ e, (row e).length = n) (hz : zero.length = n) {es : List E} {k : Nat} (hk : k ≤ es.length) : (cpS row zero es k).length = es.length * n := by
  unfold cpS
  rw [List.length_append, flatten_len (rows_len hn _), flatten_len (reps_len hz _), List.length_map, List.length_take, List.length_replicate, Nat.min_eq_left hk, ← Nat.add_mul]
  congr 1
  omega
theorem made_flatten (zero : List Value) (n : Nat) (h0 : 0 < zero.length) : madeCells zero.toArray (n * zero.length) = (List.replicate n zero).flatten.toArray := by
  have hl : (List.replicate n zero).flatten.length = n * zero.length := by
    rw [flatten_len (reps_len rfl n)]; simp
  apply Array.ext
  · rw [size_madeCells]; simp
  · intro i h1 h2
    rw [size_madeCells] at h1
    have hq : i / zero.length < n := Nat.div_lt_of_lt_mul (by rw [Nat.mul_comm]; exact h1)
    have hr : i % zero.length < zero.length := Nat.mod_lt _ h0
    have h3 := flatten_at (reps_len rfl n) (k := i / zero.length) (r := zero) (by simp [hq]) hr
    have e : i / zero.length * zero.length + i % zero.length = i := by rw [Nat.mul_comm]; exact Nat.div_add_mod _ _
    rw [e] at h3
    have h4 : (List.replicate n zero).flatten[i]? = some ((List.replicate n zero).flatten[i]'(by rw [hl]; exact h1)) := List.getElem?_eq_getElem _
    have h5 : zero[i % zero.length]? = some (zero[i % zero.length]'hr) := List.getElem?_eq_getElem _
    rw [h4, h5] at h3
    have h6 := Option.some.inj h3
    simp only [madeCells, Array.getElem_map, Array.getElem_range, List.getElem_toArray, List.size_toArray]
    rw [h6, List.getElem!_toArray, List.getElem!_eq_getElem?_getD, h5]
    rfl
end
/-- 'make([]T, n)' of structs, n a variable: an equation for every world. -/
theorem run_make_recs {P : Program} (t e : TypeId) (zero : List Value) (size bytes : Nat) (ht : P.underlying t = some (.slice e)) (hinfo : (P.info? e).map (fun i => (i.zero, i.size, i.bytes)) = some (some (.agg zero.toArray), size, bytes)) (hz : zero.length = size) (h0 : 0 < size)
    (kl kc : IntKind) (n : Nat) (hbytes : bytes * n ≤ 281474976710656) (h63 : n ≤ 9223372036854775807) (w : World) :
    (Instr.makeSlice t (.int kl (n : Int)) (.int kc (n : Int))).run P w = .ok (.slice (some ⟨w.heap.size, 0, none⟩) n n) (w.alloc (.cells (List.replicate n zero).flatten.toArray e)) := by
  obtain ⟨i, hi, hzz⟩ := Option.map_eq_some_iff.1 hinfo
  simp only [Prod.mk.injEq] at hzz
  obtain ⟨hz1, hs, hb⟩ := hzz
  have hr := run_make (P := P) w t e i _ ht hi hz1 kl kc n n (by omega) (by omega) (by rw [hb]; have : ((bytes * n : Nat) : Int) ≤ 281474976710656 := by omega
                                                                                       rwa [Int.natCast_mul] at this) (by omega)
  rw [hr]
  have e1 : (Value.agg zero.toArray).cells = zero.toArray := rfl
  rw [e1, hs, ← hz, Int.toNat_natCast, made_flatten zero n (by omega)]
theorem cpS_zero {E : Type} (row : E → List Value) (zero : List Value) (es : List E) : (List.replicate es.length zero).flatten = cpS row zero es 0 := by simp [cpS]
end Go.Proofs.Ytpgcmgbflcdjiaa
