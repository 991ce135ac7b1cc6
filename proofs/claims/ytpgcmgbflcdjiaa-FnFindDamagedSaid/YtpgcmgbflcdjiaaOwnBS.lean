/- A block of the call's own that begins with these strings. -/
import Derived.Test.YtpgcmgbflcdjiaaRecString
import Derived.Test.YtpgcmgbflcdjiaaOwnR
namespace Go.Proofs.Ytpgcmgbflcdjiaa
open Go.RowKit
set_option linter.unusedVariables false
set_option linter.unusedSimpArgs false
set_option maxRecDepth 20000
/-- Block g, from B on, begins with these strings. -/
def OwnBS (w : World) (B g : Nat) (es : List StringV) : Prop := ∃ rest : Array Value, B ≤ g ∧ w.heap[g]? = some (.cells ((es.map rowString).flatten.toArray ++ rest) 9 (0, 0))
theorem OwnBS.lt {w : World} {B g : Nat} {es : List StringV} (h : OwnBS w B g es) : g < w.heap.size := by
  obtain ⟨rest, _, hh⟩ := h
  exact (Array.getElem?_eq_some_iff.1 hh).1
theorem OwnBS.below {w w' : World} {B C g : Nat} {es : List StringV} (h : OwnBS w B g es) (hb : Below C w w') (hC : g < C) : OwnBS w' B g es := by
  obtain ⟨rest, h1, hh⟩ := h
  exact ⟨rest, h1, by rw [hb.block g hC]; exact hh⟩
theorem OwnBS.keep {w w' : World} {B g : Nat} {es : List StringV} (h : OwnBS w B g es) (hk : w'.heap[g]? = w.heap[g]?) : OwnBS w' B g es := by
  obtain ⟨rest, h1, hh⟩ := h
  exact ⟨rest, h1, by rw [hk]; exact hh⟩
theorem OwnBS.mono {w : World} {B B' g : Nat} {es : List StringV} (h : OwnBS w B g es) (hB : B' ≤ B) : OwnBS w B' g es := by
  obtain ⟨rest, h1, hh⟩ := h
  exact ⟨rest, by omega, hh⟩
theorem OwnBS.so {w : World} {B g : Nat} {es : List StringV} (h : OwnBS w B g es) : SlSO rowString 9 w B (some ⟨g, 0, none⟩) es := by
  obtain ⟨rest, h1, hh⟩ := h
  exact .inr ⟨g, rest, rfl, h1, (Array.getElem?_eq_some_iff.1 hh).1, hh⟩
theorem OwnBS.cell {w : World} {B g : Nat} {es : List StringV} (h : OwnBS w B g es) {k : Nat} {e : StringV} (hk : es[k]? = some e) : w.cell? ⟨g, k, none⟩ = some (.string e.f0) := by
  obtain ⟨b, off, hb, _, hc⟩ := SlS.at rowString_len (SlSI.sl h.so) hk
  cases hb
  simpa using hc 0 _ rfl
theorem OwnBS.free {w : World} {B g : Nat} {es : List StringV} (h : OwnBS w B g es) (i : Nat) : w.frozen? ⟨g, i, none⟩ = false := by
  obtain ⟨rest, h1, hh⟩ := h
  simp [World.frozen?, hh]
theorem setAll_rowS (es : List StringV) (rest : List Value) (i : Nat) (s : StringV) (hi : i < es.length) : setAll ((es.map rowString).flatten ++ rest) (i * 1) (rowString s) = ((es.set i s).map rowString).flatten ++ rest := by
  have e1 : es = es.take i ++ es[i] :: es.drop (i + 1) := by rw [← List.drop_eq_getElem_cons hi, List.take_append_drop]
  have e2 : es.set i s = es.take i ++ s :: es.drop (i + 1) := by rw [List.set_eq_take_append_cons_drop, if_pos hi]
  rw [e2]
  have h := setAll_mid (rowString s) ((es.take i).map rowString).flatten (rowString es[i]) (((es.drop (i + 1)).map rowString).flatten ++ rest) (i * 1) (by rw [flatten_len (rows_len rowString_len _), List.length_map, List.length_take, Nat.min_eq_left (by omega)]) (by rw [rowString_len, rowString_len])
  have e3 : (es.map rowString).flatten ++ rest = ((es.take i).map rowString).flatten ++ rowString es[i] ++ (((es.drop (i + 1)).map rowString).flatten ++ rest) := by
    have e4 : es.map rowString = (es.take i).map rowString ++ rowString es[i] :: (es.drop (i + 1)).map rowString := by
      conv => lhs; rw [e1]
      rw [List.map_append, List.map_cons]
    rw [e4, List.flatten_append, List.flatten_cons]
    simp only [List.append_assoc]
  rw [e3, h]
  simp
theorem OwnBS.put {w : World} {B g : Nat} {es : List StringV} (h : OwnBS w B g es) (i : Nat) (s : ByteArray) (hi : i < es.length) : OwnBS (w.setCell ⟨g, i, none⟩ (.string s)) B g (es.set i ⟨s⟩) := by
  obtain ⟨rest, h1, hh⟩ := h
  refine ⟨rest, h1, ?_⟩
  have h2 := heap_setCells 9 g (rowString ⟨s⟩) (i * 1) w ((es.map rowString).flatten ++ rest.toList) (by rw [hh]; congr 2; apply Array.ext'; simp)
  rw [setAll_rowS es rest.toList i ⟨s⟩ hi] at h2
  have h3 : (w.setCells g (i * 1) (rowString ⟨s⟩)).heap[g]? = (w.setCell ⟨g, i, none⟩ (.string s)).heap[g]? := by rw [Nat.mul_one]; rfl
  rw [← h3, h2]
  congr 2
  apply Array.ext'
  simp
end Go.Proofs.Ytpgcmgbflcdjiaa
