/- Own copies of a disc's sectors: spec.l12Own, slices.Clone; (impl.geometry).disc; a sector replaced. -/
import Derived.Test.YthcbekfgkbhpeaaDoorPkFormatChainsSectorAt
import Derived.Test.YthcbekfgkbhpeaaDoorPkFormatChainsOwnR
import Derived.Deep.AppendLies
import Derived.Deep.DeepMust
import Derived.Laws.Cover3
namespace Go.Proofs.YthcbekfgkbhpeaaDoor
open Go.RowKit
set_option maxRecDepth 20000
set_option linter.unusedVariables false
set_option linter.unusedSimpArgs false
set_option maxRecDepth 20000
theorem setAll_row (es : List SectorV) (rest : List Value) (i : Nat) (s : SectorV) (hi : i < es.length) : setAll ((es.map rowSector).flatten ++ rest) (i * 2) (rowSector s) = ((es.set i s).map rowSector).flatten ++ rest := by
  have e1 : es = es.take i ++ es[i] :: es.drop (i + 1) := by rw [← List.drop_eq_getElem_cons hi, List.take_append_drop]
  have e2 : es.set i s = es.take i ++ s :: es.drop (i + 1) := by rw [List.set_eq_take_append_cons_drop, if_pos hi]
  rw [e2]
  have h := setAll_mid (rowSector s) ((es.take i).map rowSector).flatten (rowSector es[i]) (((es.drop (i + 1)).map rowSector).flatten ++ rest) (i * 2) (by rw [flatten_len (rows_len rowSector_len _), List.length_map, List.length_take, Nat.min_eq_left (by omega)]) (by rw [rowSector_len, rowSector_len])
  have e3 : (es.map rowSector).flatten ++ rest = ((es.take i).map rowSector).flatten ++ rowSector es[i] ++ (((es.drop (i + 1)).map rowSector).flatten ++ rest) := by
    have e4 : es.map rowSector = (es.take i).map rowSector ++ rowSector es[i] :: (es.drop (i + 1)).map rowSector := by
      conv => lhs; rw [e1]
      rw [List.map_append, List.map_cons]
    rw [e4, List.flatten_append, List.flatten_cons]
    simp only [List.append_assoc]
  rw [e3, h]
  simp
theorem row_one (es : List SectorV) : ∀ u ∈ (es.map rowSector).flatten, u.oneCell' = true := by
  intro u hu
  obtain ⟨r, hr, hur⟩ := List.mem_flatten.1 hu
  obtain ⟨e, _, rfl⟩ := List.mem_map.1 hr
  simp [rowSector] at hur
  rcases hur with rfl | rfl <;> rfl
end Go.Proofs.YthcbekfgkbhpeaaDoor
