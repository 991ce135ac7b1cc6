/- spec.EntryAt -/
import Derived.Test.YtpdodpnhohmjaaaGreatDoorPkGoneBlocksDEnt
import Derived.Test.YtpdodpnhohmjaaaGreatDoorPkGoneBlocksEntAt
namespace Go.Proofs.YtpdodpnhohmjaaaGreatDoor
open Go.RowKit
set_option maxRecDepth 20000
set_option linter.unusedVariables false
set_option linter.unusedSimpArgs false
set_option maxRecDepth 20000
theorem entSR_eq {l : List UInt8} (hl : l.length = 12) : entSok l = entOk l ∧ entSR l = entR l := by
  obtain ⟨h1, h2⟩ := ent_same hl
  refine ⟨h1, ?_⟩
  unfold entSR entR
  rw [h1]
  by_cases h : entOk l = true
  · rw [if_pos h, if_pos h]; exact h2 h
  · rw [if_neg h, if_neg h]
theorem dEntryR_any (p g cap k : Nat) (es : List StringV) (w : World) (h : DAt w p g cap (chLay es.length (len0 es)) (flatL es)) (hd : diskB es = true) (hk : k < es.length / 8) :
    Calls Tryz.prog 21 #[.pointer (some ⟨p, 0, none⟩), .int .i64 (k : Int)] w fun x w' => x = .returned (.tuple #[.agg #[.string (entR (entL es k)).f0, .int .i64 (entR (entL es k)).f1, .int .i64 (entR (entL es k)).f2, .bool (entR (entL es k)).f3, .bool (entR (entL es k)).f4], .bool (entOk (entL es k))]) ∧ Below w.heap.size w w' := by
  obtain ⟨h1, h2⟩ := entSR_eq (ent_at hd hk).2.2.1
  rw [← h1, ← h2]
  exact dEntry_any p g cap k es w h hd hk
end Go.Proofs.YtpdodpnhohmjaaaGreatDoor
