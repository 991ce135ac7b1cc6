/- spec: links, spec.LinkAt -/
import Derived.Test.YtpdodpnhohmjaaaGreatDoorPkGoneBlocksLinkVal
import Derived.Deep.QuietTactic
namespace Go.Proofs.YtpdodpnhohmjaaaGreatDoor
open Go.RowKit
set_option maxRecDepth 20000
set_option linter.unusedVariables false
set_option linter.unusedSimpArgs false
set_option maxRecDepth 20000
theorem dLink_any (p g cap k : Nat) (es : List StringV) (w : World) (h : DAt w p g cap (chLay es.length (len0 es)) (flatL es)) (hd : diskB es = true) (hk : k < es.length) :
    Calls Tryz.prog 58 #[.pointer (some ⟨p, 0, none⟩), .int .i64 (k : Int)] w fun e w' => e = .returned (.int .i64 (lnk es k : Int)) ∧ Below w.heap.size w w' := by
  obtain ⟨hb1, hb2, hb3⟩ := lnk_at hd hk
  obtain ⟨hn, _, hz⟩ := diskB_facts hd
  obtain ⟨hbx, cur, hg, hrow⟩ := h
  have x1 : w.cell? ⟨p, 1, none⟩ = some (.int .i64 (len0 es : Int)) := (hbx 1 _ rfl).1
  have x5 : w.cell? ⟨p, 5, none⟩ = some (.slice (some ⟨g, 0, none⟩) (flatL es).length cap) := (hbx 5 _ rfl).1
  have hlt : len0 es + k < (flatL es).length := by omega
  have hc := hrow.cell hg (len0 es + k) hlt
  have hx : (flatL es)[len0 es + k] = lnkB es k := by
    rw [List.getElem?_eq_getElem hlt] at hb1
    exact Option.some.inj hb1
  rw [hx] at hc
  have hL : (lnk es k : Int) = ((lnkB es k).toNat : Int) := rfl
  rw [hL]
  have hcap := hrow.2.1
  have hfl : (flatL es).length ≤ 4096 := by rw [hb3]; exact Nat.le_trans (Nat.mul_le_mul hn.2 (show len0 es ≤ 32 by omega)) (by omega)
  have hc2 : w.cell? ⟨g, 0 + (len0 es + k), none⟩ = some (.int .u8 ((lnkB es k).toNat : Int)) := by rw [Nat.zero_add]; exact hc
  have hz3 : len0 es ≤ 32 := by omega
  clear hb1 hb3 hb2 hx hL hbx hrow hg hz hd
  obtain ⟨m, hm⟩ : ∃ m, (flatL es).length = m := ⟨_, rfl⟩
  rw [hm] at x5 hlt hcap hfl
  clear hm
  generalize lnkB es k = x at *
  have hlt2 := x.toNat_lt
  have hw9 : wrap64 (x.toNat : Int) = (x.toNat : Int) := by unfold wrap64; omega
  generalize len0 es = z at *
  have e1 : (z : Int) + (k : Int) < (m : Int) := by omega
  have HB := Lib.hid (Below.refl w.heap.size w)
  go_enter Tryz.func58, Tryz.ntmps58
  go_wp2
  go_quiet (fail)
  go_wp2
  go_ret
  exact ⟨rfl, below_drewN' HB.out _⟩
end Go.Proofs.YtpdodpnhohmjaaaGreatDoor
