/- impl.tableOf, links, impl.LinkAt -/
import Derived.Test.YtpdodpnhohmjaaaGreatDoorPkGoneBlocksDiskRd
import Derived.Test.YtpdodpnhohmjaaaGreatDoorPkGoneBlocksLinkVal
namespace Go.Proofs.YtpdodpnhohmjaaaGreatDoor
open Go.RowKit
set_option maxRecDepth 20000
set_option linter.unusedVariables false
set_option linter.unusedSimpArgs false
set_option maxRecDepth 20000
theorem tableOf_any (l0 l1 l2 l3 l4 : Int) (p : Nat) (w : World) :
    Calls Tryz.prog 88 #[.iface 50 (.agg #[.int .i64 l0, .int .i64 l1, .int .i64 l2, .int .i64 l3, .int .i64 l4, .pointer (some ⟨p, 0, none⟩)])] w fun e w' => e = .returned (.agg #[.iface 50 (.agg #[.int .i64 l0, .int .i64 l1, .int .i64 l2, .int .i64 l3, .int .i64 l4, .pointer (some ⟨p, 0, none⟩)]), .int .i64 1]) ∧ Below w.heap.size w w' := by
  go_enter Tryz.func88, Tryz.ntmps88
  go_wp2
  refine bodyPost_ret (v := .agg #[.iface 50 (.agg #[.int .i64 l0, .int .i64 l1, .int .i64 l2, .int .i64 l3, .int .i64 l4, .pointer (some ⟨p, 0, none⟩)]), .int .i64 1]) (by simp [results, Tryz.results88, go_sem]) rfl ⟨rfl, ?_⟩
  go_grown
set_option maxHeartbeats 2000000 in
theorem linkM_any (l0 l1 l2 l3 l4 : Int) (p k : Nat) (a : Option Addr) (c : Nat) (es : List StringV) (w : World) (h : CD w p a c es) (hsl : SlS rowString w a es) (hd : diskB es = true) (hk : k < es.length) :
    Calls Tryz.prog 59 #[.agg #[.int .i64 l0, .int .i64 l1, .int .i64 l2, .int .i64 l3, .int .i64 l4, .pointer (some ⟨p, 0, none⟩)], .int .i64 (k : Int)] w fun x w' => x = .returned (.int .i64 (lnk es k : Int)) ∧ Below w.heap.size w w' := by
  obtain ⟨hn, hall, hz⟩ := diskB_facts hd
  obtain ⟨hb1, hb2, hb3⟩ := lnk_at hd hk
  have TB := Lib.hid (fun w => tableOf_any l0 l1 l2 l3 l4 p w)
  have by1 := fun w' (hb : Below w.heap.size w w') => bytesC_any l0 l1 l2 l3 l4 p 1 k 1 (len0 es) a c es w' (h.below hb h.1) (hsl.below hb (Nat.le_refl _)) hn.2 hall (by omega) (by omega) (by omega) (by omega)
  have hcut : cutL (flatL es) (1 * len0 es + k) 1 = [lnkB es k] := by
    rw [cutL_snoc (n := 0) (x := lnkB es k) (by rw [Nat.one_mul]; exact hb1)]
    rfl
  rw [hcut] at by1
  have hL : (lnk es k : Int) = ((lnkB es k).toNat : Int) := rfl
  rw [hL]
  generalize lnkB es k = x at *
  have BY := Lib.hid by1
  clear by1 hcut hL hb1 hb2 hb3 h hsl hall hz hd
  have hlt := x.toNat_lt
  go_enter Tryz.func59, Tryz.ntmps59
  go_wp2_with fail
  refine (TB.out _).mono ?_
  rintro e w1 ⟨rfl, hb1⟩
  have FB := Lib.hid (show Below w.heap.size w w1 from Below.trans (by go_grown) (hb1.mono (by simp)))
  clear hb1
  go_wp2_with fail
  refine (BY.out _ FB.out).mono ?_
  rintro e w2 ⟨rfl, hb2⟩
  replace FB := Lib.hid (FB.out.trans (hb2.mono FB.out.size))
  clear hb2
  go_wp2
  go_ret
  exact ⟨ret_int (by show wrap64 (x.toNat : Int) = (x.toNat : Int); unfold wrap64; omega), FB.out⟩
end Go.Proofs.YtpdodpnhohmjaaaGreatDoor
