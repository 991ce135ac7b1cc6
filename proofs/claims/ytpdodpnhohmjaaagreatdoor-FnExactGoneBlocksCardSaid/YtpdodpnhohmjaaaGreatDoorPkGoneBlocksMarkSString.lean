/- laws.markStringS, laws.heldStringS -/
import Derived.Test.YtpdodpnhohmjaaaGreatDoorPkGoneBlocksMarkText
import Derived.Test.YtpdodpnhohmjaaaGreatDoorPkGoneBlocksC
import Derived.Deep.RegionHeld3
import Derived.BigRegion
namespace Go.Proofs.YtpdodpnhohmjaaaGreatDoor
open Go.RowKit
set_option maxRecDepth 20000
set_option linter.unusedVariables false
set_option linter.unusedSimpArgs false
set_option maxRecDepth 20000
def mkString (k : Nat) : StringV := ⟨markS k⟩
set_option maxHeartbeats 8000000 in
theorem markStringS_sm (a : Option Addr) (es : List StringV) (cap k B C : Nat) (w : World) (hl : es.length ≤ 4194304) (hk1 : 0 < k) (hk : k ≤ 134217728) (hC : C ≤ w.heap.size) (h : SlSI rowString 9 w B C a es) :
    Calls Tryz.prog 12 #[.slice a es.length cap, .int .i64 (k : Nat)] w (MarkedS rowString 9 B C a (k + 1 * es.length) (mkS mkString k 1 es.length) w) := by
  by_cases hnil : es = []
  · subst hnil
    have hz : ¬ (0 : Int) < 0 := by omega
    go_enter Tryz.func12, Tryz.ntmps12
    go_wp2
    go_rounds 1
    all_goals
      go_ret
      exact ⟨ret_int (by simp), .inl rfl, fun D _ _ => Below.refl _ _, ⟨Nat.le_refl _, fun _ _ _ => rfl⟩⟩
  · rcases h with h | ⟨g, rest, rfl, hg, hgC, hh⟩
    · exact absurd h hnil
    have HST := Lib.hid (show w.heap[g]? = some (.cells (mkC rowString mkString k 1 es rest.toList 0).toArray 9 (0, 0)) by rw [mkC_zero, hh]; simp)
    clear hh
    go_enter Tryz.func12, Tryz.ntmps12
    go_wp2
    go_loopw [1, 5] (fun q i wr => ∃ j : Nat, j ≤ es.length ∧ i = .int .i64 j ∧ q = .int .i64 ((k + 1 * j : Nat) : Int) ∧ Hid (wr.heap[g]? = some (.cells (mkC rowString mkString k 1 es rest.toList j).toArray 9 (0, 0)) ∧ Kp g w wr)) (fun _ i _ => es.length - (intOf i).toNat)
    case atStart => exact ⟨0, Nat.zero_le _, rfl, rfl, by unfold Hid; exact ⟨HST.out, Kp.refl _ _⟩⟩
    case round =>
      obtain ⟨j, hj, rfl, rfl, hR⟩ := hrel
      by_cases hlt : j < es.length
      · have HSUC := Lib.hid (mkC_succ rowString_len mkString k es rest.toList hlt)
        have hlen := mkC_len rowString_len mkString k es rest.toList hj
        obtain ⟨m, hm⟩ : ∃ m, k + 1 * j = m := ⟨_, rfl⟩
        have hm1 : 0 < m := by omega
        have hm2 : m ≤ 200000000 := by omega
        rw [hm] at HSUC ⊢
        have HM := Lib.hid hm; clear hm
        generalize mkC rowString mkString k 1 es rest.toList j = cs at *
        have hjn : j * 1 + 1 ≤ cs.length := by rw [hlen]; have : (j + 1) * 1 ≤ es.length * 1 := Nat.mul_le_mul_right _ hlt; omega
        have HLEN := Lib.hid hlen; clear hlen
        have hgw : g < w.heap.size := by omega
        obtain ⟨o0, d0⟩ := cell_of_len (p := j) hR.out.1 (by omega)
        have z0 : wr.frozen? ⟨g, j, none⟩ = false := free_of_cells hR.out.1
        have MT0 := Lib.hid (fun w => (by have h := markText_any (m + 0) w (by omega) (by omega); rw [show ((m + 0 : Nat) : Int) = ((m : Int)) by omega] at h; exact h : Calls Tryz.prog 24 #[.int .i64 ((m : Int))] w fun e w' => e = .returned (.string (markS (m + 0))) ∧ Below w.heap.size w w'))
        go_wp2_with fail
        refine (MT0.out _).mono ?_
        rintro e0_ v0 ⟨rfl, hb0⟩
        clear d0 z0
        have hw0 : v0.heap[g]? = some (.cells (setAll cs (j) []).toArray 9 (0, 0)) := by
          rw [hb0.block g (by have := (hR.out.2).size; simp <;> omega)]
          exact heap_setCells 9 g [] (j) wr _ hR.out.1
        have kp0 : Kp g w v0 := Kp.below (Kp.setCells [] (j) wr hR.out.2) hb0
        clear hb0
        have HW0 := Lib.hid (And.intro hw0 kp0); clear hw0 kp0
        obtain ⟨o0, d0⟩ := cell_of_len (p := j) HW0.out.1 (by simp only [setAll_len]; omega)
        have z0 : v0.frozen? ⟨g, j, none⟩ = false := free_of_cells HW0.out.1
        go_wp2
        go_roundw
        case rel =>
          refine ⟨j + 1, by omega, by go_num, by have := HM.out; first | go_num | (congr 1; omega), ?_⟩
          unfold Hid
          refine ⟨?_, Kp.setCells [.string (markS m)] (j) v0 HW0.out.2⟩
          rw [← HSUC.out]
          have hfin := heap_setCells 9 g [.string (markS m)] (j) v0 _ HW0.out.1
          have hjoin : setAll (setAll cs (j) []) (j) [.string (markS m)] = setAll cs (j * 1) (rowString (mkString m)) := by
            have : rowString (mkString m) = [] ++ [.string (markS m)] := by first | rfl | simp [rowString, mkString]
            rw [this]
            rw [Nat.mul_one]
            simp only [setAll_append]
            rfl
          rw [hjoin] at hfin
          exact hfin
        case measure => simp [intOf]; omega
      · obtain rfl : j = es.length := by omega
        have HFIN := Lib.hid (show SlSI rowString 9 wr B C (some ⟨g, 0, none⟩) (mkS mkString k 1 es.length) from .inr ⟨g, rest, rfl, hg, hgC, by rw [hR.out.1, mkC_all]; simp⟩)
        go_wp2
        go_ret
        exact ⟨rfl, HFIN.out, fun D hD hw => hR.out.2.toBelow (by omega) hw, hR.out.2.sm hg hgC⟩
set_option maxHeartbeats 8000000 in
theorem heldStringS_any (a : Option Addr) (l c k : Nat) (w : World) (hl : l ≤ 4194304) (hk1 : 0 < k) (hk : k ≤ 134217728) (h : SlS rowString w a (mkS mkString k 1 l)) :
    Calls Tryz.prog 19 #[.slice a l c, .int .i64 (k : Nat)] w fun e w' => e = .returned (.int .i64 ((k + 1 * l : Nat) : Int)) ∧ Below w.heap.size w w' := by
  go_enter Tryz.func19, Tryz.ntmps19
  go_wp2
  go_loopw [1, 5] (fun q i wr => ∃ j : Nat, j ≤ l ∧ i = .int .i64 j ∧ q = .int .i64 ((k + 1 * j : Nat) : Int) ∧ Below w.heap.size w wr) (fun _ i _ => l - (intOf i).toNat)
  case atStart => exact ⟨0, Nat.zero_le _, rfl, rfl, Below.refl _ _⟩
  case round =>
    obtain ⟨j, hj, rfl, rfl, hb⟩ := hrel
    by_cases hlt : j < l
    · obtain ⟨b, off, rfl, hbl, hc⟩ := (h.below hb (Nat.le_refl _)).at rowString_len (mkS_at mkString k 1 l j hlt)
      obtain ⟨m, hm⟩ : ∃ m, k + 1 * j = m := ⟨_, rfl⟩
      have hm1 : 0 < m := by omega
      have hm2 : m ≤ 200000000 := by omega
      rw [hm] at hc ⊢
      have HM := Lib.hid hm; clear hm
      have c0 : wr.cell? ⟨b, off + j * 1, none⟩ = some (.string (markS m)) := hc 0 _ rfl
      rw [Nat.mul_one] at c0
      have MT0 := Lib.hid (fun w => (by have h := markText_any (m + 0) w (by omega) (by omega); rw [show ((m + 0 : Nat) : Int) = ((m : Int)) by omega] at h; exact h : Calls Tryz.prog 24 #[.int .i64 ((m : Int))] w fun e w' => e = .returned (.string (markS (m + 0))) ∧ Below w.heap.size w w'))
      have ne0 : ((markS (m + 0)).toList == (markS (m + 0)).toList) = true := by simp
      have H := Lib.hid (And.intro h (And.intro hc hbl)); clear h hc hbl
      go_wp2
      have KS0 := Lib.hid (fun w' (hbw : Below wr.heap.size wr w') => (show w'.cell? ⟨b, off + j, none⟩ = some (.string (markS m)) from by have h9 := (H.out.2.1.below hbw H.out.2.2) 0 _ rfl; rw [Nat.mul_one] at h9; exact h9))
      have hks0 : wr.cell? ⟨b, off + j, none⟩ = some (.string (markS m)) := KS0.out _ (Below.refl _ _)
      have HC0 := Lib.hid (show Below wr.heap.size wr wr.drew from (Below.refl _ _).drew)
      clear c0
      go_region_held3 (fun w' => w'.cell? ⟨b, off + j, none⟩ = some (.string (markS m)))
        (first | (with_reducible exact KS0.out _ HC0.out) | go_keep)
        ((go_at_call 24; ((with_reducible refine (MT0.out _).mono ?_); rintro e0_ u0 ⟨rfl, hbu0⟩; replace HC0 := Lib.hid (HC0.out.trans (hbu0.mono HC0.out.size)))))
      all_goals
        have hb' := hb.trans (HC0.out.mono hb.size)
        clear hks0
        go_wp2
        go_roundw
        case rel => exact ⟨j + 1, by omega, by go_num, by have := HM.out; first | go_num | (congr 1; omega), hb'⟩
        case measure => simp [intOf]; omega
    · obtain rfl : j = l := by omega
      go_wp2
      go_ret
      exact ⟨rfl, hb⟩
end Go.Proofs.YtpdodpnhohmjaaaGreatDoor
