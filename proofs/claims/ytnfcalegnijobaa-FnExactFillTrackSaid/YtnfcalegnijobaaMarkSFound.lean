/- laws.markFoundS, laws.heldFoundS -/
import Derived.Test.YtnfcalegnijobaaMarkText
import Derived.Test.YtnfcalegnijobaaRecFound
import Derived.Deep.RegionHeld3
import Derived.BigRegion
namespace Go.Proofs.Ytnfcalegnijobaa
open Go.RowKit
set_option linter.unusedVariables false
set_option linter.unusedSimpArgs false
set_option maxRecDepth 20000
def mkFound (k : Nat) : FoundV := ⟨((k : Int)), ((k : Int) + 1), ((k : Int) + 1 + 1), ((k : Int) + 1 + 1 + 1), markS (k + 4), ((k : Int) + 1 + 1 + 1 + 1 + 1), ((((k : Int) + 1 + 1 + 1 + 1 + 1 + 1) % 3) == 0), ((k : Int) + 1 + 1 + 1 + 1 + 1 + 1 + 1)⟩
set_option maxHeartbeats 8000000 in
theorem markFoundS_sm (a : Option Addr) (es : List FoundV) (cap k B C : Nat) (w : World) (hl : es.length ≤ 4194304) (hk1 : 0 < k) (hk : k ≤ 134217728) (hC : C ≤ w.heap.size) (h : SlSI rowFound 133 w B C a es) :
    Calls Try.prog 24 #[.slice a es.length cap, .int .i64 (k : Nat)] w (MarkedS rowFound 133 B C a (k + 8 * es.length) (mkS mkFound k 8 es.length) w) := by
  by_cases hnil : es = []
  · subst hnil
    have hz : ¬ (0 : Int) < 0 := by omega
    go_enter Try.func24, Try.ntmps24
    go_wp2
    go_rounds 1
    all_goals
      go_ret
      exact ⟨ret_int (by simp), .inl rfl, fun D _ _ => Below.refl _ _, ⟨Nat.le_refl _, fun _ _ _ => rfl⟩⟩
  · rcases h with h | ⟨g, rest, rfl, hg, hgC, hh⟩
    · exact absurd h hnil
    have HST := Lib.hid (show w.heap[g]? = some (.cells (mkC rowFound mkFound k 8 es rest.toList 0).toArray 133 (0, 0)) by rw [mkC_zero, hh]; simp)
    clear hh
    go_enter Try.func24, Try.ntmps24
    go_wp2
    go_loopw [1, 5] (fun q i wr => ∃ j : Nat, j ≤ es.length ∧ i = .int .i64 j ∧ q = .int .i64 ((k + 8 * j : Nat) : Int) ∧ Hid (wr.heap[g]? = some (.cells (mkC rowFound mkFound k 8 es rest.toList j).toArray 133 (0, 0)) ∧ Kp g w wr)) (fun _ i _ => es.length - (intOf i).toNat)
    case atStart => exact ⟨0, Nat.zero_le _, rfl, rfl, by unfold Hid; exact ⟨HST.out, Kp.refl _ _⟩⟩
    case round =>
      obtain ⟨j, hj, rfl, rfl, hR⟩ := hrel
      by_cases hlt : j < es.length
      · have HSUC := Lib.hid (mkC_succ rowFound_len mkFound k es rest.toList hlt)
        have hlen := mkC_len rowFound_len mkFound k es rest.toList hj
        obtain ⟨m, hm⟩ : ∃ m, k + 8 * j = m := ⟨_, rfl⟩
        have hm1 : 0 < m := by omega
        have hm2 : m ≤ 200000000 := by omega
        rw [hm] at HSUC ⊢
        have HM := Lib.hid hm; clear hm
        generalize mkC rowFound mkFound k 8 es rest.toList j = cs at *
        have hjn : j * 8 + 8 ≤ cs.length := by rw [hlen]; have : (j + 1) * 8 ≤ es.length * 8 := Nat.mul_le_mul_right _ hlt; omega
        have HLEN := Lib.hid hlen; clear hlen
        have hgw : g < w.heap.size := by omega
        obtain ⟨o0, d0⟩ := cell_of_len (p := j * 8) hR.out.1 (by omega)
        have z0 : wr.frozen? ⟨g, j * 8, none⟩ = false := free_of_cells hR.out.1
        obtain ⟨o1, d1⟩ := cell_of_len (p := j * 8 + 1) hR.out.1 (by omega)
        have z1 : wr.frozen? ⟨g, j * 8 + 1, none⟩ = false := free_of_cells hR.out.1
        obtain ⟨o2, d2⟩ := cell_of_len (p := j * 8 + 2) hR.out.1 (by omega)
        have z2 : wr.frozen? ⟨g, j * 8 + 2, none⟩ = false := free_of_cells hR.out.1
        obtain ⟨o3, d3⟩ := cell_of_len (p := j * 8 + 3) hR.out.1 (by omega)
        have z3 : wr.frozen? ⟨g, j * 8 + 3, none⟩ = false := free_of_cells hR.out.1
        obtain ⟨o4, d4⟩ := cell_of_len (p := j * 8 + 4) hR.out.1 (by omega)
        have z4 : wr.frozen? ⟨g, j * 8 + 4, none⟩ = false := free_of_cells hR.out.1
        obtain ⟨o5, d5⟩ := cell_of_len (p := j * 8 + 5) hR.out.1 (by omega)
        have z5 : wr.frozen? ⟨g, j * 8 + 5, none⟩ = false := free_of_cells hR.out.1
        obtain ⟨o6, d6⟩ := cell_of_len (p := j * 8 + 6) hR.out.1 (by omega)
        have z6 : wr.frozen? ⟨g, j * 8 + 6, none⟩ = false := free_of_cells hR.out.1
        obtain ⟨o7, d7⟩ := cell_of_len (p := j * 8 + 7) hR.out.1 (by omega)
        have z7 : wr.frozen? ⟨g, j * 8 + 7, none⟩ = false := free_of_cells hR.out.1
        have MT4 := Lib.hid (fun w => (by have h := markText_any (m + 4) w (by omega) (by omega); rw [show ((m + 4 : Nat) : Int) = ((m : Int) + 1 + 1 + 1 + 1) by omega] at h; exact h : Calls Try.prog 107 #[.int .i64 ((m : Int) + 1 + 1 + 1 + 1)] w fun e w' => e = .returned (.string (markS (m + 4))) ∧ Below w.heap.size w w'))
        go_wp2_with fail
        refine (MT4.out _).mono ?_
        rintro e4_ v4 ⟨rfl, hb4⟩
        clear d0 z0 d1 z1 d2 z2 d3 z3 d4 z4 d5 z5 d6 z6 d7 z7
        have hw4 : v4.heap[g]? = some (.cells (setAll cs (j * 8) [.int .i64 ((m : Int)), .int .i64 ((m : Int) + 1), .int .i64 ((m : Int) + 1 + 1), .int .i64 ((m : Int) + 1 + 1 + 1)]).toArray 133 (0, 0)) := by
          rw [hb4.block g (by have := (hR.out.2).size; simp <;> omega)]
          exact heap_setCells 133 g [.int .i64 ((m : Int)), .int .i64 ((m : Int) + 1), .int .i64 ((m : Int) + 1 + 1), .int .i64 ((m : Int) + 1 + 1 + 1)] (j * 8) wr _ hR.out.1
        have kp4 : Kp g w v4 := Kp.below (Kp.setCells [.int .i64 ((m : Int)), .int .i64 ((m : Int) + 1), .int .i64 ((m : Int) + 1 + 1), .int .i64 ((m : Int) + 1 + 1 + 1)] (j * 8) wr hR.out.2) hb4
        clear hb4
        have HW4 := Lib.hid (And.intro hw4 kp4); clear hw4 kp4
        obtain ⟨o4, d4⟩ := cell_of_len (p := j * 8 + 4) HW4.out.1 (by simp only [setAll_len]; omega)
        have z4 : v4.frozen? ⟨g, j * 8 + 4, none⟩ = false := free_of_cells HW4.out.1
        obtain ⟨o5, d5⟩ := cell_of_len (p := j * 8 + 5) HW4.out.1 (by simp only [setAll_len]; omega)
        have z5 : v4.frozen? ⟨g, j * 8 + 5, none⟩ = false := free_of_cells HW4.out.1
        obtain ⟨o6, d6⟩ := cell_of_len (p := j * 8 + 6) HW4.out.1 (by simp only [setAll_len]; omega)
        have z6 : v4.frozen? ⟨g, j * 8 + 6, none⟩ = false := free_of_cells HW4.out.1
        obtain ⟨o7, d7⟩ := cell_of_len (p := j * 8 + 7) HW4.out.1 (by simp only [setAll_len]; omega)
        have z7 : v4.frozen? ⟨g, j * 8 + 7, none⟩ = false := free_of_cells HW4.out.1
        go_wp2
        go_roundw
        case rel =>
          refine ⟨j + 1, by omega, by go_num, by have := HM.out; first | go_num | (congr 1; omega), ?_⟩
          unfold Hid
          refine ⟨?_, Kp.setCells [.string (markS (m + 4)), .int .i64 ((m : Int) + 1 + 1 + 1 + 1 + 1), .bool ((((m : Int) + 1 + 1 + 1 + 1 + 1 + 1) % 3) == 0), .int .i64 ((m : Int) + 1 + 1 + 1 + 1 + 1 + 1 + 1)] (j * 8 + 4) v4 HW4.out.2⟩
          rw [← HSUC.out]
          have hfin := heap_setCells 133 g [.string (markS (m + 4)), .int .i64 ((m : Int) + 1 + 1 + 1 + 1 + 1), .bool ((((m : Int) + 1 + 1 + 1 + 1 + 1 + 1) % 3) == 0), .int .i64 ((m : Int) + 1 + 1 + 1 + 1 + 1 + 1 + 1)] (j * 8 + 4) v4 _ HW4.out.1
          have hjoin : setAll (setAll cs (j * 8) [.int .i64 ((m : Int)), .int .i64 ((m : Int) + 1), .int .i64 ((m : Int) + 1 + 1), .int .i64 ((m : Int) + 1 + 1 + 1)]) (j * 8 + 4) [.string (markS (m + 4)), .int .i64 ((m : Int) + 1 + 1 + 1 + 1 + 1), .bool ((((m : Int) + 1 + 1 + 1 + 1 + 1 + 1) % 3) == 0), .int .i64 ((m : Int) + 1 + 1 + 1 + 1 + 1 + 1 + 1)] = setAll cs (j * 8) (rowFound (mkFound m)) := by
            have : rowFound (mkFound m) = [.int .i64 ((m : Int)), .int .i64 ((m : Int) + 1), .int .i64 ((m : Int) + 1 + 1), .int .i64 ((m : Int) + 1 + 1 + 1)] ++ [.string (markS (m + 4)), .int .i64 ((m : Int) + 1 + 1 + 1 + 1 + 1), .bool ((((m : Int) + 1 + 1 + 1 + 1 + 1 + 1) % 3) == 0), .int .i64 ((m : Int) + 1 + 1 + 1 + 1 + 1 + 1 + 1)] := by first | rfl | simp [rowFound, mkFound]
            rw [this]
            simp only [setAll_append]
            rfl
          rw [hjoin] at hfin
          exact hfin
        case measure => simp [intOf]; omega
      · obtain rfl : j = es.length := by omega
        have HFIN := Lib.hid (show SlSI rowFound 133 wr B C (some ⟨g, 0, none⟩) (mkS mkFound k 8 es.length) from .inr ⟨g, rest, rfl, hg, hgC, by rw [hR.out.1, mkC_all]; simp⟩)
        go_wp2
        go_ret
        exact ⟨rfl, HFIN.out, fun D hD hw => hR.out.2.toBelow (by omega) hw, hR.out.2.sm hg hgC⟩
end Go.Proofs.Ytnfcalegnijobaa
