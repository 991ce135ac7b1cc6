/- laws.markCellRunS, laws.heldCellRunS -/
import Derived.Test.YtdpnpmfhnfecaaaMarkText
import Derived.Test.YtdpnpmfhnfecaaaRecCellRun
import Derived.Deep.RegionHeld3
import Derived.BigRegion
namespace Go.Proofs.Ytdpnpmfhnfecaaa
open Go.RowKit
set_option linter.unusedVariables false
set_option linter.unusedSimpArgs false
set_option maxRecDepth 20000
def mkCellRun (k : Nat) : CellRunV := ⟨((k : Int)), ((k : Int) + 1)⟩
set_option maxHeartbeats 8000000 in
theorem markCellRunS_sm (a : Option Addr) (es : List CellRunV) (cap k B C : Nat) (w : World) (hl : es.length ≤ 4194304) (hk1 : 0 < k) (hk : k ≤ 134217728) (hC : C ≤ w.heap.size) (h : SlSI rowCellRun 118 w B C a es) :
    Calls Try.prog 44 #[.slice a es.length cap, .int .i64 (k : Nat)] w (MarkedS rowCellRun 118 B C a (k + 2 * es.length) (mkS mkCellRun k 2 es.length) w) := by
  by_cases hnil : es = []
  · subst hnil
    have hz : ¬ (0 : Int) < 0 := by omega
    go_enter Try.func44, Try.ntmps44
    go_wp2
    go_rounds 1
    all_goals
      go_ret
      exact ⟨ret_int (by simp), .inl rfl, fun D _ _ => Below.refl _ _, ⟨Nat.le_refl _, fun _ _ _ => rfl⟩⟩
  · rcases h with h | ⟨g, rest, rfl, hg, hgC, hh⟩
    · exact absurd h hnil
    have HST := Lib.hid (show w.heap[g]? = some (.cells (mkC rowCellRun mkCellRun k 2 es rest.toList 0).toArray 118 (0, 0)) by rw [mkC_zero, hh]; simp)
    clear hh
    go_enter Try.func44, Try.ntmps44
    go_wp2
    go_loopw [1, 5] (fun q i wr => ∃ j : Nat, j ≤ es.length ∧ i = .int .i64 j ∧ q = .int .i64 ((k + 2 * j : Nat) : Int) ∧ Hid (wr.heap[g]? = some (.cells (mkC rowCellRun mkCellRun k 2 es rest.toList j).toArray 118 (0, 0)) ∧ Kp g w wr)) (fun _ i _ => es.length - (intOf i).toNat)
    case atStart => exact ⟨0, Nat.zero_le _, rfl, rfl, by unfold Hid; exact ⟨HST.out, Kp.refl _ _⟩⟩
    case round =>
      obtain ⟨j, hj, rfl, rfl, hR⟩ := hrel
      by_cases hlt : j < es.length
      · have HSUC := Lib.hid (mkC_succ rowCellRun_len mkCellRun k es rest.toList hlt)
        have hlen := mkC_len rowCellRun_len mkCellRun k es rest.toList hj
        obtain ⟨m, hm⟩ : ∃ m, k + 2 * j = m := ⟨_, rfl⟩
        have hm1 : 0 < m := by omega
        have hm2 : m ≤ 200000000 := by omega
        rw [hm] at HSUC ⊢
        have HM := Lib.hid hm; clear hm
        generalize mkC rowCellRun mkCellRun k 2 es rest.toList j = cs at *
        have hjn : j * 2 + 2 ≤ cs.length := by rw [hlen]; have : (j + 1) * 2 ≤ es.length * 2 := Nat.mul_le_mul_right _ hlt; omega
        have HLEN := Lib.hid hlen; clear hlen
        have hgw : g < w.heap.size := by omega
        obtain ⟨o0, d0⟩ := cell_of_len (p := j * 2) hR.out.1 (by omega)
        have z0 : wr.frozen? ⟨g, j * 2, none⟩ = false := free_of_cells hR.out.1
        obtain ⟨o1, d1⟩ := cell_of_len (p := j * 2 + 1) hR.out.1 (by omega)
        have z1 : wr.frozen? ⟨g, j * 2 + 1, none⟩ = false := free_of_cells hR.out.1
        go_wp2
        go_roundw
        case rel =>
          refine ⟨j + 1, by omega, by go_num, by have := HM.out; first | go_num | (congr 1; omega), ?_⟩
          unfold Hid
          refine ⟨?_, Kp.setCells [.int .i64 ((m : Int)), .int .i64 ((m : Int) + 1)] (j * 2) wr hR.out.2⟩
          rw [← HSUC.out]
          have hfin := heap_setCells 118 g [.int .i64 ((m : Int)), .int .i64 ((m : Int) + 1)] (j * 2) wr _ hR.out.1
          exact hfin
        case measure => simp [intOf]; omega
      · obtain rfl : j = es.length := by omega
        have HFIN := Lib.hid (show SlSI rowCellRun 118 wr B C (some ⟨g, 0, none⟩) (mkS mkCellRun k 2 es.length) from .inr ⟨g, rest, rfl, hg, hgC, by rw [hR.out.1, mkC_all]; simp⟩)
        go_wp2
        go_ret
        exact ⟨rfl, HFIN.out, fun D hD hw => hR.out.2.toBelow (by omega) hw, hR.out.2.sm hg hgC⟩
set_option maxHeartbeats 8000000 in
theorem heldCellRunS_any (a : Option Addr) (l c k : Nat) (w : World) (hl : l ≤ 4194304) (hk1 : 0 < k) (hk : k ≤ 134217728) (h : SlS rowCellRun w a (mkS mkCellRun k 2 l)) :
    Calls Try.prog 45 #[.slice a l c, .int .i64 (k : Nat)] w fun e w' => e = .returned (.int .i64 ((k + 2 * l : Nat) : Int)) ∧ Below w.heap.size w w' := by
  go_enter Try.func45, Try.ntmps45
  go_wp2
  go_loopw [1, 5] (fun q i wr => ∃ j : Nat, j ≤ l ∧ i = .int .i64 j ∧ q = .int .i64 ((k + 2 * j : Nat) : Int) ∧ Below w.heap.size w wr) (fun _ i _ => l - (intOf i).toNat)
  case atStart => exact ⟨0, Nat.zero_le _, rfl, rfl, Below.refl _ _⟩
  case round =>
    obtain ⟨j, hj, rfl, rfl, hb⟩ := hrel
    by_cases hlt : j < l
    · obtain ⟨b, off, rfl, hbl, hc⟩ := (h.below hb (Nat.le_refl _)).at rowCellRun_len (mkS_at mkCellRun k 2 l j hlt)
      obtain ⟨m, hm⟩ : ∃ m, k + 2 * j = m := ⟨_, rfl⟩
      have hm1 : 0 < m := by omega
      have hm2 : m ≤ 200000000 := by omega
      rw [hm] at hc ⊢
      have HM := Lib.hid hm; clear hm
      have c0 : wr.cell? ⟨b, off + j * 2, none⟩ = some (.int .i64 ((m : Int))) := hc 0 _ rfl
      have ne0 : ((((m : Int))) != ((m : Int))) = false := by simp
      have c1 : wr.cell? ⟨b, off + j * 2 + 1, none⟩ = some (.int .i64 ((m : Int) + 1)) := hc 1 _ rfl
      have ne1 : ((((m : Int) + 1)) != ((m : Int) + 1)) = false := by simp
      have H := Lib.hid (And.intro h (And.intro hc hbl)); clear h hc hbl
      go_wp2
      go_roundw
      case rel => exact ⟨j + 1, by omega, by go_num, by have := HM.out; first | go_num | (congr 1; omega), hb⟩
      case measure => simp [intOf]; omega
    · obtain rfl : j = l := by omega
      go_wp2
      go_ret
      exact ⟨rfl, hb⟩
end Go.Proofs.Ytdpnpmfhnfecaaa
