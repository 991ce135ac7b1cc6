/- impl.SyncRuns, spec.l07Ones, spec.l07At, spec.l07Syncs, spec.SyncRuns -/
import Derived.Test.YtdpnpmfhnfecaaaSyncVal
import Derived.Test.YtdpnpmfhnfecaaaSpecValidCells
import Derived.Test.YtdpnpmfhnfecaaaOwnR
import Derived.Test.YtdpnpmfhnfecaaaShelf
import Derived.BigQuiet
import Derived.Deep.QuietTactic
import Derived.IntWalk
namespace Go.Proofs.Ytdpnpmfhnfecaaa
open Go.RowKit
set_option linter.unusedVariables false
set_option linter.unusedSimpArgs false
set_option maxRecDepth 20000
theorem cyc_nat (s : ByteArray) (k q : Nat) (hq : k % s.size = q) (h : q < s.size) : (s[q].toNat : Nat) = (cycB s k).toNat := by rw [cyc_at s k q hq h]
theorem l07AtS_any (s : ByteArray) (k : Nat) (w : World) (h0 : 0 < s.size) (hs : s.size ≤ 8000) (hk : k ≤ 100000) :
    Calls Try.prog 109 #[.string s, .int .i64 (k : Nat)] w fun e w' => e = .returned (.int .u8 ((cycB s k).toNat : Nat)) ∧ w = w' := by
  obtain ⟨q, hq⟩ : ∃ q, k % s.size = q := ⟨_, rfl⟩
  have hql : q < s.size := by rw [← hq]; exact Nat.mod_lt _ h0
  have hqi : ((k : Nat) : Int) % (s.size : Int) = (q : Int) := by rw [← hq]; simp
  have HC := Lib.hid (cyc_nat s k q hq hql)
  have e1 : (q : Int) < (s.size : Int) := by omega
  clear hq
  go_enter Try.func109, Try.ntmps109
  go_wp2
  go_ret
  exact ⟨by rw [← HC.out]; rfl, rfl⟩
set_option maxHeartbeats 1000000 in
theorem l07Ones_any (s : ByteArray) (w : World) (hs : s.size ≤ 8000) :
    Calls Try.prog 84 #[.string s] w fun e w' => e = .returned (.bool (allOnes s)) ∧ w = w' := by
  go_enter Try.func84, Try.ntmps84
  go_wp2
  go_loop [3] (fun i => ∃ k : Nat, k ≤ s.size ∧ i = .int .i64 k ∧ Hid ((s.data.toList.take k).all (fun b => decide (b = 49)) = true)) (fun i => s.size - (intOf i).toNat)
  case atStart => exact ⟨0, Nat.zero_le _, rfl, by unfold Hid; rfl⟩
  case round =>
    obtain ⟨k, hk, rfl, ha⟩ := hrel
    by_cases hlt : k < s.size
    · have HT := Lib.hid (show s.data.toList.take (k + 1) = s.data.toList.take k ++ [s[k]] by rw [List.take_succ_eq_append_getElem (by simpa using hlt)]; rfl)
      by_cases hc : s[k] = 49
      · have hne : ((s[k].toNat : Int) != 49) = false := by simp [hc]
        have HC := Lib.hid hc; clear hc
        go_wp2
        go_round
        case rel => exact ⟨k + 1, by omega, by go_num, by unfold Hid; rw [HT.out, List.all_append, ha.out]; simp [HC.out]⟩
        case measure => simp [intOf]; omega
      · have hne : ((s[k].toNat : Int) != 49) = true := by
          rw [bne_iff_ne]
          intro e
          exact hc (UInt8.toNat_inj.1 (by show s[k].toNat = 49; omega))
        have HN := Lib.hid (show allOnes s = false by
          unfold allOnes
          rw [List.all_eq_false]
          exact ⟨s[k], by show s.data[k] ∈ _; simp, by simp [hc]⟩)
        clear hc
        go_wp2
        go_ret
        exact ⟨ret_bool HN.out.symm, rfl⟩
    · have HA := Lib.hid (show allOnes s = true by
        unfold allOnes
        have := ha.out
        rwa [List.take_of_length_le (by simp; omega)] at this)
      go_wp2
      go_ret
      exact ⟨ret_bool HA.out.symm, rfl⟩
/-- The struct CellRun's cells, as an append of one wants them. -/
theorem rowRun (a b : Int) : rowCellRun ⟨a, b⟩ = [.int .i64 a, .int .i64 b] := rfl
set_option maxHeartbeats 8000000 in
theorem l07Syncs_any (s : ByteArray) (w : World) (hv : validCells s = true) :
    Calls Try.prog 85 #[.string s] w (RecRes rowCellRun 118 (syncs s s.size) w) := by
  obtain ⟨h0, h8⟩ := validCells_bd hv
  have LA := Lib.hid (fun k w hk => l07AtS_any s k w h0 h8 hk)
  have HV := Lib.hid hv; clear hv
  go_enter Try.func85, Try.ntmps85
  go_wp2
  go_loopw [4, 5, 6] (fun v i _ wr => ∃ k : Nat, k ≤ s.size ∧ i = .int .i64 k ∧ OwnR rowCellRun 118 2 wr w.heap.size v (syncs s k) ∧ Below w.heap.size w wr) (fun _ i _ _ => s.size - (intOf i).toNat)
  case atStart => exact ⟨0, Nat.zero_le _, rfl, OwnR.empty _ _ (Nat.le_refl _), (Below.refl _ _).alloc (Nat.le_refl _) _⟩
  case round =>
    obtain ⟨k, hk, rfl, hown, hb⟩ := hrel
    have hll := syncs_len s k
    by_cases hlt : k < s.size
    · have hy := Lib.hid (syncs_yes (s := s) (k := k))
      have hn := Lib.hid (syncs_no (s := s) (k := k))
      have hll2 : (syncs s k).length < 1073741824 := by omega
      clear hll
      generalize syncs s k = l at *
      have e1 : (k : Int) < (s.size : Int) := by omega
      have hcyc := cyc_nat s k k (Nat.mod_eq_of_lt hlt) hlt
      have HCYC := Lib.hid hcyc; clear hcyc
      have hpe : ((k + s.size - 1 : Nat) : Int) = (k : Int) + (s.size : Int) - 1 := by omega
      have LP := Lib.hid (fun w => LA.out (k + s.size - 1) w (by omega))
      rw [hpe] at LP
      clear hpe
      by_cases hc : s[k].toNat = 49
      · have hne : ((s[k].toNat : Int) != 49) = false := by simp [hc]
        have HC := Lib.hid (show cycB s k = 49 from UInt8.toNat_inj.1 (by rw [← HCYC.out, hc]; rfl))
        clear hc
        by_cases hp : cycB s (k + s.size - 1) = 49
        · have hpn : (((cycB s (k + s.size - 1)).toNat : Int) == 49) = true := by rw [hp]; rfl
          have HN := Lib.hid (show syncs s (k + 1) = l from hn.out (by
            rintro ⟨h1, _⟩
            unfold begB at h1
            rw [hp] at h1
            simp at h1))
          clear hp
          generalize (cycB s (k + s.size - 1)).toNat = y at *
          go_wp2_with (go_at_call 109; refine (LP.out _).mono ?_; rintro e w2 ⟨rfl, rfl⟩)
          go_roundw
          case rel => exact ⟨k + 1, by omega, by go_num, by rw [HN.out]; exact hown, hb⟩
          case measure => simp [intOf]; omega
        · have hpn : (((cycB s (k + s.size - 1)).toNat : Int) == 49) = false := by
            rw [beq_eq_false_iff_ne]
            intro e
            exact hp (UInt8.toNat_inj.1 (by show _ = 49; omega))
          have HB := Lib.hid (show begB s k = true by unfold begB; rw [HC.out]; simp [hp])
          clear hp
          generalize (cycB s (k + s.size - 1)).toNat = y at *
          go_wp2_with (go_at_call 109; refine (LP.out _).mono ?_; rintro e w2 ⟨rfl, rfl⟩)
          go_hide hQ
          obtain ⟨wo, rfl⟩ : ∃ wo : World, wo = wr := ⟨_, rfl⟩
          go_loopw [6] (fun i wr2 => ∃ c : Nat, c ≤ s.size ∧ i = .int .i64 c ∧ Hid (∀ j, j < c → cycB s (k + j) = 49) ∧ wr2 = wo) (fun i _ => s.size - (intOf i).toNat)
          case atStart => exact ⟨0, Nat.zero_le _, rfl, by unfold Hid; intro j hj; exact absurd hj (by omega), rfl⟩
          case round =>
            obtain ⟨c, hc, rfl, hA, rfl⟩ := hrel
            have done : ∀ (hR : IsRun s s.size k c), runLen s k = c := fun hR => runLen_of hR
            have DN := Lib.hid done; clear done
            by_cases hcn : c < s.size
            · have ecn : (c : Int) < (s.size : Int) := by omega
              have LC := Lib.hid (fun w => LA.out (k + c) w (by omega))
              rw [show ((k + c : Nat) : Int) = (k : Int) + (c : Int) by omega] at LC
              by_cases hq : cycB s (k + c) = 49
              · have hqn : (((cycB s (k + c)).toNat : Int) == 49) = true := by rw [hq]; rfl
                have HA := Lib.hid (show ∀ j, j < c + 1 → cycB s (k + j) = 49 from fun j hj => by
                  by_cases e : j = c
                  · subst e; exact hq
                  · exact hA.out j (by omega))
                clear hq
                generalize (cycB s (k + c)).toNat = z at *
                go_wp2_with (go_at_call 109; refine (LC.out _).mono ?_; rintro e w2 ⟨rfl, rfl⟩)
                go_roundw
                case rel => exact ⟨c + 1, by omega, by go_num, by unfold Hid; exact HA.out, trivial⟩
                case measure => simp [intOf]; omega
              · have hqn : (((cycB s (k + c)).toNat : Int) == 49) = false := by
                  rw [beq_eq_false_iff_ne]
                  intro e
                  exact hq (UInt8.toNat_inj.1 (by show _ = 49; omega))
                have HR := Lib.hid (DN.out ⟨hc, hA.out, .inr hq⟩)
                clear hq
                generalize (cycB s (k + c)).toNat = z at *
                go_wp2_with (go_at_call 109; refine (LC.out _).mono ?_; rintro e w2 ⟨rfl, rfl⟩)
                subst hQ
                by_cases h10 : 10 ≤ c
                · have h10i : (10 : Int) ≤ (c : Int) := by omega
                  have HS := Lib.hid (show syncs s (k + 1) = l ++ [⟨(k : Int), (c : Int)⟩] by rw [hy.out HB.out (by rw [HR.out]; exact h10), HR.out])
                  clear h10
                  go_wp2_with (at_builtin; refine wpList_appendR 71 118 (.agg zeroCellRun.toArray) 16 Try.underlying71 infoCellRun rfl (by omega) (by omega) rfl _ _ rfl rfl (hown.alloc _) ⟨(k : Int), (c : Int)⟩ rfl (by simp [rowRun, Value.oneCell']) ⟨wr.heap.size, 0, none⟩ 1 rfl (World.news_of_block (cs := #[.int .i64 (k : Int), .int .i64 (c : Int)]) (t := 118) (fr := (0, 0)) (heap_alloc_new wr _)) hll2 (by have := hb.size; simp; omega) ?_; intro g cap w4 hown4 hgr hb4)
                  clear hgr
                  go_roundw
                  case rel => exact ⟨k + 1, by omega, by go_num, by rw [HS.out]; simpa using hown4, (hb.alloc hb.size _).trans hb4⟩
                  case measure => simp [intOf]; omega
                · have h10i : ¬ (10 : Int) ≤ (c : Int) := by omega
                  have HN := Lib.hid (show syncs s (k + 1) = l from hn.out (by rintro ⟨_, h1⟩; rw [HR.out] at h1; omega))
                  clear h10
                  go_wp2
                  go_roundw
                  case rel => exact ⟨k + 1, by omega, by go_num, by rw [HN.out]; exact hown, hb⟩
                  case measure => simp [intOf]; omega
            · have HX := Lib.hid (show False from by
                have hcs : c = s.size := by omega
                have h1 := hA.out (s.size - 1) (by omega)
                have h2 := HB.out
                unfold begB at h2
                rw [show k + (s.size - 1) = k + s.size - 1 by omega] at h1
                rw [h1] at h2
                simp at h2)
              exact HX.out.elim
      · have hne : ((s[k].toNat : Int) != 49) = true := by rw [bne_iff_ne]; omega
        have HN := Lib.hid (show syncs s (k + 1) = l from hn.out (by
          rintro ⟨h1, _⟩
          unfold begB at h1
          simp only [Bool.and_eq_true, decide_eq_true_eq] at h1
          apply hc
          rw [HCYC.out, h1.1]; rfl))
        clear hc
        go_wp2
        go_roundw
        case rel => exact ⟨k + 1, by omega, by go_num, by rw [HN.out]; exact hown, hb⟩
        case measure => simp [intOf]; omega
    · obtain rfl : k = s.size := by omega
      go_wp2
      go_ret
      exact RecRes.of hown hb
theorem SlSI.one {w : World} {row : CellRunV → List Value} {T : TypeId} {B : Nat} (e : CellRunV) (hB : B ≤ w.heap.size) (cs : List Value) (hr : row e = cs) : SlSI row T (w.alloc (.cells cs.toArray T)) B (w.alloc (.cells cs.toArray T)).heap.size (some ⟨w.heap.size, 0, none⟩) [e] :=
  .inr ⟨w.heap.size, #[], rfl, hB, by simp, by rw [heap_alloc_new]; simp [hr]⟩
theorem specVCx_any (s : ByteArray) (w : World) (hs : s.size ≤ maxLen) :
    Calls Try.prog 83 #[.string s] w fun e w' => e = .returned (.bool (validCells s)) ∧ w = w' := by
  have HL := Lib.hid (l02Cells_any s w hs)
  go_enter Try.func83, Try.ntmps83
  go_wp2_with (go_at_call 108; refine HL.out.mono ?_; rintro e w1 ⟨rfl, rfl⟩)
  go_ret
  exact ⟨rfl, rfl⟩
set_option maxHeartbeats 2000000 in
theorem specSyncRuns_g (s : ByteArray) (hs : s.size ≤ 1048576) (w : World) :
    Calls Try.prog 41 #[.string s] w (RecRes rowCellRun 118 (syncV s) w) := by
  have VC := Lib.hid (fun w => specVCx_any s w (by unfold maxLen; omega))
  unfold syncV
  by_cases hv : validCells s = true
  case neg =>
    have hv0 : validCells s = false := by simpa using hv
    rw [if_neg hv]
    rw [hv0] at VC
    clear hv hv0
    go_enter Try.func41, Try.ntmps41
    go_wp2_with (go_at_call 83; refine (VC.out _).mono ?_; rintro e w1 ⟨rfl, rfl⟩)
    go_ret
    exact ⟨none, 0, rfl, .inl rfl, Below.refl _ _⟩
  rw [if_pos hv]
  obtain ⟨h0, h8⟩ := validCells_bd hv
  have LO := Lib.hid (fun w => l07Ones_any s w h8)
  have LS := Lib.hid (fun w => l07Syncs_any s w hv)
  rw [hv] at VC
  clear hv
  by_cases ha : allOnes s = true
  · rw [ha] at LO ⊢
    by_cases h10 : 10 ≤ s.size
    · have h10i : (10 : Int) ≤ (s.size : Int) := by omega
      rw [if_pos ⟨rfl, h10⟩]
      clear ha h10
      go_enter Try.func41, Try.ntmps41
      go_wp2_with (first | (go_at_call 83; refine (VC.out _).mono ?_; rintro e w1 ⟨rfl, rfl⟩) | (go_at_call 84; refine (LO.out _).mono ?_; rintro e w2 ⟨rfl, rfl⟩))
      go_ret
      exact ⟨_, 1, rfl, SlSI.one ⟨0, (s.size : Int)⟩ (Nat.le_refl _) [.int .i64 0, .int .i64 (s.size : Int)] rfl, (Below.refl _ _).alloc (Nat.le_refl _) _⟩
    · have h10i : ¬ (10 : Int) ≤ (s.size : Int) := by omega
      rw [if_neg (by rintro ⟨_, h⟩; exact h10 h)]
      clear ha h10
      go_enter Try.func41, Try.ntmps41
      go_wp2_with (first | (go_at_call 83; refine (VC.out _).mono ?_; rintro e w1 ⟨rfl, rfl⟩) | (go_at_call 84; refine (LO.out _).mono ?_; rintro e w2 ⟨rfl, rfl⟩) | (go_at_call 85; refine (LS.out _).mono ?_; rintro e w3 ⟨a3, c3, rfl, hs3, hb3⟩))
      go_ret
      exact ⟨a3, c3, rfl, hs3, hb3⟩
  · have ha0 : allOnes s = false := by simpa using ha
    rw [ha0] at LO ⊢
    rw [if_neg (by simp)]
    clear ha ha0
    go_enter Try.func41, Try.ntmps41
    go_wp2_with (first | (go_at_call 83; refine (VC.out _).mono ?_; rintro e w1 ⟨rfl, rfl⟩) | (go_at_call 84; refine (LO.out _).mono ?_; rintro e w2 ⟨rfl, rfl⟩) | (go_at_call 85; refine (LS.out _).mono ?_; rintro e w3 ⟨a3, c3, rfl, hs3, hb3⟩))
    go_ret
    exact ⟨a3, c3, rfl, hs3, hb3⟩
set_option maxHeartbeats 8000000 in
theorem syncRuns_g (s : ByteArray) (hs : s.size ≤ 1048576) (w : World) :
    Calls Try.prog 42 #[.string s] w (RecRes rowCellRun 118 (syncV s) w) := by
  have VC := Lib.hid (fun w => validCells_any s w (by unfold maxLen; omega))
  unfold syncV
  by_cases hv : validCells s = true
  case neg =>
    have hv0 : validCells s = false := by simpa using hv
    rw [if_neg hv]
    rw [hv0] at VC
    clear hv hv0
    go_enter Try.func42, Try.ntmps42
    go_wp2_with (go_at_call 86; refine (VC.out _).mono ?_; rintro e w1 ⟨rfl, hb1⟩)
    go_ret
    exact ⟨none, 0, rfl, .inl rfl, hb1⟩
  rw [if_pos hv]
  obtain ⟨h0, h8⟩ := validCells_bd hv
  have NZ := Lib.hid (fun w => Try.strings_Contains_one s 48 w)
  rw [no_zero hv] at NZ
  have IX := Lib.hid (fun k (hk : k < s.size) hb w => by have h := Try.strings_IndexByte ((s ++ s).extract k (s ++ s).size) 48 w; rw [show (48 : Int).toNat.toUInt8 = (48 : UInt8) from rfl, index_run hv hk hb] at h; exact h)
  have CY := Lib.hid (cyc_cell hv)
  obtain ⟨L, hL⟩ : ∃ L, (if allOnes s = true ∧ 10 ≤ s.size then [(⟨0, (s.size : Int)⟩ : CellRunV)] else syncs s s.size) = L := ⟨_, rfl⟩
  have HL := Lib.hid (And.intro (fun ha => ones_syncs h0 ha s.size) hL)
  rw [hL]
  clear hL
  rw [hv] at VC
  clear hv
  obtain ⟨p, hp⟩ : ∃ p : Nat, p + 1 = s.size := ⟨s.size - 1, by omega⟩
  have hpl : p < s.size := by omega
  have hpi : (s.size : Int) - 1 = (p : Int) := by omega
  have hpw : IntKind.i64.wrap ((s.size : Int) - 1) = (s.size : Int) - 1 := IntWalk.i64_in _ (by omega)
  have HCP := Lib.hid (cyc_nat s p p (Nat.mod_eq_of_lt hpl) hpl)
  have hss : (s ++ s).size = s.size + s.size := by simp
  rw [hpi] at hpw
  have hpt : ((s.size : Int) - 1).toNat = p := by clear hpw; omega
  have HPE := Lib.hid (And.intro hp hpi)
  clear hp
  go_enter Try.func42, Try.ntmps42
  go_wp2_with (go_at_call 86; refine (VC.out _).mono ?_; rintro e w1 ⟨rfl, hb1⟩)
  have HB1 := Lib.hid hb1; clear hb1
  go_quiet (fail)
  go_wp2
  have hbW := below_drewN' HB1.out nq
  obtain ⟨W, hW⟩ : ∃ W, w1.drewN nq = W := ⟨_, rfl⟩
  rw [hW] at hbW ⊢
  clear hW hpw hpt hpi
  have HBW := Lib.hid hbW; clear hbW
  have ht1 : s.size ≤ (s ++ s).size := by omega
  have ht2 : (s ++ s).size ≤ 16000 := by omega
  clear hss
  generalize s ++ s = tr at *
  have HCP2 := Lib.hid (show s[p].toNat = (cycB s (0 + s.size - 1)).toNat by rw [HCP.out]; congr 2; have := HPE.out.1; omega)
  generalize s[p].toNat = y0 at *
  go_loopw [3, 5, 6, 7, 8, 22] (fun v bf _ _ _ i wr => ∃ k y : Nat, k ≤ s.size ∧ i = .int .i64 k ∧ bf = .int .u8 (y : Nat) ∧ y < 256 ∧ Hid (y = (cycB s (k + s.size - 1)).toNat) ∧ OwnR rowCellRun 118 2 wr W.heap.size v (syncs s k) ∧ Below W.heap.size W wr) (fun _ _ _ _ _ i _ => s.size - (intOf i).toNat)
  case atStart => exact ⟨0, y0, Nat.zero_le _, rfl, rfl, by rw [HCP2.out]; exact UInt8.toNat_lt _, by unfold Hid; exact HCP2.out, OwnR.nil _ _, Below.refl _ _⟩
  case round =>
    obtain ⟨k, y, hk, rfl, rfl, hy256, hY, hown, hb⟩ := hrel
    have hll := syncs_len s k
    by_cases hlt : k < s.size
    · have hy := Lib.hid (syncs_yes (s := s) (k := k))
      have hn := Lib.hid (syncs_no (s := s) (k := k))
      have hll2 : (syncs s k).length < 1073741824 := by omega
      clear hll
      have HLK := Lib.hid (show ∀ l, syncs s k = l → True from fun _ _ => trivial)
      generalize syncs s k = l at *
      have e1 : (k : Int) < (s.size : Int) := by omega
      have e2 : (k : Int) ≤ (tr.size : Int) := by omega
      have HNX := Lib.hid (show s[k].toNat = (cycB s (k + 1 + s.size - 1)).toNat by
        rw [cyc_nat s k k (Nat.mod_eq_of_lt hlt) hlt]
        congr 1
        unfold cycB
        congr 1
        rw [show k + 1 + s.size - 1 = k + s.size by omega, Nat.add_mod_right])
      have hx256 := s[k].toNat_lt
      have HCK := Lib.hid (cyc_nat s k k (Nat.mod_eq_of_lt hlt) hlt)
      obtain ⟨x, hx⟩ : ∃ x, s[k].toNat = x := ⟨_, rfl⟩
      rw [hx] at hx256 HCK HNX
      by_cases hc : x = 49
      · have hne : ((x : Int) == 49) = true := by rw [beq_iff_eq]; omega
        have HC := Lib.hid (show cycB s k = 49 from UInt8.toNat_inj.1 (by rw [← HCK.out, hc]; rfl))
        have HX := Lib.hid hx; have HXC := Lib.hid hc
        clear hc
        by_cases hp : y = 48
        · have hpn : ((y : Int) == 48) = true := by rw [beq_iff_eq]; omega
          have hcp : cycB s (k + s.size - 1) = 48 := UInt8.toNat_inj.1 (by rw [← hY.out, hp]; rfl)
          have HB := Lib.hid (show begB s k = true by unfold begB; rw [HC.out, hcp]; rfl)
          have IXK := Lib.hid (fun w => IX.out k hlt hcp w)
          obtain ⟨c, hcc⟩ : ∃ c, runLen s k = c := ⟨_, rfl⟩
          rw [hcc] at IXK
          have hc8 : c ≤ 8000 := by have := runLen_le s k; omega
          have HR := Lib.hid hcc
          clear hp hcp hcc
          by_cases h10 : 10 ≤ c
          · have h10i : (10 : Int) ≤ (c : Int) := by omega
            have HS := Lib.hid (show syncs s (k + 1) = l ++ [⟨(k : Int), (c : Int)⟩] by rw [hy.out HB.out (by rw [HR.out]; exact h10), HR.out])
            clear h10
            go_wp2_with fail
            refine (IXK.out _).mono ?_
            rintro e w3 ⟨rfl, rfl⟩
            go_wp2_with (at_builtin; refine wpList_appendR 71 118 (.agg zeroCellRun.toArray) 16 Try.underlying71 infoCellRun rfl (by omega) (by omega) rfl _ _ rfl rfl (hown.alloc _) ⟨(k : Int), (c : Int)⟩ rfl (by simp [rowRun, Value.oneCell']) ⟨w3.heap.size, 0, none⟩ 1 rfl (World.news_of_block (cs := #[.int .i64 (k : Int), .int .i64 (c : Int)]) (t := 118) (fr := (0, 0)) (heap_alloc_new w3 _)) hll2 (by have := hb.size; simp; omega) ?_; intro g cap w4 hown4 hgr hb4)
            clear hgr
            go_roundw
            case rel => exact ⟨k + 1, x, by omega, by go_num, by first | rfl | (rw [HX.out]), hx256, by unfold Hid; exact HNX.out, by rw [HS.out]; simpa using hown4, (hb.alloc hb.size _).trans hb4⟩
            case measure => simp [intOf]; omega
          · have h10i : ¬ (10 : Int) ≤ (c : Int) := by omega
            have HN := Lib.hid (show syncs s (k + 1) = l from hn.out (by rintro ⟨_, h1⟩; rw [HR.out] at h1; omega))
            clear h10
            go_wp2_with fail
            refine (IXK.out _).mono ?_
            rintro e w3 ⟨rfl, rfl⟩
            go_wp2
            go_roundw
            case rel => exact ⟨k + 1, x, by omega, by go_num, by first | rfl | (rw [HX.out]), hx256, by unfold Hid; exact HNX.out, by rw [HN.out]; exact hown, hb⟩
            case measure => simp [intOf]; omega
        · have hpn : ((y : Int) == 48) = false := by rw [beq_eq_false_iff_ne]; omega
          have HN := Lib.hid (show syncs s (k + 1) = l from hn.out (by
            rintro ⟨h1, _⟩
            unfold begB at h1
            simp only [Bool.and_eq_true, decide_eq_true_eq] at h1
            rcases CY.out (k + s.size - 1) with e | e
            · exact hp (by rw [hY.out, e]; rfl)
            · exact h1.2 e))
          clear hp
          go_wp2
          go_roundw
          case rel => exact ⟨k + 1, x, by omega, by go_num, by first | rfl | (rw [HX.out]), hx256, by unfold Hid; exact HNX.out, by rw [HN.out]; exact hown, hb⟩
          case measure => simp [intOf]; omega
      · have hne : ((x : Int) == 49) = false := by rw [beq_eq_false_iff_ne]; omega
        have HX := Lib.hid hx
        have HN := Lib.hid (show syncs s (k + 1) = l from hn.out (by
          rintro ⟨h1, _⟩
          unfold begB at h1
          simp only [Bool.and_eq_true, decide_eq_true_eq] at h1
          apply hc
          rw [HCK.out, h1.1]; rfl))
        clear hc
        go_wp2
        go_roundw
        case rel => exact ⟨k + 1, x, by omega, by go_num, by first | rfl | (rw [HX.out]), hx256, by unfold Hid; exact HNX.out, by rw [HN.out]; exact hown, hb⟩
        case measure => simp [intOf]; omega
    · obtain rfl : k = s.size := by omega
      have hll2 : (syncs s s.size).length < 1073741824 := by omega
      clear hll
      have FB := Lib.hid (HBW.out.trans (hb.mono HBW.out.size))
      have hbz := hb.size
      have hwz := HBW.out.size
      by_cases h10 : 10 ≤ s.size
      · have h10i : (10 : Int) ≤ (s.size : Int) := by omega
        obtain ⟨q, hq⟩ : ∃ q, allOnes s = q := ⟨_, rfl⟩
        rw [hq] at NZ
        cases q with
        | true =>
          have HLL := Lib.hid (show L = [⟨0, (s.size : Int)⟩] by rw [← HL.out.2, if_pos ⟨hq, h10⟩])
          rw [HL.out.1 hq] at hown hll2
          simp only [Bool.not_true] at NZ
          clear hq h10
          go_wp2_with fail
          refine (NZ.out _).mono ?_
          rintro e w3 ⟨rfl, rfl⟩
          go_wp2_with (at_builtin; refine wpList_appendR 71 118 (.agg zeroCellRun.toArray) 16 Try.underlying71 infoCellRun rfl (by omega) (by omega) rfl _ _ rfl rfl (hown.alloc _) ⟨0, (s.size : Int)⟩ rfl (by simp [rowRun, Value.oneCell']) ⟨w3.heap.size, 0, none⟩ 1 rfl (World.news_of_block (cs := #[.int .i64 0, .int .i64 (s.size : Int)]) (t := 118) (fr := (0, 0)) (heap_alloc_new w3 _)) hll2 (by simp; omega) ?_; intro g cap w4 hown4 hgr hb4)
          clear hgr
          go_ret
          rw [HLL.out]
          exact RecRes.of (OwnR.mono (by simpa using hown4) hwz) (FB.out.trans ((((Below.refl _ _).alloc hbz _).trans hb4).mono hwz))
        | false =>
          have HLL := Lib.hid (show L = syncs s s.size by rw [← HL.out.2, if_neg (by rintro ⟨h, _⟩; rw [hq] at h; cases h)])
          simp only [Bool.not_false] at NZ
          clear hq h10
          go_wp2_with fail
          refine (NZ.out _).mono ?_
          rintro e w3 ⟨rfl, rfl⟩
          go_wp2
          go_ret
          rw [HLL.out]
          exact RecRes.of (hown.mono hwz) FB.out
      · have h10i : ¬ (10 : Int) ≤ (s.size : Int) := by omega
        have HLL := Lib.hid (show L = syncs s s.size by rw [← HL.out.2, if_neg (by rintro ⟨_, h⟩; exact h10 h)])
        clear h10
        go_wp2
        go_ret
        rw [HLL.out]
        exact RecRes.of (hown.mono hwz) FB.out
end Go.Proofs.Ytdpnpmfhnfecaaa
