/- impl.unlikeCount, impl.bestShift; spec.l10Differ, spec.l10Shift -/
import Derived.Test.YtlaejcbcfcomaaaBestVal
import Derived.Test.YtlaejcbcfcomaaaRotateCells
import Derived.Test.YtlaejcbcfcomaaaSlRes
namespace Go.Proofs.Ytlaejcbcfcomaaa
open Go.RowKit
set_option linter.unusedVariables false
set_option linter.unusedSimpArgs false
set_option maxRecDepth 20000
theorem byte_at (a : ByteArray) (k : Nat) (h : k < a.size) : a.data[k]! = a[k] := by rw [getElem!_pos a.data k h]; rfl
theorem unlike_yes {a b : ByteArray} {k : Nat} (h : a.data[k]! = b.data[k]!) : unlikeN a b (k + 1) = unlikeN a b k := by rw [unlikeN, if_pos h]; rfl
theorem unlike_no {a b : ByteArray} {k : Nat} (h : ¬ a.data[k]! = b.data[k]!) : unlikeN a b (k + 1) = unlikeN a b k + 1 := by rw [unlikeN, if_neg h]
set_option maxHeartbeats 1000000 in
theorem unlikeCount_any (a b : ByteArray) (w : World) (hl : a.size ≤ b.size) (hs : a.size ≤ 8000) :
    Calls Try.prog 115 #[.string a, .string b] w fun e w' => e = .returned (.int .i64 (unlikeN a b a.size)) ∧ Below w.heap.size w w' := by
  go_enter Try.func115, Try.ntmps115
  go_wp2
  go_loopw [5, 9] (fun c i wr => ∃ k m : Nat, k ≤ a.size ∧ i = .int .i64 k ∧ c = .int .i64 m ∧ m ≤ k ∧ Hid (unlikeN a b k = m) ∧ Below w.heap.size w wr) (fun _ i _ => a.size - (intOf i).toNat)
  case atStart => exact ⟨0, 0, Nat.zero_le _, rfl, rfl, Nat.le_refl _, by unfold Hid; rfl, Below.refl _ _⟩
  case round =>
    obtain ⟨k, m, hk, rfl, rfl, hm, hM, hb⟩ := hrel
    by_cases hlt : k < a.size
    · have hlb : k < b.size := by omega
      by_cases he : a[k] = b[k]
      · have hne : ((a[k].toNat : Int) != (b[k].toNat : Int)) = false := by simp [he]
        have HE := Lib.hid (unlike_yes (a := a) (b := b) (k := k) (by rw [byte_at a k hlt, byte_at b k hlb]; exact he)); clear he
        go_wp2
        go_quiet (fail)
        go_wp2
        go_roundw
        case rel => exact ⟨k + 1, m, by omega, by go_num, rfl, by omega, by unfold Hid; rw [HE.out]; exact hM.out, below_drewN hb _⟩
        case measure => (simp [intOf]; try omega)
      · have hne : ((a[k].toNat : Int) != (b[k].toNat : Int)) = true := by
          simp only [bne_iff_ne, ne_eq]
          intro h
          exact he (UInt8.toNat_inj.1 (by omega))
        have HE := Lib.hid (unlike_no (a := a) (b := b) (k := k) (by rw [byte_at a k hlt, byte_at b k hlb]; exact he)); clear he
        go_wp2
        go_quiet (fail)
        go_wp2
        go_roundw
        case rel => exact ⟨k + 1, m + 1, by omega, by go_num, by go_num, by omega, by unfold Hid; rw [HE.out, hM.out], below_drewN hb _⟩
        case measure => (simp [intOf]; try omega)
    · obtain rfl : k = a.size := by omega
      go_wp2
      go_ret
      exact ⟨ret_int (by rw [hM.out]), hb⟩
set_option maxHeartbeats 1000000 in
theorem l10Differ_any (base cells : ByteArray) (s : Int) (w : World) (h0 : 0 < base.size) (h1 : base.size ≤ 8000) (hc : cells.size = base.size) (hs1 : -8000 ≤ s) (hs2 : s ≤ 8000) :
    Calls Try.prog 113 #[.string base, .string cells, .int .i64 s] w fun e w' => e = .returned (.int .i64 (shD base cells s)) ∧ Below w.heap.size w w' := by
  obtain ⟨b1, b2⟩ := rot_bd s base.size h0
  have hr := rotK_eq s base.size h0
  have hk := rotK_lt s base.size h0
  have HV := Lib.hid (show shD base cells s = unlikeN base (rotS cells (rotK s base.size)) base.size from rfl)
  obtain ⟨r, hrr⟩ : ∃ k, rotK s base.size = k := ⟨_, rfl⟩
  rw [hrr] at hr hk HV
  clear hrr
  have e0 : (0 : Int) ≤ r := by omega
  have e1 : (r : Int) ≤ base.size := by omega
  have hbn : ((base.size : Int) == 0) = false := by rw [beq_eq_false_iff_ne]; omega
  have HC := Lib.hid hc; clear hc
  go_enter Try.func113, Try.ntmps113
  go_wp2
  go_loopw [8, 10] (fun c i wr => ∃ k m : Nat, k ≤ base.size ∧ i = .int .i64 k ∧ c = .int .i64 m ∧ m ≤ k ∧ Hid (unlikeN base (rotS cells r) k = m) ∧ Below w.heap.size w wr) (fun _ i _ => base.size - (intOf i).toNat)
  case atStart => exact ⟨0, 0, Nat.zero_le _, rfl, rfl, Nat.le_refl _, by unfold Hid; rfl, Below.refl _ _⟩
  case round =>
    obtain ⟨k, m, hk2, rfl, rfl, hm, hM, hb⟩ := hrel
    by_cases hlt : k < base.size
    · obtain ⟨q, hq⟩ : ∃ q, (k + r) % base.size = q := ⟨_, rfl⟩
      have hqi : ((k : Int) + (r : Int)) % (base.size : Int) = (q : Int) := by rw [← hq]; simp
      have hql : q < cells.size := by rw [HC.out, ← hq]; exact Nat.mod_lt _ h0
      have hrot : (rotS cells r).data[k]! = cells[q] := by
        rw [rotS_at cells r k (by rw [HC.out]; exact hk) (by rw [HC.out]; exact hlt), HC.out, hq, byte_at cells q hql]
      have hrot2 := byte_at base k hlt
      have HQ := Lib.hid hq; clear hq
      by_cases he : base[k] = cells[q]
      · have hne : ((base[k].toNat : Int) != (cells[q].toNat : Int)) = false := by simp [he]
        have HE := Lib.hid (unlike_yes (a := base) (b := rotS cells r) (k := k) (by rw [hrot, hrot2]; exact he)); clear he hrot hrot2
        go_wp2
        go_quiet (fail)
        go_wp2
        go_roundw
        case rel => exact ⟨k + 1, m, by omega, by go_num, rfl, by omega, by unfold Hid; rw [HE.out]; exact hM.out, below_drewN hb _⟩
        case measure => (simp [intOf]; try omega)
      · have hne : ((base[k].toNat : Int) != (cells[q].toNat : Int)) = true := by
          simp only [bne_iff_ne, ne_eq]
          intro h
          exact he (UInt8.toNat_inj.1 (by omega))
        have HE := Lib.hid (unlike_no (a := base) (b := rotS cells r) (k := k) (by rw [hrot, hrot2]; exact he)); clear he hrot hrot2
        go_wp2
        go_quiet (fail)
        go_wp2
        go_roundw
        case rel => exact ⟨k + 1, m + 1, by omega, by go_num, by go_num, by omega, by unfold Hid; rw [HE.out, hM.out], below_drewN hb _⟩
        case measure => (simp [intOf]; try omega)
    · obtain rfl : k = base.size := by omega
      go_wp2
      go_ret
      exact ⟨ret_int (by rw [HV.out, hM.out]), hb⟩
/-- The three states of a round: before it, behind the positive shift, behind the negative one. -/
def bsMid (base cells : ByteArray) (k j : Nat) : Int × Nat :=
  if j = 0 then bsRun base cells k else if j = 1 then bsStep base cells (bsRun base cells k) (k + 1) else bsRun base cells (k + 1)
def bsSign (k j : Nat) : Int := if j = 0 then (k + 1 : Int) else -(k + 1 : Int)
theorem bsMid_succ (base cells : ByteArray) (k j : Nat) (h : j < 2) : bsMid base cells k (j + 1) = bsStep base cells (bsMid base cells k j) (bsSign k j) := by
  have : j = 0 ∨ j = 1 := by omega
  rcases this with rfl | rfl
  · simp [bsMid, bsSign]
  · simp [bsMid, bsSign, bsRun]
theorem bsMid_bd (base cells : ByteArray) (k j : Nat) : (bsMid base cells k j).2 ≤ base.size ∧ -((k : Int) + 1) ≤ (bsMid base cells k j).1 ∧ (bsMid base cells k j).1 ≤ (k : Int) + 1 := by
  have a := bsRun_bd base cells k
  have b := bsRun_bd base cells (k + 1)
  unfold bsMid
  split
  · omega
  · split
    · exact bsStep_bd a.1 (by omega) (by omega)
    · omega
theorem bsStep_yes {base cells : ByteArray} {p : Int × Nat} {s : Int} (h : shD base cells s < p.2) : bsStep base cells p s = (s, shD base cells s) := by unfold bsStep; rw [if_pos h]
theorem bsStep_no {base cells : ByteArray} {p : Int × Nat} {s : Int} (h : ¬ shD base cells s < p.2) : bsStep base cells p s = p := by unfold bsStep; rw [if_neg h]
set_option maxHeartbeats 4000000 in
theorem l10Shift_any (base cells : ByteArray) (n : Nat) (w : World) (h0 : 0 < base.size) (h1 : base.size ≤ 8000) (hc : cells.size = base.size) (hn : n ≤ 40) :
    Calls Try.prog 66 #[.string base, .string cells, .int .i64 n] w fun e w' => e = .returned (.tuple #[.int .i64 (bsRun base cells n).1, .int .i64 (bsRun base cells n).2]) ∧ Below w.heap.size w w' := by
  have DI := Lib.hid (fun s w (h2 : -8000 ≤ s) (h3 : s ≤ 8000) => l10Differ_any base cells s w h0 h1 hc h2 h3)
  have DL := Lib.hid (fun s => shD_le base cells s)
  have D0 := Lib.hid (DI.out 0 w (by omega) (by omega))
  have HZ := Lib.hid (show bsRun base cells 0 = (0, shD base cells 0) from rfl)
  clear hc
  go_enter Try.func66, Try.ntmps66
  go_wp2_with fail
  refine D0.out.mono ?_
  rintro e w1 ⟨rfl, hb1⟩
  go_wp2
  go_loopw [8, 9, 10] (fun b l i wr => ∃ k d : Nat, ∃ x : Int, k ≤ n ∧ i = .int .i64 (k + 1 : Int) ∧ b = .int .i64 x ∧ l = .int .i64 d ∧ Hid (bsRun base cells k = (x, d)) ∧ Below w.heap.size w wr) (fun _ _ i _ => n + 1 - (intOf i).toNat)
  case atStart => exact ⟨0, shD base cells 0, 0, Nat.zero_le _, rfl, rfl, rfl, by unfold Hid; rfl, hb1⟩
  case round =>
    obtain ⟨k, d, x, hk, rfl, rfl, rfl, hR, hb⟩ := hrel
    by_cases hlt : k < n
    · have hki : (k : Int) + 1 ≤ n := by omega
      have HBD := Lib.hid (fun j => bsMid_bd base cells k j)
      rename_i wr0
      have HB0 := Lib.hid hb; clear hb
      go_wp2
      go_hide hQ
      go_loopw [8, 9, 11] (fun b l s wr => ∃ j d : Nat, ∃ x : Int, j ≤ 2 ∧ s = .int .i64 (1 - 2 * j : Int) ∧ b = .int .i64 x ∧ l = .int .i64 d ∧ Hid (bsMid base cells k j = (x, d)) ∧ Below w.heap.size w wr) (fun _ _ s _ => (intOf s + 4).toNat)
      case atStart => exact ⟨0, d, x, by omega, rfl, rfl, rfl, by unfold Hid; exact hR.out, HB0.out⟩
      case round =>
        obtain ⟨j, d, x, hj, rfl, rfl, rfl, hM, hb⟩ := hrel
        have hbd := HBD.out j
        rw [hM.out] at hbd
        have hd := hbd.1
        have hx1 := hbd.2.1
        have hx2 := hbd.2.2
        dsimp only at hd hx1 hx2
        clear hbd
        by_cases hj2 : j < 2
        · have HSUC := Lib.hid (bsMid_succ base cells k j hj2)
          have hsg : (1 - 2 * (j : Int)) * ((k : Int) + 1) = bsSign k j := by
            have : j = 0 ∨ j = 1 := by omega
            rcases this with rfl | rfl
            · simp [bsSign]
            · simp [bsSign]
          have hsb : -8000 ≤ bsSign k j ∧ bsSign k j ≤ 8000 := by unfold bsSign; split <;> omega
          obtain ⟨s, hs⟩ : ∃ s, bsSign k j = s := ⟨_, rfl⟩
          rw [hs] at hsg hsb HSUC
          have hs1 := hsb.1
          have hs2 := hsb.2
          have DS := Lib.hid (fun w => DI.out s w hs1 hs2)
          have hdl := DL.out s
          obtain ⟨t, ht⟩ : ∃ t, shD base cells s = t := ⟨_, rfl⟩
          rw [ht] at DS hdl
          have HT := Lib.hid ht; have HS := Lib.hid hs; clear ht hs hsb
          have hw1 : wrap64 ((1 - 2 * (j : Int)) * ((k : Int) + 1)) = s := by rw [hsg]; unfold wrap64; omega
          have hw2 : IntKind.i64.wrap ((1 - 2 * (j : Int)) * ((k : Int) + 1)) = s := by rw [hsg]; exact IntWalk.i64_in _ (by omega)
          have HSG := Lib.hid hsg; clear hsg
          by_cases hlt2 : t < d
          · have hti : (t : Int) < (d : Int) := by omega
            have HN := Lib.hid (show bsMid base cells k (j + 1) = (s, t) by rw [HSUC.out, hM.out, bsStep_yes (by rw [HT.out]; exact hlt2), HT.out])
            go_wp2_with fail
            refine (DS.out _).mono ?_
            rintro e w2 ⟨rfl, hb2⟩
            go_wp2
            go_roundw
            case rel => exact ⟨j + 1, t, s, by omega, by go_num, rfl, rfl, by unfold Hid; exact HN.out, hb.trans (hb2.mono hb.size)⟩
            case measure => (simp [intOf]; try omega)
          · have hti : ¬ (t : Int) < (d : Int) := by omega
            have HN := Lib.hid (show bsMid base cells k (j + 1) = (x, d) by rw [HSUC.out, hM.out, bsStep_no (by rw [HT.out]; exact hlt2)])
            go_wp2_with fail
            refine (DS.out _).mono ?_
            rintro e w2 ⟨rfl, hb2⟩
            go_wp2
            go_roundw
            case rel => exact ⟨j + 1, d, x, by omega, by go_num, rfl, rfl, by unfold Hid; exact HN.out, hb.trans (hb2.mono hb.size)⟩
            case measure => (simp [intOf]; try omega)
        · obtain rfl : j = 2 := by omega
          have HF := Lib.hid (show bsRun base cells (k + 1) = (x, d) from hM.out)
          subst hQ
          go_wp2
          go_roundw
          case rel => exact ⟨k + 1, d, x, by omega, by go_num, rfl, rfl, by unfold Hid; exact HF.out, hb⟩
          case measure => (simp [intOf]; try omega)
    · obtain rfl : k = n := by omega
      go_wp2
      go_ret2
      exact ⟨by rw [hR.out]; rfl, hb⟩
set_option maxHeartbeats 4000000 in
theorem implBestShift_any (base cells : ByteArray) (n : Nat) (w : World) (hv : validCells cells = true) (hm : cells.size ≤ maxLen) (hc : cells.size = base.size) (hn : n ≤ 40) :
    Calls Try.prog 69 #[.string base, .string cells, .int .i64 n] w fun e w' => e = .returned (.tuple #[.int .i64 (bsRun base cells n).1, .int .i64 (bsRun base cells n).2]) ∧ Below w.heap.size w w' := by
  obtain ⟨h0, h1⟩ := validCells_bd hv
  rw [hc] at h0 h1
  have UC := Lib.hid (fun s w => (unlikeCount_any base (rotS cells (rotK s base.size)) w (by rw [rotS_size _ _ (by rw [hc]; exact Nat.le_of_lt (rotK_lt s _ h0)), hc]; exact Nat.le_refl _) h1))
  have RC := Lib.hid (fun s w => (rotateCells_yes cells s w hm hv).mono (fun e w' ⟨he, hw⟩ => (show e = Ending.returned (.tuple #[.string (rotS cells (rotK s base.size)), .bool true]) ∧ Below w.heap.size w w' from ⟨by rw [he, hc], hw⟩)))
  have DL := Lib.hid (fun s => shD_le base cells s)
  have U0 := Lib.hid (show Calls Try.prog 115 #[.string base, .string cells] w fun e w' => e = .returned (.int .i64 (shD base cells 0)) ∧ Below w.heap.size w w' by
    have := unlikeCount_any base cells w (by omega) h1
    have e : shD base cells 0 = unlikeN base cells base.size := by
      unfold shD
      have : rotK 0 base.size = 0 := by simp [rotK]
      rw [this, rotS_zero]
    rw [e]; exact this)
  clear hc hv hm
  go_enter Try.func69, Try.ntmps69
  go_wp2_with fail
  refine U0.out.mono ?_
  rintro e w1 ⟨rfl, hb1⟩
  go_wp2
  go_loopw [8, 9, 10] (fun b l i wr => ∃ k d : Nat, ∃ x : Int, k ≤ n ∧ i = .int .i64 (k + 1 : Int) ∧ b = .int .i64 x ∧ l = .int .i64 d ∧ Hid (bsRun base cells k = (x, d)) ∧ Below w.heap.size w wr) (fun _ _ i _ => n + 1 - (intOf i).toNat)
  case atStart => exact ⟨0, shD base cells 0, 0, Nat.zero_le _, rfl, rfl, rfl, by unfold Hid; rfl, hb1⟩
  case round =>
    obtain ⟨k, d, x, hk, rfl, rfl, rfl, hR, hb⟩ := hrel
    by_cases hlt : k < n
    · have hki : (k : Int) + 1 ≤ n := by omega
      have HBD := Lib.hid (fun j => bsMid_bd base cells k j)
      rename_i wr0
      have HB0 := Lib.hid hb; clear hb
      go_wp2
      go_hide hQ
      go_loopw [8, 9, 28] (fun b l i wr => ∃ j d : Nat, ∃ x : Int, j ≤ 2 ∧ i = .int .i64 j ∧ b = .int .i64 x ∧ l = .int .i64 d ∧ Hid (bsMid base cells k j = (x, d)) ∧ Below w.heap.size w wr) (fun _ _ i _ => 2 - (intOf i).toNat)
      case atStart => exact ⟨0, d, x, by omega, rfl, rfl, rfl, by unfold Hid; exact hR.out, HB0.out⟩
      case round =>
        obtain ⟨j, d, x, hj, rfl, rfl, rfl, hM, hb⟩ := hrel
        have hbd := HBD.out j
        rw [hM.out] at hbd
        have hd := hbd.1
        dsimp only at hd
        clear hbd
        by_cases hj2 : j < 2
        · have HSUC := Lib.hid (bsMid_succ base cells k j hj2)
          have hj01 : j = 0 ∨ j = 1 := by omega
          obtain ⟨s, hs⟩ : ∃ s, bsSign k j = s := ⟨_, rfl⟩
          rw [hs] at HSUC
          have RS := Lib.hid (fun w => RC.out s w)
          have US := Lib.hid (fun w => (UC.out s w).mono (fun e w' ⟨he, hw⟩ => (show e = Ending.returned (.int .i64 (shD base cells s)) ∧ Below w.heap.size w w' from ⟨he, hw⟩)))
          have hdl := DL.out s
          obtain ⟨t, ht⟩ : ∃ t, shD base cells s = t := ⟨_, rfl⟩
          rw [ht] at US hdl
          have HT := Lib.hid ht; clear ht
          have hix : ∀ w, (Instr.index 160 (.agg #[.int .i64 ((k : Int) + 1), .int .i64 (-((k : Int) + 1))]) (.int .i64 (j : Int))).run Try.prog w = .ok (.int .i64 s) w := by
            intro w
            rw [← hs]
            rcases hj01 with rfl | rfl
            · rfl
            · rfl
          have HS := Lib.hid hs; clear hs hj01
          by_cases hlt2 : t < d
          · have hti : (t : Int) < (d : Int) := by omega
            have HN := Lib.hid (show bsMid base cells k (j + 1) = (s, t) by rw [HSUC.out, hM.out, bsStep_yes (by rw [HT.out]; exact hlt2), HT.out])
            go_wp2_with fail
            refine (RS.out _).mono ?_
            rintro e w2 ⟨rfl, hb2⟩
            clear hix
            go_wp2_with fail
            refine (US.out _).mono ?_
            rintro e w3 ⟨rfl, hb3⟩
            go_wp2
            go_roundw
            case rel => exact ⟨j + 1, t, s, by omega, by go_num, rfl, rfl, by unfold Hid; exact HN.out, (hb.trans (hb2.mono hb.size)).trans (hb3.mono (hb.trans (hb2.mono hb.size)).size)⟩
            case measure => (simp [intOf]; try omega)
          · have hti : ¬ (t : Int) < (d : Int) := by omega
            have HN := Lib.hid (show bsMid base cells k (j + 1) = (x, d) by rw [HSUC.out, hM.out, bsStep_no (by rw [HT.out]; exact hlt2)])
            go_wp2_with fail
            refine (RS.out _).mono ?_
            rintro e w2 ⟨rfl, hb2⟩
            clear hix
            go_wp2_with fail
            refine (US.out _).mono ?_
            rintro e w3 ⟨rfl, hb3⟩
            go_wp2
            go_roundw
            case rel => exact ⟨j + 1, d, x, by omega, by go_num, rfl, rfl, by unfold Hid; exact HN.out, (hb.trans (hb2.mono hb.size)).trans (hb3.mono (hb.trans (hb2.mono hb.size)).size)⟩
            case measure => (simp [intOf]; try omega)
        · obtain rfl : j = 2 := by omega
          have HF := Lib.hid (show bsRun base cells (k + 1) = (x, d) from hM.out)
          subst hQ
          go_wp2
          go_roundw
          case rel => exact ⟨k + 1, d, x, by omega, by go_num, rfl, rfl, by unfold Hid; exact HF.out, hb⟩
          case measure => (simp [intOf]; try omega)
    · obtain rfl : k = n := by omega
      go_wp2
      go_ret2
      exact ⟨by rw [hR.out]; rfl, hb⟩
end Go.Proofs.Ytlaejcbcfcomaaa
