/- impl.isGap, numberOf, putNumber, every over gaps, PackGaps -/
import Derived.Test.YtogoklgppepbjaaGapsVal
namespace Go.Proofs.Ytogoklgppepbjaa
open Go.RowKit
set_option linter.unusedVariables false
set_option linter.unusedSimpArgs false
set_option maxRecDepth 20000
theorem isGap_any (g : Int) (w : World) :
    Calls Try.prog 56 #[.int .i64 g] w fun e w' => e = .returned (.bool (inB 1 2000000 g)) ∧ Below w.heap.size w w' := by
  have C := Lib.hid (fun w T x hx => within_b 1 2000000 g w T x hx)
  go_enter Try.func56, Try.ntmps56
  go_wp2_with fail
  refine (C.out _ _ _ (by simp)).mono ?_
  rintro e w1 ⟨rfl, hb⟩
  go_wp2
  go_ret
  exact ⟨rfl, hb⟩
theorem numberOf_any (d : Int) (hd : -2000000 ≤ d) (hd2 : d ≤ 2000000) (w : World) :
    Calls Try.prog 58 #[.int .i64 d] w fun e w' => e = .returned (.int .i64 (numOf d : Nat)) ∧ w = w' := by
  by_cases h : d < 0
  all_goals
    go_enter Try.func58, Try.ntmps58
    go_wp2
    go_ret
    exact ⟨ret_int (by unfold numOf; split <;> omega), rfl⟩
set_option maxHeartbeats 2000000 in
theorem everyGap_any (a : Option Addr) (zs : List Int) (c : Nat) (w : World) (hm : zs.length ≤ 1048576) (h : SlA w a zs) :
    Calls Try.prog 55 #[.slice a zs.length c, .func (.func 56) #[] #[]] w fun x w' => x = .returned (.bool (gapsB zs)) ∧ Below w.heap.size w w' := by
  go_enter Try.func55, Try.ntmps55
  go_wp2
  go_loopw [9] (fun i wr => ∃ (k : Nat), k ≤ zs.length ∧ i = .int .i64 k ∧ Hid (gapsB (zs.take k) = true) ∧ Below w.heap.size w wr) (fun i _ => zs.length - (intOf i).toNat)
  case atStart => exact ⟨0, Nat.zero_le _, rfl, by unfold Hid; rfl, Below.refl _ _⟩
  case round =>
    obtain ⟨k, hk, rfl, hR, hb⟩ := hrel
    by_cases hlt2 : k < zs.length
    · obtain ⟨x, hx⟩ := getOf hlt2
      obtain ⟨b, off, rfl, hc⟩ := (h.below hb (Nat.le_refl _)).cell hx
      have CL := Lib.hid (fun w => isGap_any x w)
      have H := Lib.hid (And.intro h (And.intro hc hx))
      obtain ⟨q, hq⟩ : ∃ q, inB 1 2000000 x = q := ⟨_, rfl⟩
      rw [hq] at CL
      have HQ := Lib.hid hq; clear hq h hx
      cases q with
      | false =>
        have HR := Lib.hid (show gapsB zs = false from List.all_eq_false.2 ⟨x, List.mem_of_getElem? H.out.2.2, by rw [HQ.out]; simp⟩)
        go_wp2_with fail
        refine (CL.out _).mono ?_
        rintro e_ w1 ⟨rfl, hb1⟩
        go_wp2
        go_ret
        exact ⟨ret_bool HR.out.symm, hb.trans (hb1.mono hb.size)⟩
      | true =>
        go_wp2_with fail
        refine (CL.out _).mono ?_
        rintro e_ w1 ⟨rfl, hb1⟩
        clear hc
        go_wp2
        go_roundw
        case rel => exact ⟨k + 1, by omega, by go_num, by unfold Hid gapsB; rw [List.take_add_one, H.out.2.2, List.all_append]; have := hR.out; unfold gapsB at this; rw [this]; simp [HQ.out], hb.trans (hb1.mono hb.size)⟩
        case measure => simp [intOf]; omega
    · obtain rfl : k = zs.length := by omega
      have HR := Lib.hid (show gapsB zs = true by have := hR.out; rwa [List.take_length] at this)
      go_wp2
      go_ret
      exact ⟨ret_bool HR.out.symm, hb⟩
set_option maxHeartbeats 4000000 in
theorem putNumber_any (B b : Nat) (l : List UInt8) (n : Nat) (w : World) (h : Bld B b l w) (hn : n ≤ 8000001) (hl : l.length ≤ 1000000) (hBw : B ≤ w.heap.size) :
    Calls Try.prog 57 #[.pointer (some ⟨b, 0, none⟩), .int .i64 (n : Int)] w fun e w' => e = .returned (.tuple #[]) ∧ Bld B b (l ++ numU n) w' ∧ Below B w w' := by
  have hlen := numU_len5 hn
  go_enter Try.func57, Try.ntmps57
  go_wp2
  go_loopw [1] (fun i wr => ∃ (m : Nat) (d : List UInt8), i = .int .i64 (m : Int) ∧ m ≤ 8000001 ∧ Hid (d ++ numU m = l ++ numU n) ∧ Bld B b d wr ∧ Below B w wr) (fun i _ => (intOf i).toNat)
  case atStart => exact ⟨n, l, rfl, hn, by unfold Hid; rfl, h, Below.refl _ _⟩
  case round =>
    obtain ⟨m, d, rfl, hm, hR, hB, hb⟩ := hrel
    have hsz := hb.size
    have hdl : d.length < 2147483648 := by
      have h1 := congrArg List.length hR.out
      simp only [List.length_append] at h1
      omega
    by_cases hlt : m < 128
    · have hge : ¬ (128 : Int) ≤ (m : Int) := by omega
      have hwr := u8_of_nat (n := m) (by omega)
      have HF := Lib.hid (show d ++ [(m : Int).toNat.toUInt8] = l ++ numU n by rw [← hR.out, numU_small hlt]; simp)
      go_wp2_with (go_at_call 75; refine (writeByte_any B b d (m : Int) _ (by omega) (by omega) hB hdl (by omega)).mono ?_; rintro e w1 ⟨rfl, hB1, hb1⟩)
      rw [HF.out] at hB1
      go_wp2
      go_end0
      exact ⟨rfl, hB1, hb.trans hb1⟩
    · have hge : (128 : Int) ≤ (m : Int) := by omega
      have hq1 : (m : Int).tmod 128 = ((m % 128 : Nat) : Int) := by rw [Int.tmod_eq_emod_of_nonneg (by omega)]; omega
      have hq2 : (m : Int).tdiv 128 = ((m / 128 : Nat) : Int) := by rw [Int.tdiv_eq_ediv_of_nonneg (by omega)]; omega
      have hwr : IntKind.u8.wrap (((m % 128 : Nat) : Int) + 128) = ((m % 128 + 128 : Nat) : Int) := by rw [show (((m % 128 : Nat) : Int) + 128) = ((m % 128 + 128 : Nat) : Int) by omega]; exact u8_of_nat (by omega)
      have HF := Lib.hid (show (d ++ [((m % 128 + 128 : Nat) : Int).toNat.toUInt8]) ++ numU (m / 128) = l ++ numU n by rw [← hR.out, numU_great hlt, Int.toNat_natCast, List.append_assoc]; rfl)
      obtain ⟨r, hr⟩ : ∃ r, m % 128 = r := ⟨_, rfl⟩
      obtain ⟨q, hq⟩ : ∃ q, m / 128 = q := ⟨_, rfl⟩
      rw [hr] at hq1 hwr HF
      rw [hq] at hq2 HF
      have hrb : r < 128 := by omega
      have hqb : q < m := by omega
      clear hr hq
      go_wp2_with (go_at_call 75; refine (writeByte_any B b d ((r + 128 : Nat) : Int) _ (by omega) (by omega) hB hdl (by omega)).mono ?_; rintro e w1 ⟨rfl, hB1, hb1⟩)
      go_roundw
      case rel => exact ⟨q, d ++ [((r + 128 : Nat) : Int).toNat.toUInt8], rfl, by omega, HF, hB1, hb.trans hb1⟩
      case measure => simp [intOf]; omega
set_option maxHeartbeats 4000000 in
theorem packGaps_any (a : Option Addr) (c : Nat) (zs : List Int) (hl : zs.length ≤ 1048576) (w : World) (h : SlA w a zs) :
    Calls Try.prog 26 #[.slice a zs.length c] w fun e w' => e = .returned (.tuple #[.string (gapsStr zs), .bool (gapsOk zs)]) ∧ Below w.heap.size w w' := by
  unfold gapsStr
  by_cases h4 : zs.length ≤ 4000
  · have EV := Lib.hid (fun w' (hb : Below w.heap.size w w') => everyGap_any a zs c w' hl (h.below hb (Nat.le_refl _)))
    have hlt0 : ¬ (4000 : Int) < (zs.length : Int) := by omega
    cases hg : gapsB zs with
    | false =>
      rw [hg] at EV
      have e : gapsOk zs = false := by unfold gapsOk; rw [hg]; simp
      rw [e, if_neg (by simp)]
      clear h
      go_enter Try.func26, Try.ntmps26
      go_wp2_with fail
      refine (EV.out _ (Below.refl _ _)).mono ?_
      rintro e w1 ⟨rfl, hb⟩
      go_wp2
      go_ret2
      exact ⟨rfl, hb⟩
    | true =>
      rw [hg] at EV
      have e : gapsOk zs = true := by unfold gapsOk; rw [hg]; simp [h4]
      rw [e, if_pos rfl]
      have HG := Lib.hid hg; clear hg e
      go_enter Try.func26, Try.ntmps26
      go_wp2_with fail
      refine (EV.out _ (Below.refl _ _)).mono ?_
      rintro e w1 ⟨rfl, hb⟩
      have h1 := h.below hb (Nat.le_refl _)
      have hz := hb.size
      go_wp2
      go_loopw [5, 7, 18] (fun bf _ i wr => ∃ (k : Nat) (l : List UInt8), k ≤ zs.length ∧ i = .int .i64 k ∧ bf = .int .i64 (gapWas zs k) ∧ Hid (l = gapsTo zs k) ∧ l.length ≤ 4 * k ∧ Bld w1.heap.size w1.heap.size l wr ∧ Below w1.heap.size w1 wr) (fun _ _ i _ => zs.length - (intOf i).toNat)
      case atStart => exact ⟨0, [], Nat.zero_le _, rfl, rfl, by unfold Hid; rfl, by simp, Bld.fresh w1, (Below.refl _ _).alloc (Nat.le_refl _) _⟩
      case round =>
        obtain ⟨k, l, hk, rfl, rfl, hR, hll, hB, hb1⟩ := hrel
        by_cases hlt2 : k < zs.length
        · obtain ⟨x, hx⟩ := getOf hlt2
          obtain ⟨b, off, rfl, hc⟩ := (h1.below hb1 (Nat.le_refl _)).cell hx
          have hb0 := gapWas_bd HG.out k
          have hx0 := gap_bd HG.out hx
          have hs := gapsTo_succ zs k
          have hws := gapWas_succ hx
          unfold gapAt at hs
          rw [List.getD_eq_getElem?_getD, hx, Option.getD_some] at hs
          generalize gapWas zs k = p at hs hb0 ⊢
          have NO := Lib.hid (fun w => numberOf_any (x - p) (by omega) (by omega) w)
          obtain ⟨n, hn⟩ : ∃ n, numOf (x - p) = n := ⟨_, rfl⟩
          have hn1 : n ≤ 8000001 := by rw [← hn]; unfold numOf; split <;> omega
          rw [hn] at hs NO
          have hn4 := numU_len5 hn1
          have PN := Lib.hid (fun w1' hb9 hsz9 => putNumber_any w1.heap.size w1.heap.size l n w1' hb9 hn1 (by omega) hsz9)
          have H := Lib.hid (And.intro h1 (And.intro h (And.intro hs hws)))
          have hsub : IntKind.i64.wrap (x - p) = x - p := IntWalk.i64_in _ (by omega)
          have hs1 := hb1.size
          clear h1 h hs hws hx hn
          go_wp2_with fail
          refine (NO.out _).mono ?_
          rintro e w2 ⟨rfl, rfl⟩
          go_wp2_with fail
          refine (PN.out _ hB hs1).mono ?_
          rintro e w2 ⟨rfl, hB2, hb2⟩
          clear hc
          go_wp2
          go_roundw
          case rel => exact ⟨k + 1, l ++ numU n, by omega, by go_num, by rw [H.out.2.2.2], by unfold Hid; rw [H.out.2.2.1, hR.out], by rw [List.length_append]; omega, hB2, hb1.trans hb2⟩
          case measure => simp [intOf]; omega
        · obtain rfl : k = zs.length := by omega
          go_wp2_with (go_at_call 59; refine (Try.Builder_String_any w1.heap.size w1.heap.size l _ hB hb1.size).mono ?_; rintro e w2 ⟨rfl, hb2⟩)
          go_ret2
          refine ⟨?_, hb.trans ((hb1.trans hb2).mono hz)⟩
          rw [hR.out]
          rfl
  · have hlt0 : (4000 : Int) < (zs.length : Int) := by omega
    have e : gapsOk zs = false := by unfold gapsOk; simp [h4]
    rw [e, if_neg (by simp)]
    clear h e
    go_enter Try.func26, Try.ntmps26
    go_wp2
    go_ret2
    exact ⟨rfl, Below.refl _ _⟩
end Go.Proofs.Ytogoklgppepbjaa
