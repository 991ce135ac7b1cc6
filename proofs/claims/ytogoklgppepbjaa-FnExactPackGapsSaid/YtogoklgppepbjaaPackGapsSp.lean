/- spec.l14Gaps, l14PackGaps, PackGaps -/
import Derived.Test.YtogoklgppepbjaaGapsVal
import Derived.Test.YtogoklgppepbjaaSpecDigits
namespace Go.Proofs.Ytogoklgppepbjaa
open Go.RowKit
set_option linter.unusedVariables false
set_option linter.unusedSimpArgs false
set_option maxRecDepth 20000
set_option maxHeartbeats 2000000 in
theorem l14Gaps_any (a : Option Addr) (zs : List Int) (c : Nat) (w : World) (hm : zs.length ≤ 1048576) (h : SlA w a zs) :
    Calls Try.prog 53 #[.slice a zs.length c] w fun x w' => x = .returned (.bool (gapsOk zs)) ∧ Below w.heap.size w w' := by
  go_enter Try.func53, Try.ntmps53
  go_wp2
  go_loopw [3] (fun i wr => ∃ (k : Nat), k ≤ zs.length ∧ i = .int .i64 k ∧ Hid (gapsB (zs.take k) = true) ∧ Below w.heap.size w wr) (fun i _ => zs.length - (intOf i).toNat)
  case atStart => exact ⟨0, Nat.zero_le _, rfl, by unfold Hid; rfl, Below.refl _ _⟩
  case round =>
    obtain ⟨k, hk, rfl, hR, hb⟩ := hrel
    by_cases hlt2 : k < zs.length
    · obtain ⟨x, hx⟩ := getOf hlt2
      obtain ⟨b, off, rfl, hc⟩ := (h.below hb (Nat.le_refl _)).cell hx
      have CL := Lib.hid (fun w => l00In_any x 1 2000000 w)
      have H := Lib.hid (And.intro h (And.intro hc hx))
      obtain ⟨q, hq⟩ : ∃ q, inB 1 2000000 x = q := ⟨_, rfl⟩
      rw [hq] at CL
      have HQ := Lib.hid hq; clear hq h hx
      cases q with
      | false =>
        have HR := Lib.hid (show gapsOk zs = false by unfold gapsOk; rw [show gapsB zs = false from List.all_eq_false.2 ⟨x, List.mem_of_getElem? H.out.2.2, by rw [HQ.out]; simp⟩]; simp)
        go_wp2_with fail
        refine (CL.out _).mono ?_
        rintro e_ w1 ⟨rfl, rfl⟩
        go_wp2
        go_ret
        exact ⟨ret_bool HR.out.symm, hb⟩
      | true =>
        go_wp2_with fail
        refine (CL.out _).mono ?_
        rintro e_ w1 ⟨rfl, rfl⟩
        clear hc
        go_wp2
        go_roundw
        case rel => exact ⟨k + 1, by omega, by go_num, by unfold Hid gapsB; rw [List.take_add_one, H.out.2.2, List.all_append]; have := hR.out; unfold gapsB at this; rw [this]; simp [HQ.out], hb⟩
        case measure => simp [intOf]; omega
    · obtain rfl : k = zs.length := by omega
      have HR := Lib.hid (show gapsB zs = true by have := hR.out; rwa [List.take_length] at this)
      go_wp2
      go_ret
      exact ⟨ret_bool (by unfold gapsOk; rw [HR.out]; simp; omega), hb⟩
set_option maxHeartbeats 8000000 in
theorem l14PackGaps_any (a : Option Addr) (zs : List Int) (c : Nat) (w : World) (hm : zs.length ≤ 4000) (hg : gapsB zs = true) (h : SlA w a zs) :
    Calls Try.prog 54 #[.slice a zs.length c] w fun x w' => x = .returned (.string ⟨(gapsTo zs zs.length).toArray⟩) ∧ Below w.heap.size w w' := by
  have HG := Lib.hid hg; clear hg
  go_enter Try.func54, Try.ntmps54
  go_wp2
  go_loopw [3, 4, 5, 6] (fun v p i _ wr => ∃ (k : Nat) (l : List UInt8), k ≤ zs.length ∧ i = .int .i64 k ∧ p = .int .i64 (gapWas zs k) ∧ Hid (l = gapsTo zs k) ∧ l.length ≤ 4 * k ∧ OwnB wr w.heap.size v l ∧ Below w.heap.size w wr) (fun _ _ i _ _ => zs.length - (intOf i).toNat)
  case atStart => exact ⟨0, [], Nat.zero_le _, rfl, rfl, by unfold Hid; rfl, by simp, OwnB.nil w _ (Nat.le_refl _), (Below.refl _ _).alloc (Nat.le_refl _) _⟩
  case round =>
    obtain ⟨k, l, hk, rfl, rfl, hR, hll, hown, hb⟩ := hrel
    have hsz := hb.size
    by_cases hlt2 : k < zs.length
    · obtain ⟨x, hx⟩ := getOf hlt2
      have hcW := fun W (hW : Below w.heap.size w W) => (h.below hW (Nat.le_refl _)).cell hx
      obtain ⟨b, off, rfl, hc⟩ := hcW _ hb
      have hb0 := gapWas_bd HG.out k
      have hx0 := gap_bd HG.out hx
      have hs := gapsTo_succ zs k
      have hws := gapWas_succ hx
      unfold gapAt at hs
      rw [List.getD_eq_getElem?_getD, hx, Option.getD_some] at hs
      generalize gapWas zs k = p at hs hb0 ⊢
      obtain ⟨n, hn⟩ : ∃ n, numOf (x - p) = n := ⟨_, rfl⟩
      have hn1 : n ≤ 8000001 := by rw [← hn]; unfold numOf; split <;> omega
      have hsub : IntKind.i64.wrap (x - p) = x - p := IntWalk.i64_in _ (by omega)
      have hmul : IntKind.i64.wrap (2 * (x - p)) = 2 * (x - p) := IntWalk.i64_in _ (by omega)
      have hn4 := numU_len5 hn1
      rw [hn] at hs
      have hK : ∀ W, Below w.heap.size w W → ∃ b' off', (some ⟨b, off, none⟩ : Option Addr) = some ⟨b', off', none⟩ ∧ W.cell? ⟨b', off' + k, none⟩ = some (.int .i64 x) := hcW
      have hlow : ∀ W, Below w.heap.size w W → W.cell? ⟨b, off + k, none⟩ = some (.int .i64 x) := fun W hW => by
        obtain ⟨b', off', e, h9⟩ := hK W hW
        cases e
        exact h9
      have LOW := Lib.hid hlow
      have H := Lib.hid (And.intro h (And.intro hs (And.intro hws hx)))
      clear h hs hws hx hcW hK hlow
      by_cases hneg : x - p < 0
      all_goals
        have hN : (if x - p < 0 then -(2 * (x - p)) - 1 else 2 * (x - p)) = (n : Int) := by rw [← hn]; unfold numOf; split <;> omega
        first | rw [if_pos hneg] at hN | rw [if_neg hneg] at hN
        have HN := Lib.hid hN; clear hN hn
        go_wp2
        try rw [show decide (2 * (x - p) < 0) = true from decide_eq_true (by omega)]
        go_loopw [3, 6] (fun v i wr' => ∃ (m : Nat) (d : List UInt8), i = .int .i64 (m : Int) ∧ m ≤ 8000001 ∧ Hid (d ++ numU m = l ++ numU n) ∧ OwnB wr' w.heap.size v d ∧ Below w.heap.size w wr') (fun _ i _ => (intOf i).toNat)
        case atStart => exact ⟨n, l, by rw [HN.out], hn1, by unfold Hid; rfl, hown, hb⟩
        case round =>
          obtain ⟨m, d, rfl, hm1, hR1, hown1, hb1⟩ := hrel
          have hsz1 := hb1.size
          have hdl : d.length < 2147483648 := by
            have h1 := congrArg List.length hR1.out
            simp only [List.length_append] at h1
            omega
          by_cases hlt : m < 128
          · have hge : ¬ (128 : Int) ≤ (m : Int) := by omega
            have hwr := u8_of_nat (n := m) (by omega)
            have HF := Lib.hid (show d ++ [(m : Int).toNat.toUInt8] = l ++ numU n by rw [← hR1.out, numU_small hlt]; simp)
            go_wp2_with (at_builtin; refine wpList_appendB rfl _ _ rfl rfl (hown1.alloc _) (m : Int) (by omega) (by omega) ⟨wr.heap.size, 0, none⟩ 1 rfl (World.news_of_block (cs := #[.int .u8 (m : Int)]) (t := 5) (fr := (0, 0)) (heap_alloc_new wr _)) hdl (by simp; omega) ?_; intro g cap6 w6 hown6 _ hb6 _; have hb7 := (hb1.alloc hsz1 _).trans hb6; have hc6 := LOW.out _ hb7)
            rw [HF.out] at hown6
            clear hc6
            go_roundw
            case rel => exact ⟨k + 1, l ++ numU n, by omega, by go_num, by rw [H.out.2.2.1], by unfold Hid; rw [H.out.2.1, hR.out], by rw [List.length_append]; omega, hown6, hb7⟩
            case measure => simp [intOf]; omega
          · have hge : (128 : Int) ≤ (m : Int) := by omega
            have hq1 : (m : Int).tmod 128 = ((m % 128 : Nat) : Int) := by rw [Int.tmod_eq_emod_of_nonneg (by omega)]; omega
            have hq2 : (m : Int).tdiv 128 = ((m / 128 : Nat) : Int) := by rw [Int.tdiv_eq_ediv_of_nonneg (by omega)]; omega
            have hwr : IntKind.u8.wrap (((m % 128 : Nat) : Int) + 128) = ((m % 128 + 128 : Nat) : Int) := by rw [show (((m % 128 : Nat) : Int) + 128) = ((m % 128 + 128 : Nat) : Int) by omega]; exact u8_of_nat (by omega)
            have HF := Lib.hid (show (d ++ [((m % 128 + 128 : Nat) : Int).toNat.toUInt8]) ++ numU (m / 128) = l ++ numU n by rw [← hR1.out, numU_great hlt, Int.toNat_natCast, List.append_assoc]; rfl)
            obtain ⟨r, hr⟩ : ∃ r, m % 128 = r := ⟨_, rfl⟩
            obtain ⟨q, hq⟩ : ∃ q, m / 128 = q := ⟨_, rfl⟩
            rw [hr] at hq1 hwr HF
            rw [hq] at hq2 HF
            have hrb : r < 128 := by omega
            have hqb : q < m := by omega
            clear hr hq
            go_wp2_with (at_builtin; refine wpList_appendB rfl _ _ rfl rfl (hown1.alloc _) ((r + 128 : Nat) : Int) (by omega) (by omega) ⟨wr.heap.size, 0, none⟩ 1 rfl (World.news_of_block (cs := #[.int .u8 ((r + 128 : Nat) : Int)]) (t := 5) (fr := (0, 0)) (heap_alloc_new wr _)) hdl (by simp; omega) ?_; intro g cap6 w6 hown6 _ hb6 _; have hb7 := (hb1.alloc hsz1 _).trans hb6; have hc6 := LOW.out _ hb7)
            clear hc6
            go_roundw
            case rel => exact ⟨q, d ++ [((r + 128 : Nat) : Int).toNat.toUInt8], rfl, by omega, HF, hown6, hb7⟩
            case measure => simp [intOf]; omega
    · obtain rfl : k = zs.length := by omega
      have hcv := conv_own hown
      go_wp2
      go_ret
      refine ⟨?_, hb⟩
      rw [hR.out]
      rfl
set_option maxHeartbeats 2000000 in
theorem specPackGaps_any (a : Option Addr) (c : Nat) (zs : List Int) (hl : zs.length ≤ 1048576) (w : World) (h : SlA w a zs) :
    Calls Try.prog 24 #[.slice a zs.length c] w fun e w' => e = .returned (.tuple #[.string (gapsStr zs), .bool (gapsOk zs)]) ∧ Below w.heap.size w w' := by
  have OK := Lib.hid (fun w' (hb : Below w.heap.size w w') => l14Gaps_any a zs c w' hl (h.below hb (Nat.le_refl _)))
  unfold gapsStr
  cases hg : gapsOk zs with
  | false =>
    rw [hg] at OK
    rw [if_neg (by simp)]
    clear h hg
    go_enter Try.func24, Try.ntmps24
    go_wp2_with fail
    refine (OK.out _ (Below.refl _ _)).mono ?_
    rintro e w1 ⟨rfl, hb⟩
    go_wp2
    go_ret2
    exact ⟨rfl, hb⟩
  | true =>
    rw [hg] at OK
    have hg' := hg
    unfold gapsOk at hg'
    simp only [Bool.and_eq_true, decide_eq_true_eq] at hg'
    have PK := Lib.hid (fun w' (hb : Below w.heap.size w w') => l14PackGaps_any a zs c w' hg'.1 hg'.2 (h.below hb (Nat.le_refl _)))
    rw [if_pos rfl]
    clear h hg hg'
    generalize (ByteArray.mk (gapsTo zs zs.length).toArray) = r at PK ⊢
    go_enter Try.func24, Try.ntmps24
    go_wp2_with fail
    refine (OK.out _ (Below.refl _ _)).mono ?_
    rintro e w1 ⟨rfl, hb⟩
    go_wp2_with fail
    refine (PK.out _ hb).mono ?_
    rintro e w2 ⟨rfl, hb2⟩
    go_wp2
    go_ret2
    exact ⟨rfl, hb.trans (hb2.mono hb.size)⟩
end Go.Proofs.Ytogoklgppepbjaa
