/- impl.shiftCode, impl.BestShift; spec.BestShift -/
import Derived.Test.YtkeingpdohfmkaaBestShift
import Derived.Test.YtkeingpdohfmkaaRevOk
namespace Go.Proofs.Ytkeingpdohfmkaa
open Go.RowKit
set_option linter.unusedVariables false
set_option maxRecDepth 20000
def shCode (es : List StringV) (n : Int) : Int := if revOk es = true then (if inB 0 40 n = true then 0 else 2) else 1
def bshV (b c : ByteArray) (n : Int) : Int × Nat := if shCode [⟨b⟩, ⟨c⟩] n = 0 then bsRun b c n.toNat else (0, 0)
set_option maxHeartbeats 1000000 in
theorem shiftCode_any (a : Option Addr) (es : List StringV) (c : Nat) (n : Int) (w : World) (hm : es.length ≤ 1048576) (hs : ∀ e ∈ es, e.f0.size ≤ maxLen) (h : SlS rowString w a es) :
    Calls Try.prog 69 #[.slice a es.length c, .int .i64 n] w fun x w' => x = .returned (.int .i64 (shCode es n)) ∧ Below w.heap.size w w' := by
  have VR := Lib.hid (validRev_any a es c w hm hs h)
  have WI := Lib.hid (fun w T b hb => within_r 0 40 n w T b hb)
  unfold shCode
  obtain ⟨x, hx⟩ : ∃ x, revOk es = x := ⟨_, rfl⟩
  obtain ⟨y, hy⟩ : ∃ y, inB 0 40 n = y := ⟨_, rfl⟩
  rw [hx] at VR ⊢
  rw [hy] at WI ⊢
  clear hx hy
  cases x
  · go_enter Try.func69, Try.ntmps69
    go_wp2_with fail
    refine VR.out.mono ?_
    rintro e w1 ⟨rfl, hb1⟩
    go_wp2
    go_ret
    exact ⟨rfl, hb1⟩
  · cases y
    all_goals
      go_enter Try.func69, Try.ntmps69
      go_wp2_with fail
      refine VR.out.mono ?_
      rintro e w1 ⟨rfl, hb1⟩
      go_wp2_with fail
      refine (WI.out _ _ _ (by simp)).mono ?_
      rintro e w2 ⟨rfl, hb2⟩
      go_wp2
      go_ret
      exact ⟨rfl, hb1.trans (hb2.mono hb1.size)⟩
theorem revOk_two {b c : ByteArray} (h : revOk [⟨b⟩, ⟨c⟩] = true) : validCells b = true ∧ validCells c = true ∧ c.size = b.size := by
  unfold revOk allCells allLen len0 at h
  simp only [Bool.and_eq_true, List.all_cons, List.all_nil, Bool.and_true, List.getElem?_cons_zero, Option.map_some, Option.getD_some, decide_eq_true_eq] at h
  exact ⟨h.2.1.1, h.2.1.2, h.2.2.2⟩
theorem slTwo (w : World) (b c : ByteArray) (T : TypeId) (g : Nat) (hg : w.heap.size = g) : SlS rowString (w.alloc (.cells #[.string b, .string c] T)) (some ⟨g, 0, none⟩) [⟨b⟩, ⟨c⟩] := by
  subst hg
  refine .inr ⟨_, 0, rfl, by simp, fun i v hv => ?_⟩
  match i, hv with
  | 0, hv => simp [rowString] at hv; subst hv; simp [go_sem]
  | 1, hv => simp [rowString] at hv; subst hv; simp [go_sem]
  | i + 2, hv => simp [rowString] at hv
theorem bsh_sizes {b c : ByteArray} (hb : b.size ≤ maxLen) (hc : c.size ≤ maxLen) : ∀ e ∈ ([⟨b⟩, ⟨c⟩] : List StringV), e.f0.size ≤ maxLen := by
  intro e he
  simp at he
  rcases he with rfl | rfl
  · exact hb
  · exact hc
set_option maxHeartbeats 2000000 in
theorem bestShift_any (a0 a1 : ByteArray) (a2 : Int) (hb0 : a0.size ≤ 1048576) (hb1 : a1.size ≤ 1048576) (w : World) :
    Calls Try.prog 29 #[.string a0, .string a1, .int .i64 a2] w fun e w' => e = .returned (.tuple #[.int .i64 (bshV a0 a1 a2).1, .int .i64 (bshV a0 a1 a2).2, .int .i64 (shCode [⟨a0⟩, ⟨a1⟩] a2)]) ∧ Below w.heap.size w w' := by
  have hm0 : a0.size ≤ maxLen := by unfold maxLen; omega
  have hm1 : a1.size ≤ maxLen := by unfold maxLen; omega
  have SC := Lib.hid (fun w T g (hg : w.heap.size = g) => shiftCode_any (some ⟨g, 0, none⟩) [⟨a0⟩, ⟨a1⟩] 2 a2 (w.alloc (.cells #[.string a0, .string a1] T)) (by simp) (bsh_sizes hm0 hm1) (slTwo w a0 a1 T g hg))
  unfold bshV
  by_cases h0 : shCode [⟨a0⟩, ⟨a1⟩] a2 = 0
  · have h0' := h0
    unfold shCode at h0'
    have hr : revOk [⟨a0⟩, ⟨a1⟩] = true := by
      by_cases h : revOk [⟨a0⟩, ⟨a1⟩] = true
      · exact h
      · rw [if_neg h] at h0'; cases h0'
    rw [if_pos hr] at h0'
    have hi : inB 0 40 a2 = true := by
      by_cases h : inB 0 40 a2 = true
      · exact h
      · rw [if_neg h] at h0'; cases h0'
    obtain ⟨n0, n1⟩ := inB_iff.1 hi
    obtain ⟨n, rfl⟩ : ∃ n : Nat, a2 = n := ⟨a2.toNat, by omega⟩
    obtain ⟨v0, v1, v2⟩ := revOk_two hr
    have BS := Lib.hid (fun w => implBestShift_any a0 a1 n w v1 hm1 v2 (by omega))
    rw [h0] at SC ⊢
    rw [if_pos rfl, Int.toNat_natCast]
    obtain ⟨⟨x, d⟩, hxd⟩ : ∃ p, bsRun a0 a1 n = p := ⟨_, rfl⟩
    rw [hxd] at BS ⊢
    clear hxd h0 h0' hr hi v0 v1 v2
    go_enter Try.func29, Try.ntmps29
    go_wp2_with fail
    refine (SC.out _ _ _ rfl).mono ?_
    rintro e w1 ⟨rfl, hb1⟩
    have hB := Below.trans (show Below w.heap.size w _ from (Below.refl _ _).alloc (Nat.le_refl _) _) (hb1.mono (by simp))
    clear hb1
    go_wp2_with fail
    refine (BS.out _).mono ?_
    rintro e w2 ⟨rfl, hb2⟩
    go_wp2
    go_ret3
    exact ⟨rfl, hB.trans (hb2.mono hB.size)⟩
  · rw [if_neg h0]
    obtain ⟨k, hk⟩ : ∃ k, shCode [⟨a0⟩, ⟨a1⟩] a2 = k := ⟨_, rfl⟩
    rw [hk] at SC h0 ⊢
    have hne : (k != 0) = true := by simp [h0]
    clear hk h0
    go_enter Try.func29, Try.ntmps29
    go_wp2_with fail
    refine (SC.out _ _ _ rfl).mono ?_
    rintro e w1 ⟨rfl, hb1⟩
    go_wp2
    go_ret3
    exact ⟨rfl, Below.trans (show Below w.heap.size w _ from (Below.refl _ _).alloc (Nat.le_refl _) _) (hb1.mono (by simp))⟩
set_option maxHeartbeats 2000000 in
theorem specBestShift_any (a0 a1 : ByteArray) (a2 : Int) (hb0 : a0.size ≤ 1048576) (hb1 : a1.size ≤ 1048576) (w : World) :
    Calls Try.prog 28 #[.string a0, .string a1, .int .i64 a2] w fun e w' => e = .returned (.tuple #[.int .i64 (bshV a0 a1 a2).1, .int .i64 (bshV a0 a1 a2).2, .int .i64 (shCode [⟨a0⟩, ⟨a1⟩] a2)]) ∧ Below w.heap.size w w' := by
  have hm0 : a0.size ≤ maxLen := by unfold maxLen; omega
  have hm1 : a1.size ≤ maxLen := by unfold maxLen; omega
  have LO := Lib.hid (fun w T g (hg : w.heap.size = g) => l10Ok_any (some ⟨g, 0, none⟩) [⟨a0⟩, ⟨a1⟩] 2 (w.alloc (.cells #[.string a0, .string a1] T)) (by simp) (bsh_sizes hm0 hm1) (slTwo w a0 a1 T g hg))
  have IN := Lib.hid (fun w => l00In_any a2 0 40 w)
  unfold bshV shCode
  by_cases hr : revOk [⟨a0⟩, ⟨a1⟩] = true
  · rw [hr] at LO ⊢
    by_cases hi : inB 0 40 a2 = true
    · obtain ⟨n0, n1⟩ := inB_iff.1 hi
      obtain ⟨n, rfl⟩ : ∃ n : Nat, a2 = n := ⟨a2.toNat, by omega⟩
      obtain ⟨v0, v1, v2⟩ := revOk_two hr
      obtain ⟨s0, s1⟩ := validCells_bd v0
      have BS := Lib.hid (fun w => l10Shift_any a0 a1 n w s0 s1 v2 (by omega))
      rw [hi] at IN ⊢
      rw [if_pos rfl, if_pos rfl, if_pos rfl, Int.toNat_natCast]
      obtain ⟨⟨x, d⟩, hxd⟩ : ∃ p, bsRun a0 a1 n = p := ⟨_, rfl⟩
      rw [hxd] at BS ⊢
      clear hxd hr hi v0 v1 v2
      go_enter Try.func28, Try.ntmps28
      go_wp2_with fail
      refine (LO.out _ _ _ rfl).mono ?_
      rintro e w1 ⟨rfl, hb1⟩
      have hB := Below.trans (show Below w.heap.size w _ from (Below.refl _ _).alloc (Nat.le_refl _) _) (hb1.mono (by simp))
      clear hb1
      go_wp2_with fail
      refine (IN.out _).mono ?_
      rintro e w2 ⟨rfl, rfl⟩
      go_wp2_with fail
      refine (BS.out _).mono ?_
      rintro e w3 ⟨rfl, hb3⟩
      go_wp2
      go_ret3
      exact ⟨rfl, hB.trans (hb3.mono hB.size)⟩
    · have hi : inB 0 40 a2 = false := by simpa using hi
      rw [hi] at IN ⊢
      clear hr hi
      go_enter Try.func28, Try.ntmps28
      go_wp2_with fail
      refine (LO.out _ _ _ rfl).mono ?_
      rintro e w1 ⟨rfl, hb1⟩
      go_wp2_with fail
      refine (IN.out _).mono ?_
      rintro e w2 ⟨rfl, rfl⟩
      go_wp2
      go_ret3
      exact ⟨rfl, Below.trans (show Below w.heap.size w _ from (Below.refl _ _).alloc (Nat.le_refl _) _) (hb1.mono (by simp))⟩
  · have hr : revOk [⟨a0⟩, ⟨a1⟩] = false := by simpa using hr
    rw [hr] at LO ⊢
    rw [if_neg (show ¬ (false = true) by decide), if_neg (show ¬ ((1 : Int) = 0) by decide)]
    clear hr
    go_enter Try.func28, Try.ntmps28
    go_wp2_with fail
    refine (LO.out _ _ _ rfl).mono ?_
    rintro e w1 ⟨rfl, hb1⟩
    go_wp2
    go_ret3
    exact ⟨rfl, Below.trans (show Below w.heap.size w _ from (Below.refl _ _).alloc (Nat.le_refl _) _) (hb1.mono (by simp))⟩
end Go.Proofs.Ytkeingpdohfmkaa
