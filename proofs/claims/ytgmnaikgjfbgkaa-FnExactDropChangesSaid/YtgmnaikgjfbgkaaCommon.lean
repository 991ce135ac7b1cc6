/- slices.BinarySearch at []int64, spec.l00Has, impl.CommonChanges, spec.CommonChanges -/
import Derived.Test.YtgmnaikgjfbgkaaChangesOf
import Derived.Test.YtgmnaikgjfbgkaaSpecChanges
namespace Go.Proofs.Ytgmnaikgjfbgkaa
open Go.RowKit
set_option linter.unusedVariables false
/-- i is where t stands, or would stand, among the rising numbers. -/
structure IsLB (ys : List Int) (t : Int) (i : Nat) : Prop where
  le : i ≤ ys.length
  before : ∀ (j : Nat) (y : Int), j < i → ys[j]? = some y → y < t
  from_ : ∀ (j : Nat) (y : Int), i ≤ j → ys[j]? = some y → t ≤ y
def Rises (ys : List Int) : Prop := ∀ (i j : Nat) (x y : Int), i < j → ys[i]? = some x → ys[j]? = some y → x < y
theorem IsLB.unique {ys : List Int} {t : Int} {i k : Nat} (h : IsLB ys t i) (h' : IsLB ys t k) : i = k := by
  rcases Nat.lt_trichotomy i k with c | c | c
  · obtain ⟨x, hx⟩ : ∃ x, ys[i]? = some x := getOf (Nat.lt_of_lt_of_le c h'.le)
    have := h.from_ i _ (Nat.le_refl _) hx
    have := h'.before i _ c hx
    omega
  · exact c
  · obtain ⟨x, hx⟩ : ∃ x, ys[k]? = some x := getOf (Nat.lt_of_lt_of_le c h.le)
    have := h'.from_ k _ (Nat.le_refl _) hx
    have := h.before k _ c hx
    omega
/-- Is the number among them? -/
def hasB (ys : List Int) (t : Int) : Bool := ys.contains t
theorem hasB_yes {ys : List Int} {t : Int} {k : Nat} (h : ys[k]? = some t) : hasB ys t = true := by
  unfold hasB; simpa using List.mem_of_getElem? h
theorem hasB_no {ys : List Int} {t : Int} (h : (ys.take ys.length).contains t = false) : hasB ys t = false := by
  unfold hasB; rw [List.take_length] at h; exact h
theorem IsLB.found {ys : List Int} {t : Int} {i : Nat} (hr : Rises ys) (h : IsLB ys t i) : hasB ys t = (ys[i]? == some t) := by
  unfold hasB
  rw [Bool.eq_iff_iff]
  simp only [List.contains_iff_mem, beq_iff_eq]
  constructor
  · intro hm
    obtain ⟨k, hk⟩ := List.getElem?_of_mem hm
    rcases Nat.lt_trichotomy k i with c | c | c
    · have := h.before k t c hk; omega
    · rw [← c]; exact hk
    · have hi : i < ys.length := by have := (List.getElem?_eq_some_iff.1 hk).1; omega
      have hx : ys[i]? = some ys[i] := List.getElem?_eq_getElem hi
      have h1 := h.from_ i _ (Nat.le_refl _) hx
      have h2 := hr i k _ _ c hx hk
      omega
  · exact fun h => List.mem_of_getElem? h
set_option maxHeartbeats 400000 in
theorem isNaN_any (a : Int) (w : World) :
    Calls Try.prog 102 #[.int .i64 a] w fun e w' => e = .returned (.bool false) ∧ w = w' := by
  have e1 : (a != a) = false := by simp
  go_enter Try.func102, Try.ntmps102
  go_wp2
  go_ret
  exact ⟨rfl, rfl⟩
set_option maxHeartbeats 400000 in
theorem cmpNaN_any (a : Int) (w : World) :
    Calls Try.prog 119 #[.int .i64 a] w fun e w' => e = .returned (.bool false) ∧ w = w' := by
  have e1 : (a != a) = false := by simp
  go_enter Try.func119, Try.ntmps119
  go_wp2
  go_ret
  exact ⟨rfl, rfl⟩
set_option maxHeartbeats 400000 in
theorem cmpLess_any (a b : Int) (w : World) :
    Calls Try.prog 101 #[.int .i64 a, .int .i64 b] w fun e w' => e = .returned (.bool (decide (a < b))) ∧ w = w' := by
  by_cases h : a < b
  all_goals
    go_enter Try.func101, Try.ntmps101
    go_wp2_with (go_at_call 119; refine (cmpNaN_any _ _).mono ?_; rintro e w' ⟨rfl, rfl⟩)
    go_ret
    exact ⟨ret_bool (by simp [h]), rfl⟩
set_option maxHeartbeats 400000 in
theorem l00Has_any (a : Option Addr) (zs : List Int) (d : Nat) (t : Int) (w : World) (hl : zs.length ≤ 1048576) (h : SlA w a zs) :
    Calls Try.prog 72 #[.slice a zs.length d, .int .i64 t] w fun e w' => e = .returned (.bool (hasB zs t)) ∧ w = w' := by
  have H := Lib.hid h; clear h
  go_enter Try.func72, Try.ntmps72
  go_wp2
  go_loop [5] (fun i => ∃ k : Nat, k ≤ zs.length ∧ i = .int .i64 k ∧ Hid ((zs.take k).contains t = false)) (fun i => zs.length - (intOf i).toNat)
  case atStart => exact ⟨0, Nat.zero_le _, rfl, Lib.hid (by simp)⟩
  case round =>
    obtain ⟨k, hk, rfl, hn⟩ := hrel
    by_cases hlt : k < zs.length
    · obtain ⟨x, hx⟩ := getOf hlt
      obtain ⟨b, off, rfl, hcx⟩ := H.out.cell hx
      have HX := Lib.hid hx; clear hx
      by_cases hxt : x = t
      · subst hxt
        have HE := Lib.hid (hasB_yes HX.out)
        go_wp2
        go_ret
        exact ⟨ret_bool HE.out.symm, rfl⟩
      · have he : (x == t) = false := by simpa using hxt
        clear hxt
        go_wp2
        go_round
        case rel => exact ⟨k + 1, by omega, by go_num, Lib.hid (by rw [List.take_add_one, HX.out]; have := hn.out; simp at this he ⊢; exact ⟨this, fun h => he h.symm⟩)⟩
        case measure => simp [intOf]; omega
    · obtain rfl : k = zs.length := by omega
      clear H
      go_wp2
      go_ret
      exact ⟨ret_bool (hasB_no hn.out).symm, rfl⟩
theorem lb_start (ys : List Int) (t : Int) : (∀ (j : Nat) (y : Int), j < 0 → ys[j]? = some y → y < t) ∧ (∀ (j : Nat) (y : Int), ys.length ≤ j → ys[j]? = some y → t ≤ y) :=
  ⟨fun j y h => by omega, fun j y h hy => by have := (List.getElem?_eq_some_iff.1 hy).1; omega⟩
set_option maxHeartbeats 2000000 in
set_option maxRecDepth 1000000 in
theorem bsearch_any (a : Option Addr) (ys : List Int) (d : Nat) (t : Int) (w : World) (hl : ys.length ≤ 1048576) (hr : Rises ys) (h : SlA w a ys) :
    Calls Try.prog 73 #[.slice a ys.length d, .int .i64 t] w fun e w' => (∃ i : Nat, IsLB ys t i ∧ e = .returned (.tuple #[.int .i64 (i : Int), .bool (hasB ys t)])) ∧ ∃ q, w' = w.drewN q := by
  have H := Lib.hid (And.intro h hr); clear h hr
  go_enter Try.func73, Try.ntmps73
  go_wp2
  go_loopw [7, 8] (fun p q wr => ∃ i j n : Nat, i ≤ j ∧ j ≤ ys.length ∧ p = .int .i64 (i : Int) ∧ q = .int .i64 (j : Int) ∧ wr = w.drewN n ∧ Hid ((∀ (j : Nat) (y : Int), j < i → ys[j]? = some y → y < t) ∧ (∀ (k : Nat) (y : Int), j ≤ k → ys[k]? = some y → t ≤ y))) (fun p q _ => (intOf q).toNat - (intOf p).toNat)
  case atStart => exact ⟨0, ys.length, 0, Nat.zero_le _, Nat.le_refl _, rfl, rfl, rfl, Lib.hid (lb_start ys t)⟩
  case round =>
    obtain ⟨i, j, q, hij, hj, rfl, rfl, rfl, hn⟩ := hrel
    by_cases hlt : i < j
    · have e1 : (i : Int) < (j : Int) := by omega
      have hmn : (i + j) / 2 < ys.length := by omega
      obtain ⟨y, hy⟩ := getOf hmn
      obtain ⟨b, off, rfl, hcx⟩ := H.out.1.cell hy
      have HY := Lib.hid hy; clear hy
      by_cases hyt : y < t
      · go_wp2_with (go_at_call 101; refine (cmpLess_any _ _ _).mono ?_; rintro e w' ⟨rfl, rfl⟩)
        go_roundw
        case rel =>
          refine ⟨(i + j) / 2 + 1, j, _, by omega, hj, by rw [show ((i : Int) + (j : Int)) / 2 + 1 = (((i + j) / 2 + 1 : Nat) : Int) by omega], rfl, rfl, Lib.hid ⟨fun k x hk hx => ?_, hn.out.2⟩⟩
          by_cases e : k = (i + j) / 2
          · subst e; rw [HY.out] at hx; cases hx; exact hyt
          · have := H.out.2 k _ x y (by omega) hx HY.out; omega
        case measure => simp [intOf]; omega
      · go_wp2_with (go_at_call 101; refine (cmpLess_any _ _ _).mono ?_; rintro e w' ⟨rfl, rfl⟩)
        go_roundw
        case rel =>
          refine ⟨i, (i + j) / 2, _, by omega, by omega, rfl, by rw [show ((i : Int) + (j : Int)) / 2 = (((i + j) / 2 : Nat) : Int) by omega], rfl, Lib.hid ⟨hn.out.1, fun k x hk hx => ?_⟩⟩
          by_cases e : k = (i + j) / 2
          · subst e; rw [HY.out] at hx; cases hx; omega
          · have := H.out.2 _ k y x (by omega) HY.out hx; omega
        case measure => simp [intOf]; omega
    · obtain rfl : i = j := by omega
      have hlb : IsLB ys t i := ⟨hj, hn.out.1, hn.out.2⟩
      have HF := Lib.hid (hlb.found H.out.2)
      have HL := Lib.hid hlb; clear hlb
      by_cases hin : i < ys.length
      · obtain ⟨y, hy⟩ := getOf hin
        obtain ⟨b, off, rfl, hcx⟩ := H.out.1.cell hy
        have HY := Lib.hid hy; clear hy
        have e1 : (i : Int) < (ys.length : Int) := by omega
        have d1 : decide ((i : Int) < (ys.length : Int)) = true := by simpa using hin
        have d1' : decide (i < ys.length) = true := by simpa using hin
        by_cases hyt : y = t
        · have e2 : (y == t) = true := by simpa using hyt
          have HE := Lib.hid (show hasB ys t = true by rw [HF.out, HY.out]; simpa using hyt)
          clear hyt
          go_wp2
          go_ret2
          exact ⟨⟨i, HL.out, by rw [HE.out]; rfl⟩, _, rfl⟩
        · have e2 : (y == t) = false := by simpa using hyt
          have HE := Lib.hid (show hasB ys t = false by rw [HF.out, HY.out]; simpa using hyt)
          clear hyt
          go_wp2_with (go_at_call 102; refine (isNaN_any _ _).mono ?_; rintro e w' ⟨rfl, rfl⟩)
          go_ret2
          exact ⟨⟨i, HL.out, by rw [HE.out]; rfl⟩, _, rfl⟩
      · have d1 : decide ((i : Int) < (ys.length : Int)) = false := by simpa using hin
        have d1' : decide (i < ys.length) = false := by simpa using hin
        have HE := Lib.hid (show hasB ys t = false by rw [HF.out]; have : ys[i]? = none := by simp; omega
                                                      rw [this]; rfl)
        go_wp2
        go_ret2
        exact ⟨⟨i, HL.out, by rw [HE.out]; rfl⟩, _, rfl⟩
/-- How many changes two fluxes have at the same times. -/
def commonTo (xs ys : List Int) (k : Nat) : Int := (((xs.take k).filter (hasB ys)).length : Int)
def commonVal (c0 f0 : Int) (xs0 : List Int) (c1 f1 : Int) (xs1 : List Int) : Int := commonTo (chgVal c0 f0 xs0) (chgVal c1 f1 xs1) (chgVal c0 f0 xs0).length
theorem commonTo_zero (xs ys : List Int) : commonTo xs ys 0 = 0 := by simp [commonTo]
theorem commonTo_nil (ys : List Int) (k : Nat) : commonTo [] ys k = 0 := by simp [commonTo]
theorem commonTo_succ {xs ys : List Int} {k : Nat} {x : Int} (h : xs[k]? = some x) : commonTo xs ys (k + 1) = commonTo xs ys k + (if hasB ys x = true then 1 else 0) := by
  unfold commonTo
  rw [List.take_add_one, h]
  by_cases c : hasB ys x = true <;> simp [c]
theorem commonTo_bd (xs ys : List Int) (k : Nat) : 0 ≤ commonTo xs ys k ∧ commonTo xs ys k ≤ (k : Int) := by
  unfold commonTo
  have h1 := List.length_filter_le (hasB ys) (xs.take k)
  have h2 : (xs.take k).length ≤ k := List.length_take_le _ _
  omega
theorem commonTo_none (xs : List Int) (k : Nat) : commonTo xs [] k = 0 := by
  induction xs generalizing k with
  | nil => exact commonTo_nil _ _
  | cons x xs ih =>
    unfold commonTo
    have : (fun t => hasB [] t) = fun _ => false := by funext t; rfl
    have h : (hasB [] : Int → Bool) = fun _ => false := this
    rw [h]; simp
theorem rises_chg (c f : Int) (zs : List Int) : Rises (chgVal c f zs) := by
  unfold chgVal
  split
  · rename_i hv
    obtain ⟨_, _, hz, _⟩ := fluxOk_iff.1 hv
    intro i j x y hij hx hy
    have hj : j < zs.length := by have := (List.getElem?_eq_some_iff.1 hy).1; rw [timesOf_length] at this; exact this
    rw [timesOf_at f zs i (by omega)] at hx
    rw [timesOf_at f zs j hj] at hy
    cases hx; cases hy
    have : ∀ d, i + 1 + d ≤ zs.length → tAt f zs i < tAt f zs (i + 1 + d) := by
      intro d
      induction d with
      | zero =>
        intro h
        have hx : zs[i]? = some zs[i] := List.getElem?_eq_getElem (by omega)
        have := bd_of_all hz hx
        rw [tAt_succ (f := f) hx]; omega
      | succ d ih =>
        intro h
        have h1 := ih (by omega)
        have hx : zs[i + 1 + d]? = some zs[i + 1 + d] := List.getElem?_eq_getElem (by omega)
        have := bd_of_all hz hx
        rw [show i + 1 + (d + 1) = (i + 1 + d) + 1 by omega, tAt_succ (f := f) hx]; omega
    have h := this (j - (i + 1)) (by omega)
    rwa [show i + 1 + (j - (i + 1)) = j by omega] at h
  · intro i j x y hij hx; simp at hx
set_option maxHeartbeats 2000000 in
theorem commonChanges_any (c0 f0 : Int) (s0 : Option Addr) (cap0 : Nat) (xs0 : List Int) (c1 f1 : Int) (s1 : Option Addr) (cap1 : Nat) (xs1 : List Int) (hl0 : xs0.length ≤ 1048576) (hl1 : xs1.length ≤ 1048576) (w : World) (h0 : SlA w s0 xs0) (h1 : SlA w s1 xs1) :
    Calls Try.prog 26 #[.agg #[.int .i64 c0, .int .i64 f0, .slice s0 xs0.length cap0], .agg #[.int .i64 c1, .int .i64 f1, .slice s1 xs1.length cap1]] w fun e w' => e = .returned (.int .i64 (commonVal c0 f0 xs0 c1 f1 xs1)) ∧ Below w.heap.size w w' := by
  have C0 := Lib.hid (fun w' (hb : Below w.heap.size w w') => changesOf_any c0 f0 s0 cap0 xs0 hl0 w' (h0.below hb (Nat.le_refl _)))
  have C1 := Lib.hid (fun w' (hb : Below w.heap.size w w') => changesOf_any c1 f1 s1 cap1 xs1 hl1 w' (h1.below hb (Nat.le_refl _)))
  have hr := rises_chg c1 f1 xs1
  have hlx := chgVal_len c0 f0 xs0 hl0
  have hly := chgVal_len c1 f1 xs1 hl1
  have BX := Lib.hid (FluxAt.new w c0 f0 s0 xs0.length cap0 39 w.heap.size rfl)
  unfold commonVal
  generalize chgVal c0 f0 xs0 = xs at C0 hlx ⊢
  generalize chgVal c1 f1 xs1 = ys at C1 hr hly ⊢
  have HR := Lib.hid hr
  clear h0 h1 hr
  go_enter Try.func26, Try.ntmps26
  go_wp2_with fail
  refine (C1.out _ (by go_grown)).mono ?_
  rintro e w1 ⟨a1, d1, rfl, hs1, hb1⟩
  have hz1 := hb1.size
  have FB1 := Lib.hid (show Below w.heap.size w w1 from Below.trans (by go_grown) (hb1.mono (by simp; omega)))
  obtain ⟨x0, x1, x2⟩ := (BX.out.below (Below.alloc (Below.refl _ _) (Nat.le_refl _) (.cells #[.int .i64 c1, .int .i64 f1, .slice s1 xs1.length cap1] 39)) (by simp)).below hb1 (by simp; omega)
  have S1 := Lib.hid hs1.sl
  clear hb1 hs1
  go_wp2_with fail
  refine (C0.out _ FB1.out).mono ?_
  rintro e w2 ⟨a2, d2, rfl, hs2, hb2⟩
  have FB2 := Lib.hid (show Below w.heap.size w w2 from FB1.out.trans (hb2.mono FB1.out.size))
  have S2 := Lib.hid hs2.sl
  have S3 := Lib.hid (S1.out.below hb2 (Nat.le_refl _))
  clear hb2 hs2 x0 x1 x2 hz1 C0 C1 BX S1
  have BS := Lib.hid (fun w' t (h : SlA w' a1 ys) => bsearch_any a1 ys d1 t w' hly HR.out h)
  go_wp2
  go_loopw [5, 16] (fun s i wr => ∃ (k q : Nat), k ≤ xs.length ∧ i = .int .i64 (k : Int) ∧ s = .int .i64 (commonTo xs ys k) ∧ wr = w2.drewN q) (fun _ i _ => xs.length - (intOf i).toNat)
  case atStart => exact ⟨0, 0, Nat.zero_le _, rfl, by rw [commonTo_zero], rfl⟩
  case round =>
    obtain ⟨k, q, hk, rfl, rfl, rfl⟩ := hrel
    by_cases hlt : k < xs.length
    · obtain ⟨x, hx⟩ := getOf hlt
      have S2q := Lib.hid (show SlA (w2.drewN q) a2 xs from S2.out)
      have S3q := Lib.hid (show SlA (w2.drewN q) a1 ys from S3.out)
      obtain ⟨b, off, rfl, hcx⟩ := S2.out.cell hx
      have hbd := commonTo_bd xs ys k
      have HS := Lib.hid (commonTo_succ (ys := ys) hx)
      obtain ⟨m, hm⟩ : ∃ m, commonTo xs ys k = m := ⟨_, rfl⟩
      rw [hm] at hbd ⊢
      have hm0 := hbd.1
      have hm1 := hbd.2
      have HM := Lib.hid hm
      obtain ⟨g, hg⟩ : ∃ g, hasB ys x = g := ⟨_, rfl⟩
      rw [hg] at HS
      have BQ := Lib.hid (BS.out _ x S3q.out)
      rw [hg] at BQ
      clear hbd hm hg hx
      cases g
      · go_wp2_with (go_at_call 73; refine (BQ.out).mono ?_; rintro e w' ⟨⟨i, hi, rfl⟩, q', rfl⟩)
        go_roundw
        case rel => exact ⟨k + 1, _, by omega, by go_num, by rw [HS.out, HM.out]; simp, rfl⟩
        case measure => simp [intOf]; omega
      · go_wp2_with (go_at_call 73; refine (BQ.out).mono ?_; rintro e w' ⟨⟨i, hi, rfl⟩, q', rfl⟩)
        go_roundw
        case rel => exact ⟨k + 1, _, by omega, by go_num, by rw [HS.out, HM.out]; simp, rfl⟩
        case measure => simp [intOf]; omega
    · obtain rfl : k = xs.length := by omega
      go_wp2
      go_ret
      exact ⟨rfl, below_drewN FB2.out _⟩
end Go.Proofs.Ytgmnaikgjfbgkaa
