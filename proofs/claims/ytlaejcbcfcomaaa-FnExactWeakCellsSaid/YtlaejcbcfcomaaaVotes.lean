/- spec.l10Ones, spec.MajorityCells, spec.WeakCells, spec.l10Byte, spec.l10Vote, spec.VoteBytes -/
import Derived.Test.YtlaejcbcfcomaaaVoteVal
import Derived.Test.YtlaejcbcfcomaaaConv
import Derived.Test.YtlaejcbcfcomaaaSlRes
import Derived.Test.YtlaejcbcfcomaaaOwnR
import Derived.Test.YtlaejcbcfcomaaaRotateCells
namespace Go.Proofs.Ytlaejcbcfcomaaa
open Go.RowKit
set_option linter.unusedVariables false
set_option linter.unusedSimpArgs false
set_option maxRecDepth 20000
theorem byteAt (a : ByteArray) (k : Nat) (h : k < a.size) : a.data[k]! = a[k] := by rw [getElem!_pos a.data k h]; rfl
theorem colAt_byte {xs : List StringV} {k : Nat} {e : StringV} (p : Nat) (h : xs[k]? = some e) (hp : p < e.f0.size) : (colAt xs p)[k]? = some (e.f0[p].toNat) := by rw [colAt_at p h, byteAt _ _ hp]
theorem colAt_len (xs : List StringV) (p : Nat) : (colAt xs p).length = xs.length := by simp [colAt]
/-- What the loops over places know: every string is as long as the first. -/
def OneLen (xs : List StringV) (n : Nat) : Prop := 0 < xs.length ∧ n ≤ 8000 ∧ ∀ e ∈ xs, e.f0.size = n
theorem OneLen.first {xs : List StringV} {n : Nat} (h : OneLen xs n) : ∃ e, xs[0]? = some e ∧ e.f0.size = n := by
  obtain ⟨h1, h2, h3⟩ := h
  exact ⟨xs[0], by simp [h1], h3 _ (List.getElem_mem h1)⟩
theorem revOk_one {xs : List StringV} (h : revOk xs = true) : OneLen xs (len0 xs) ∧ xs.length ≤ 5 ∧ ∀ p, p < len0 xs → ∀ x ∈ colAt xs p, x = 48 ∨ x = 49 := by
  unfold revOk at h
  simp only [Bool.and_eq_true, inB_iff] at h
  obtain ⟨⟨h1, h2⟩, h3, h4⟩ := h
  unfold allCells at h3
  unfold allLen at h4
  simp only [List.all_eq_true, decide_eq_true_eq] at h3 h4
  have h0 : 0 < xs.length := by omega
  have hf := h3 _ (List.getElem_mem h0)
  have hl := h4 _ (List.getElem_mem h0)
  have hb := validCells_bd hf
  refine ⟨⟨h0, by omega, h4⟩, by omega, ?_⟩
  intro p hp x hx
  obtain ⟨e, he, rfl⟩ := List.mem_map.1 hx
  have hv := h3 e he
  have hz := h4 e he
  unfold validCells at hv
  simp only [Bool.and_eq_true] at hv
  unfold cellsL at hv
  have h5 := hv.1
  rw [List.all_eq_true] at h5
  have hp2 : p < e.f0.size := by omega
  have := h5 (e.f0[p]) (by show e.f0.data[p] ∈ _; simp)
  rw [byteAt _ _ hp2]
  exact (isCell_iff _).1 this
set_option maxHeartbeats 2000000 in
theorem l10Ones_any (a : Option Addr) (xs : List StringV) (c p n : Nat) (w : World) (hm : xs.length ≤ 1048576) (hO : OneLen xs n) (hp : p < n) (h : SlS rowString w a xs) :
    Calls Try.prog 60 #[.slice a xs.length c, .int .i64 p] w fun e w' => e = .returned (.int .i64 ((colAt xs p).count 49 : Nat)) ∧ Below w.heap.size w w' := by
  have HO := Lib.hid hO
  have hn8 : n ≤ 8000 := hO.2.1
  clear hO
  go_enter Try.func60, Try.ntmps60
  go_wp2
  go_loopw [5, 6] (fun t i wr => ∃ k m : Nat, k ≤ xs.length ∧ i = .int .i64 k ∧ t = .int .i64 m ∧ m ≤ k ∧ Hid (((colAt xs p).take k).count 49 = m) ∧ Below w.heap.size w wr) (fun _ i _ => xs.length - (intOf i).toNat)
  case atStart => exact ⟨0, 0, Nat.zero_le _, rfl, rfl, Nat.le_refl _, by unfold Hid; simp, Below.refl _ _⟩
  case round =>
    obtain ⟨k, m, hk, rfl, rfl, hmk, hM, hb⟩ := hrel
    by_cases hlt : k < xs.length
    · obtain ⟨⟨s⟩, hx⟩ : ∃ e, xs[k]? = some e := ⟨xs[k], by simp [hlt]⟩
      obtain ⟨b, off, rfl, hbl, hc⟩ := (h.below hb (Nat.le_refl _)).at rowString_len hx
      have c0 : wr.cell? ⟨b, off + k * 1, none⟩ = some (.string s) := hc 0 _ rfl
      rw [Nat.mul_one] at c0
      have hsz : s.size = n := HO.out.2.2 _ (List.mem_of_getElem? hx)
      have hps : p < s.size := by omega
      have hs8 : s.size ≤ 8000 := by omega
      have hcol := colAt_byte (e := ⟨s⟩) p hx hps
      have HT := Lib.hid (count_take_snoc (b := 49) hcol)
      have H := Lib.hid (And.intro h (And.intro hc (And.intro hx (And.intro hcol hsz)))); clear h hc hx hcol hsz
      have e1 : (k : Int) < xs.length := by omega
      by_cases hq : s[p].toNat = 49
      · have hne : ((s[p].toNat : Int) == 49) = true := by rw [beq_iff_eq]; omega
        have HQ := Lib.hid hq; clear hq
        go_wp2
        go_roundw
        case rel => exact ⟨k + 1, m + 1, by omega, by go_num, by go_num, by omega, by unfold Hid; rw [HT.out, hM.out, if_pos HQ.out], hb⟩
        case measure => simp [intOf]; omega
      · have hne : ((s[p].toNat : Int) == 49) = false := by rw [beq_eq_false_iff_ne]; omega
        have HQ := Lib.hid hq; clear hq
        go_wp2
        go_roundw
        case rel => exact ⟨k + 1, m, by omega, by go_num, rfl, by omega, by unfold Hid; rw [HT.out, hM.out, if_neg HQ.out, Nat.add_zero], hb⟩
        case measure => simp [intOf]; omega
    · obtain rfl : k = xs.length := by omega
      go_wp2
      go_ret
      refine ⟨ret_int ?_, hb⟩
      have := hM.out
      rw [List.take_of_length_le (by rw [colAt_len]; exact Nat.le_refl _)] at this
      rw [this]
/-- Two results: a slice of int64s of the call's own, and a code. -/
def SlRes2 (l : List Int) (code : Int) (w : World) (e : Ending) (w' : World) : Prop :=
  ∃ a cap, e = .returned (.tuple #[.slice a l.length cap, .int .i64 code]) ∧ SlO w' w.heap.size a l ∧ Below w.heap.size w w'
def majV (xs : List StringV) : ByteArray := if revOk xs = true then ⟨(voteS xs (len0 xs)).toArray⟩ else ⟨#[]⟩
def revC (xs : List StringV) : Int := if revOk xs = true then 0 else 1
def weakV (xs : List StringV) : List Int := if revOk xs = true then unlikeP xs (len0 xs) else []
theorem weakV_len (xs : List StringV) (h : ∀ e ∈ xs, e.f0.size ≤ 1048576) : (weakV xs).length ≤ 1048576 := by
  unfold weakV
  split
  · next hr =>
    have := (revOk_one hr).1.2.1
    have h2 := unlikeP_len xs (len0 xs)
    omega
  · simp
theorem colNe {xs : List StringV} {n : Nat} (h : OneLen xs n) : xs ≠ [] := by intro e; have := h.1; simp [e] at this
set_option maxHeartbeats 4000000 in
theorem specMajorityCells_g (a : Option Addr) (c : Nat) (xs : List StringV) (hm : xs.length ≤ 1048576) (hs : ∀ e ∈ xs, e.f0.size ≤ 1048576) (w : World) (h : SlS rowString w a xs) :
    Calls Try.prog 15 #[.slice a xs.length c] w fun x w' => x = .returned (.tuple #[.string (majV xs), .int .i64 (revC xs)]) ∧ Below w.heap.size w w' := by
  have HC := Lib.hid (l10Ok_any a xs c w hm (fun e he => by have := hs e he; unfold maxLen; omega) h)
  unfold majV revC
  by_cases hr : revOk xs = true
  case neg =>
    have hr0 : revOk xs = false := by simpa using hr
    rw [if_neg hr, if_neg hr]
    rw [hr0] at HC
    clear hr hr0 h hs
    go_enter Try.func15, Try.ntmps15
    go_wp2_with (go_at_call 59; refine HC.out.mono ?_; rintro e w1 ⟨rfl, hb1⟩)
    go_ret2
    exact ⟨rfl, hb1⟩
  rw [if_pos hr, if_pos hr]
  obtain ⟨hO, h5, hcl⟩ := revOk_one hr
  obtain ⟨⟨s0⟩, hx0, hz0⟩ := hO.first
  dsimp only at hz0
  rw [hr] at HC
  generalize len0 xs = n at *
  have hn8 : n ≤ 8000 := hO.2.1
  have h01 : 0 < xs.length := hO.1
  have ON := Lib.hid (fun p w' (hp : p < n) (hb : Below w.heap.size w w') => l10Ones_any a xs c p n w' hm hO hp (h.below hb (Nat.le_refl _)))
  have HV := Lib.hid (fun p (hp : p < n) => vote_cells (colAt_ne (colNe hO) p) (hcl p hp))
  have HO := Lib.hid (And.intro hO (And.intro h hcl)); clear hO h hcl hs hr
  have HX0 := Lib.hid hx0; clear hx0
  have HZ0 := Lib.hid hz0; clear hz0
  go_enter Try.func15, Try.ntmps15
  go_wp2_with (go_at_call 59; refine HC.out.mono ?_; rintro e w1 ⟨rfl, hb1⟩)
  go_loopw [4, 5, 6] (fun v i _ wr => ∃ k : Nat, k ≤ n ∧ i = .int .i64 k ∧ OwnB wr w1.heap.size v (voteS xs k) ∧ Below w1.heap.size w1 wr) (fun _ i _ _ => n - (intOf i).toNat)
  case atStart => exact ⟨0, Nat.zero_le _, rfl, OwnB.nil w1 _ (Nat.le_refl _), (Below.refl _ _).alloc (Nat.le_refl _) _⟩
  case round =>
    obtain ⟨k, hk, rfl, hown, hb⟩ := hrel
    have hbw := hb1.trans (hb.mono hb1.size)
    obtain ⟨b, off, ea, hbl, hc⟩ := (HO.out.2.1.below hbw (Nat.le_refl _)).at rowString_len HX0.out
    have c0 : wr.cell? ⟨b, off + 0 * 1, none⟩ = some (.string s0) := hc 0 _ rfl
    rw [Nat.zero_mul, Nat.add_zero] at c0
    have EA := Lib.hid ea
    have HB := Lib.hid (And.intro hb (And.intro hbw hb1)); clear hb hbw hc hbl
    have hb0 := HZ0.out
    obtain rfl := ea
    by_cases hlt : k < n
    · have e1 : (k : Int) < (s0.size : Int) := by omega
      have hvk := HV.out k hlt
      rw [colAt_len] at hvk
      have on := ON.out k wr hlt HB.out.2.1
      have hcb : (colAt xs k).count 49 ≤ xs.length := by have := List.count_le_length (a := 49) (l := colAt xs k); rw [colAt_len] at this; exact this
      obtain ⟨m, hmm⟩ : ∃ m, (colAt xs k).count 49 = m := ⟨_, rfl⟩
      rw [hmm] at hvk on hcb
      have OK := Lib.hid on; have HVK := Lib.hid hvk; clear on hvk
      have HS := Lib.hid (voteS_succ xs k)
      have hvl := voteS_len xs k
      have HMM := Lib.hid hmm; clear hmm hb0
      have hll : (voteS xs k).length < 2147483648 := by omega
      clear hvl
      generalize voteS xs k = l at *
      have hszb := HB.out.1.size
      have hsz2 : s0.size ≤ 8000 := by have := HZ0.out; omega
      by_cases hq : xs.length < 2 * m
      · have hq1 : (xs.length : Int) < 2 * (m : Int) := by omega
        have HQ := Lib.hid (show voteOf (colAt xs k) = 49 by rw [HVK.out, if_pos hq]); clear hq
        go_wp2_with fail
        refine OK.out.mono ?_
        rintro e w2 ⟨rfl, hb2⟩
        have hown2 := hown.below hb2
        go_wp2_with (at_builtin; refine wpList_appendB rfl _ _ rfl rfl (hown2.alloc _) 49 (by decide) (by decide) ⟨w2.heap.size, 0, none⟩ 1 rfl (World.news_of_block (cs := #[.int .u8 49]) (t := 5) (fr := (0, 0)) (heap_alloc_new w2 _)) hll (by have := hb2.size; simp; omega) ?_; intro g cap w3 hown3 _ hb3 _)
        go_roundw
        case rel => exact ⟨k + 1, by omega, by go_num, by rw [HS.out, HQ.out]; simpa using hown3, HB.out.1.trans ((hb2.mono hszb).trans (((Below.refl _ _).alloc (Nat.le_trans hszb hb2.size) _).trans hb3))⟩
        case measure => simp [intOf]; omega
      · have hq1 : ¬ (xs.length : Int) < 2 * (m : Int) := by omega
        have HQ := Lib.hid (show voteOf (colAt xs k) = 48 by rw [HVK.out, if_neg hq]); clear hq
        go_wp2_with fail
        refine OK.out.mono ?_
        rintro e w2 ⟨rfl, hb2⟩
        have hown2 := hown.below hb2
        go_wp2_with (at_builtin; refine wpList_appendB rfl _ _ rfl rfl (hown2.alloc _) 48 (by decide) (by decide) ⟨w2.heap.size, 0, none⟩ 1 rfl (World.news_of_block (cs := #[.int .u8 48]) (t := 5) (fr := (0, 0)) (heap_alloc_new w2 _)) hll (by have := hb2.size; simp; omega) ?_; intro g cap w3 hown3 _ hb3 _)
        go_roundw
        case rel => exact ⟨k + 1, by omega, by go_num, by rw [HS.out, HQ.out]; simpa using hown3, HB.out.1.trans ((hb2.mono hszb).trans (((Below.refl _ _).alloc (Nat.le_trans hszb hb2.size) _).trans hb3))⟩
        case measure => simp [intOf]; omega
    · obtain rfl : k = n := by omega
      have e1 : ¬ (k : Int) < (s0.size : Int) := by omega
      have hsz2 : s0.size ≤ 8000 := by omega
      clear hb0
      have hcv := conv_own hown
      go_wp2
      go_ret2
      exact ⟨rfl, HB.out.2.1⟩
set_option maxHeartbeats 4000000 in
theorem specWeakCells_g (a : Option Addr) (c : Nat) (xs : List StringV) (hm : xs.length ≤ 1048576) (hs : ∀ e ∈ xs, e.f0.size ≤ 1048576) (w : World) (h : SlS rowString w a xs) :
    Calls Try.prog 19 #[.slice a xs.length c] w (SlRes2 (weakV xs) (revC xs) w) := by
  have HC := Lib.hid (l10Ok_any a xs c w hm (fun e he => by have := hs e he; unfold maxLen; omega) h)
  unfold weakV revC
  by_cases hr : revOk xs = true
  case neg =>
    have hr0 : revOk xs = false := by simpa using hr
    rw [if_neg hr, if_neg hr]
    rw [hr0] at HC
    clear hr hr0 h hs
    go_enter Try.func19, Try.ntmps19
    go_wp2_with (go_at_call 59; refine HC.out.mono ?_; rintro e w1 ⟨rfl, hb1⟩)
    go_ret2
    exact ⟨none, 0, rfl, .inl rfl, hb1⟩
  rw [if_pos hr, if_pos hr]
  obtain ⟨hO, h5, hcl⟩ := revOk_one hr
  obtain ⟨⟨s0⟩, hx0, hz0⟩ := hO.first
  dsimp only at hz0
  rw [hr] at HC
  generalize len0 xs = n at *
  have hn8 : n ≤ 8000 := hO.2.1
  have h01 : 0 < xs.length := hO.1
  have ON := Lib.hid (fun p w' (hp : p < n) (hb : Below w.heap.size w w') => l10Ones_any a xs c p n w' hm hO hp (h.below hb (Nat.le_refl _)))
  have HV := Lib.hid (fun p (hp : p < n) => even_cells (colAt_ne (colNe hO) p) (hcl p hp))
  have HO := Lib.hid (And.intro hO (And.intro h hcl)); clear hO h hcl hs hr
  have HX0 := Lib.hid hx0; clear hx0
  have HZ0 := Lib.hid hz0; clear hz0
  go_enter Try.func19, Try.ntmps19
  go_wp2_with (go_at_call 59; refine HC.out.mono ?_; rintro e w1 ⟨rfl, hb1⟩)
  have HB1 := Lib.hid hb1; clear hb1
  go_loopw [4, 5, 6] (fun v i _ wr => ∃ k : Nat, k ≤ n ∧ i = .int .i64 k ∧ OwnI wr w1.heap.size v (unlikeP xs k) ∧ Below w1.heap.size w1 wr) (fun _ i _ _ => n - (intOf i).toNat)
  case atStart => exact ⟨0, Nat.zero_le _, rfl, OwnI.empty w1 _ (Nat.le_refl _), (Below.refl _ _).alloc (Nat.le_refl _) _⟩
  case round =>
    obtain ⟨k, hk, rfl, hown, hb⟩ := hrel
    have hbw := HB1.out.trans (hb.mono HB1.out.size)
    obtain ⟨b, off, ea, hbl, hc⟩ := (HO.out.2.1.below hbw (Nat.le_refl _)).at rowString_len HX0.out
    have c0 : wr.cell? ⟨b, off + 0 * 1, none⟩ = some (.string s0) := hc 0 _ rfl
    rw [Nat.zero_mul, Nat.add_zero] at c0
    have HB := Lib.hid (And.intro hb hbw); clear hb hbw hc hbl
    have hb0 := HZ0.out
    obtain rfl := ea
    by_cases hlt : k < n
    · have e1 : (k : Int) < (s0.size : Int) := by omega
      have hvk := HV.out k hlt
      rw [colAt_len] at hvk
      have on := ON.out k wr hlt HB.out.2
      have hcb : (colAt xs k).count 49 ≤ xs.length := by have := List.count_le_length (a := 49) (l := colAt xs k); rw [colAt_len] at this; exact this
      obtain ⟨m, hmm⟩ : ∃ m, (colAt xs k).count 49 = m := ⟨_, rfl⟩
      rw [hmm] at hvk on hcb
      have OK := Lib.hid on; have HVK := Lib.hid hvk; clear on hvk
      have HY := Lib.hid (fun h => unlikeP_yes (xs := xs) (k := k) h)
      have HN := Lib.hid (fun h => unlikeP_no (xs := xs) (k := k) h)
      have hvl := unlikeP_len xs k
      have HMM := Lib.hid hmm; clear hmm hb0
      have hll : (unlikeP xs k).length < 1073741824 := by omega
      clear hvl
      generalize unlikeP xs k = l at *
      have hszb := HB.out.1.size
      have hsz2 : s0.size ≤ 8000 := by have := HZ0.out; omega
      by_cases hq : 0 < m ∧ m < xs.length
      · have hq1 : (0 : Int) < (m : Int) := by omega
        have hq2 : (m : Int) < (xs.length : Int) := by omega
        have HQ := Lib.hid (show evenB (colAt xs k) = false by rw [HVK.out]; simp [hq.1, hq.2]); clear hq
        go_wp2_with fail
        refine OK.out.mono ?_
        rintro e w2 ⟨rfl, hb2⟩
        have hown2 := hown.below' hb2
        go_wp2_with (at_builtin; refine wpList_appendI 29 Try.underlying29 rfl _ _ rfl rfl (hown2.alloc _) (k : Int) ⟨w2.heap.size, 0, none⟩ 1 rfl (World.news_of_block (cs := #[.int .i64 (k : Int)]) (t := 2) (fr := (0, 0)) (heap_alloc_new w2 _)) hll (by have := hb2.size; simp; omega) ?_; intro g cap w3 hown3 hb3 _)
        go_roundw
        case rel => exact ⟨k + 1, by omega, by go_num, by rw [HY.out HQ.out]; simpa using hown3, HB.out.1.trans ((hb2.mono hszb).trans (((Below.refl _ _).alloc (Nat.le_trans hszb hb2.size) _).trans hb3))⟩
        case measure => simp [intOf]; omega
      · have HQ := Lib.hid (show evenB (colAt xs k) = true by rw [HVK.out]; simp; omega)
        by_cases hq1 : 0 < m
        · have hq2 : (0 : Int) < (m : Int) := by omega
          have hq3 : ¬ (m : Int) < (xs.length : Int) := by omega
          clear hq hq1
          go_wp2_with fail
          refine OK.out.mono ?_
          rintro e w2 ⟨rfl, hb2⟩
          have hown2 := hown.below' hb2
          go_wp2
          go_roundw
          case rel => exact ⟨k + 1, by omega, by go_num, by rw [HN.out HQ.out]; exact hown2, HB.out.1.trans (hb2.mono hszb)⟩
          case measure => simp [intOf]; omega
        · have hq2 : ¬ (0 : Int) < (m : Int) := by omega
          clear hq hq1
          go_wp2_with fail
          refine OK.out.mono ?_
          rintro e w2 ⟨rfl, hb2⟩
          have hown2 := hown.below' hb2
          go_wp2
          go_roundw
          case rel => exact ⟨k + 1, by omega, by go_num, by rw [HN.out HQ.out]; exact hown2, HB.out.1.trans (hb2.mono hszb)⟩
          case measure => simp [intOf]; omega
    · obtain rfl : k = n := by omega
      have e1 : ¬ (k : Int) < (s0.size : Int) := by omega
      have hsz2 : s0.size ≤ 8000 := by omega
      clear hb0
      obtain ⟨a1, c1, rfl, hs1⟩ := hown.slO
      go_wp2
      go_ret2
      exact ⟨a1, c1, rfl, hs1.mono HB1.out.size, HB.out.2⟩
theorem bestTo_succ_yes {c : List Nat} {b : Nat} (h : (bestTo c b).2 < c.count b) : bestTo c (b + 1) = (b, c.count b) := by rw [bestTo, if_pos h]
theorem bestTo_succ_no {c : List Nat} {b : Nat} (h : ¬ (bestTo c b).2 < c.count b) : bestTo c (b + 1) = bestTo c b := by rw [bestTo, if_neg h]
set_option maxHeartbeats 4000000 in
theorem l10Byte_any (a : Option Addr) (xs : List StringV) (c p n : Nat) (w : World) (hm : xs.length ≤ 1048576) (hO : OneLen xs n) (hp : p < n) (h : SlS rowString w a xs) :
    Calls Try.prog 116 #[.slice a xs.length c, .int .i64 p] w fun e w' => e = .returned (.tuple #[.int .u8 (voteOf (colAt xs p) : Nat), .bool (evenB (colAt xs p))]) ∧ Below w.heap.size w w' := by
  have hv := voteOf_is (colAt_ne (colNe hO) p) (colAt_lt xs p)
  have HEV := Lib.hid (show evenB (colAt xs p) = decide ((bestTo (colAt xs p) 256).2 = xs.length) by
    rw [even_count hv, colAt_len]
    have := bestTo_inv (colAt xs p) 256
    have h2 : 0 < (colAt xs p).count (voteOf (colAt xs p)) := List.count_pos_iff.2 hv.1
    unfold voteOf at h2 ⊢
    rcases this with ⟨h3, h4, h5⟩ | ⟨h3, h4, _⟩
    · have := h5 _ (show (bestTo (colAt xs p) 256).1 < 256 by omega); omega
    · rw [h4])
  have HO := Lib.hid hO
  have hn8 : n ≤ 8000 := hO.2.1
  clear hO hv
  go_enter Try.func116, Try.ntmps116
  go_wp2
  go_loopw [6, 7, 8, 9, 10] (fun u v i _ _ wr => ∃ b x y : Nat, b ≤ 256 ∧ i = .int .i64 b ∧ u = .int .u8 x ∧ v = .int .i64 y ∧ x ≤ 255 ∧ y ≤ xs.length ∧ Hid (bestTo (colAt xs p) b = (x, y)) ∧ Below w.heap.size w wr) (fun _ _ i _ _ _ => 256 - (intOf i).toNat)
  case atStart => exact ⟨0, 0, 0, Nat.zero_le _, rfl, rfl, rfl, by omega, by omega, by unfold Hid; rfl, Below.refl _ _⟩
  case round =>
    obtain ⟨b, x, y, hb256, rfl, rfl, rfl, hx255, hyl, hB, hbw⟩ := hrel
    by_cases hlb : b < 256
    · have elb : (b : Int) < 256 := by omega
      go_wp2
      go_hide hQ
      obtain ⟨wo, rfl⟩ : ∃ wo : World, wo = wr := ⟨_, rfl⟩
      go_loopw [9, 10] (fun t i wr2 => ∃ k m : Nat, k ≤ xs.length ∧ i = .int .i64 k ∧ t = .int .i64 m ∧ m ≤ k ∧ Hid (((colAt xs p).take k).count b = m) ∧ Below w.heap.size w wr2) (fun _ i _ => xs.length - (intOf i).toNat)
      case atStart => exact ⟨0, 0, Nat.zero_le _, rfl, rfl, Nat.le_refl _, by unfold Hid; simp, hbw⟩
      case round =>
        obtain ⟨k, m, hk, rfl, rfl, hmk, hM, hb⟩ := hrel
        by_cases hlt : k < xs.length
        · obtain ⟨⟨s⟩, hx⟩ : ∃ e, xs[k]? = some e := ⟨xs[k], by simp [hlt]⟩
          obtain ⟨bb, off, rfl, hbl, hc⟩ := (h.below hb (Nat.le_refl _)).at rowString_len hx
          have c0 : wr.cell? ⟨bb, off + k * 1, none⟩ = some (.string s) := hc 0 _ rfl
          rw [Nat.mul_one] at c0
          have hsz : s.size = n := HO.out.2.2 _ (List.mem_of_getElem? hx)
          have hps : p < s.size := by omega
          have hs8 : s.size ≤ 8000 := by omega
          have hcol := colAt_byte (e := ⟨s⟩) p hx hps
          have HT := Lib.hid (count_take_snoc (b := b) hcol)
          have H := Lib.hid (And.intro h (And.intro hc (And.intro hx (And.intro hcol hsz)))); clear h hc hx hcol hsz
          have e1 : (k : Int) < xs.length := by omega
          by_cases hq : s[p].toNat = b
          · have hne : ((s[p].toNat : Int) == (b : Int)) = true := by rw [beq_iff_eq]; omega
            have HQ := Lib.hid hq; clear hq
            go_wp2
            go_roundw
            case rel => exact ⟨k + 1, m + 1, by omega, by go_num, by go_num, by omega, by unfold Hid; rw [HT.out, hM.out, if_pos HQ.out], hb⟩
            case measure => simp [intOf]; omega
          · have hne : ((s[p].toNat : Int) == (b : Int)) = false := by rw [beq_eq_false_iff_ne]; omega
            have HQ := Lib.hid hq; clear hq
            go_wp2
            go_roundw
            case rel => exact ⟨k + 1, m, by omega, by go_num, rfl, by omega, by unfold Hid; rw [HT.out, hM.out, if_neg HQ.out, Nat.add_zero], hb⟩
            case measure => simp [intOf]; omega
        · obtain rfl : k = xs.length := by omega
          have HM := Lib.hid (show (colAt xs p).count b = m by have := hM.out; rwa [List.take_of_length_le (by rw [colAt_len]; exact Nat.le_refl _)] at this)
          subst hQ
          by_cases hq : y < m
          · have hq1 : (y : Int) < (m : Int) := by omega
            have HQ := Lib.hid (show bestTo (colAt xs p) (b + 1) = (b, m) by rw [bestTo_succ_yes (by rw [hB.out, HM.out]; exact hq), HM.out]); clear hq
            go_wp2
            go_roundw
            case rel => exact ⟨b + 1, b, m, by omega, by go_num, by first | rfl | (congr 1; simp), by first | rfl | go_num, by omega, by omega, by unfold Hid; exact HQ.out, hb⟩
            case measure => simp [intOf]; omega
          · have hq1 : ¬ (y : Int) < (m : Int) := by omega
            have HQ := Lib.hid (show bestTo (colAt xs p) (b + 1) = (x, y) by rw [bestTo_succ_no (by rw [hB.out, HM.out]; exact hq), hB.out]); clear hq
            go_wp2
            go_roundw
            case rel => exact ⟨b + 1, x, y, by omega, by go_num, rfl, rfl, by omega, by omega, by unfold Hid; exact HQ.out, hb⟩
            case measure => simp [intOf]; omega
    · obtain rfl : b = 256 := by omega
      have HX := Lib.hid (show voteOf (colAt xs p) = x by unfold voteOf; rw [hB.out])
      have HY := Lib.hid (show evenB (colAt xs p) = decide (y = xs.length) by rw [HEV.out, hB.out])
      by_cases hq : y = xs.length
      · have hne : ((y : Int) == (xs.length : Int)) = true := by rw [beq_iff_eq]; omega
        have HQ := Lib.hid (show evenB (colAt xs p) = true by rw [HY.out]; simpa using hq); clear hq
        go_wp2
        go_ret2
        exact ⟨by rw [HX.out, HQ.out]; rfl, hbw⟩
      · have hne : ((y : Int) == (xs.length : Int)) = false := by rw [beq_eq_false_iff_ne]; omega
        have HQ := Lib.hid (show evenB (colAt xs p) = false by rw [HY.out]; simpa using hq); clear hq
        go_wp2
        go_ret2
        exact ⟨by rw [HX.out, HQ.out]; rfl, hbw⟩
/-- The bytes that were voted for, and the places where not all are the same. -/
def VotePost (s : List UInt8) (l : List Int) (w : World) (e : Ending) (w' : World) : Prop :=
  ∃ a cap, e = .returned (.tuple #[.string ⟨s.toArray⟩, .slice a l.length cap]) ∧ SlO w' w.heap.size a l ∧ Below w.heap.size w w'
set_option maxHeartbeats 8000000 in
theorem l10Vote_any (a : Option Addr) (xs : List StringV) (c n : Nat) (w : World) (hm : xs.length ≤ 1048576) (hO : OneLen xs n) (h : SlS rowString w a xs) :
    Calls Try.prog 71 #[.slice a xs.length c] w (VotePost (voteS xs n) (unlikeP xs n) w) := by
  obtain ⟨⟨s0⟩, hx0, hz0⟩ := hO.first
  dsimp only at hz0
  have hn8 : n ≤ 8000 := hO.2.1
  have h01 : 0 < xs.length := hO.1
  have LB := Lib.hid (fun p w' (hp : p < n) (hb : Below w.heap.size w w') => l10Byte_any a xs c p n w' hm hO hp (h.below hb (Nat.le_refl _)))
  have HVL := Lib.hid (fun p => voteOf_lt (colAt_ne (colNe hO) p) (colAt_lt xs p))
  have HO := Lib.hid (And.intro hO h); clear hO h
  have HX0 := Lib.hid hx0; clear hx0
  have HZ0 := Lib.hid hz0; clear hz0
  go_enter Try.func71, Try.ntmps71
  go_wp2
  go_loopw [4, 5, 6, 7, 8] (fun u v i _ _ wr => ∃ k : Nat, k ≤ n ∧ i = .int .i64 k ∧ OwnB wr w.heap.size u (voteS xs k) ∧ OwnI wr w.heap.size v (unlikeP xs k) ∧ Below w.heap.size w wr) (fun _ _ i _ _ _ => n - (intOf i).toNat)
  case atStart => exact ⟨0, Nat.zero_le _, rfl, (OwnB.nil w _ (Nat.le_refl _)).alloc _, by have := OwnI.empty (w.alloc (.cells #[] 5)) w.heap.size (by simp); simpa [unlikeP] using this, by go_grown⟩
  case round =>
    obtain ⟨k, hk, rfl, hown, howi, hb⟩ := hrel
    obtain ⟨b, off, ea, hbl, hc⟩ := (HO.out.2.below hb (Nat.le_refl _)).at rowString_len HX0.out
    have c0 : wr.cell? ⟨b, off + 0 * 1, none⟩ = some (.string s0) := hc 0 _ rfl
    rw [Nat.zero_mul, Nat.add_zero] at c0
    have HB := Lib.hid hb; clear hb hc hbl
    have hb0 := HZ0.out
    obtain rfl := ea
    by_cases hlt : k < n
    · have e1 : (k : Int) < (s0.size : Int) := by omega
      have on := LB.out k wr hlt HB.out
      have HS := Lib.hid (voteS_succ xs k)
      have hvl := voteS_len xs k
      have HY := Lib.hid (fun h => unlikeP_yes (xs := xs) (k := k) h)
      have HN := Lib.hid (fun h => unlikeP_no (xs := xs) (k := k) h)
      have hul := unlikeP_len xs k
      have hll : (voteS xs k).length < 2147483648 := by omega
      have hlu : (unlikeP xs k).length < 1073741824 := by omega
      have hr256 := HVL.out k
      clear hvl hul
      generalize voteS xs k = l at *
      generalize unlikeP xs k = u at *
      generalize voteOf (colAt xs k) = r at *
      obtain ⟨q, hq⟩ : ∃ q, evenB (colAt xs k) = q := ⟨_, rfl⟩
      rw [hq] at on
      have OK := Lib.hid on; have HQ := Lib.hid hq; clear on hq hb0
      have hszb := HB.out.size
      have hsz2 : s0.size ≤ 8000 := by have := HZ0.out; omega
      have er : ((r : Int)).toNat.toUInt8 = UInt8.ofNat r := by simp
      have ER := Lib.hid er; clear er
      cases q with
      | true =>
        go_wp2_with fail
        refine OK.out.mono ?_
        rintro e w2 ⟨rfl, hb2⟩
        have hown2 := hown.below hb2
        have howi2 := howi.below' hb2
        go_wp2_with (at_builtin; refine wpList_appendB rfl _ _ rfl rfl (hown2.alloc _) (r : Int) (by omega) (by omega) ⟨w2.heap.size, 0, none⟩ 1 rfl (World.news_of_block (cs := #[.int .u8 (r : Int)]) (t := 5) (fr := (0, 0)) (heap_alloc_new w2 _)) hll (by have := hb2.size; simp; omega) ?_; intro g cap w3 hown3 hgr hb3 _)
        have howi3 := (howi2.alloc _).keptB (hown2.alloc _) hgr
        clear hgr
        go_roundw
        case rel => exact ⟨k + 1, by omega, by go_num, by rw [HS.out, ← ER.out]; simpa using hown3, by rw [HN.out HQ.out]; exact howi3, HB.out.trans ((hb2.mono hszb).trans (((Below.refl _ _).alloc (Nat.le_trans hszb hb2.size) _).trans hb3))⟩
        case measure => simp [intOf]; omega
      | false =>
        go_wp2_with fail
        refine OK.out.mono ?_
        rintro e w2 ⟨rfl, hb2⟩
        have hown2 := hown.below hb2
        have howi2 := howi.below' hb2
        have hz2 := hb2.size
        go_wp2_with (at_builtin; first
          | (refine wpList_appendB rfl _ _ rfl rfl (hown2.alloc _) (r : Int) (by omega) (by omega) ⟨w2.heap.size, 0, none⟩ 1 rfl (World.news_of_block (cs := #[.int .u8 (r : Int)]) (t := 5) (fr := (0, 0)) (heap_alloc_new w2 _)) hll (by simp; omega) ?_; intro g cap w3 hown3 hgr hb3 _; have howi3 := (howi2.alloc _).keptB (hown2.alloc _) hgr; clear hgr; have hz3 := hb3.size)
          | (refine wpList_appendIg 29 Try.underlying29 rfl _ _ rfl rfl (howi3.alloc _) (k : Int) ⟨w3.heap.size, 0, none⟩ 1 rfl (World.news_of_block (cs := #[.int .i64 (k : Int)]) (t := 2) (fr := (0, 0)) (heap_alloc_new w3 _)) hlu (by simp at hz3 ⊢; omega) ?_; intro g4 cap4 w4 howi4 hgr4 hb4; have hown4 := (hown3.alloc _).keptI (howi3.alloc _) hgr4; clear hgr4))
        go_roundw
        case rel =>
          have hz3' : w.heap.size ≤ w3.heap.size := by simp at hz3; omega
          exact ⟨k + 1, by omega, by go_num, by rw [HS.out, ← ER.out]; simpa using hown4, by rw [HY.out HQ.out]; simpa using howi4, HB.out.trans ((hb2.mono hszb).trans ((((Below.refl _ _).alloc (Nat.le_trans hszb hz2) _).trans hb3).trans (((Below.refl _ _).alloc hz3' _).trans hb4)))⟩
        case measure => simp [intOf]; omega
    · obtain rfl : k = n := by omega
      have e1 : ¬ (k : Int) < (s0.size : Int) := by omega
      have hsz2 : s0.size ≤ 8000 := by omega
      clear hb0
      have hcv := conv_own hown
      obtain ⟨a1, c1, rfl, hs1⟩ := howi.slO
      go_wp2
      go_ret2
      exact ⟨a1, c1, rfl, hs1, HB.out⟩
/-- What VoteBytes asks. -/
def voteOk (xs : List StringV) : Bool := inB 1 64 xs.length && (allLen (len0 xs) xs && decide (len0 xs ≤ 512))
theorem voteOk_one {xs : List StringV} (h : voteOk xs = true) : OneLen xs (len0 xs) := by
  unfold voteOk at h
  simp only [Bool.and_eq_true, inB_iff] at h
  obtain ⟨⟨h1, h2⟩, h3, h4⟩ := h
  unfold allLen at h3
  simp only [List.all_eq_true, decide_eq_true_eq] at h3 h4
  exact ⟨by omega, by omega, h3⟩
def voteV (xs : List StringV) : ByteArray := if voteOk xs = true then ⟨(voteS xs (len0 xs)).toArray⟩ else ⟨#[]⟩
def voteL (xs : List StringV) : List Int := if voteOk xs = true then unlikeP xs (len0 xs) else []
theorem voteL_len (xs : List StringV) (h : ∀ e ∈ xs, e.f0.size ≤ 1048576) : (voteL xs).length ≤ 1048576 := by
  unfold voteL
  split
  · next hr =>
    have := (voteOk_one hr).2.1
    have h2 := unlikeP_len xs (len0 xs)
    omega
  · simp
def VbPost (xs : List StringV) (w : World) (e : Ending) (w' : World) : Prop :=
  ∃ a cap, e = .returned (.tuple #[.string (voteV xs), .slice a (voteL xs).length cap, .bool (voteOk xs)]) ∧ SlO w' w.heap.size a (voteL xs) ∧ Below w.heap.size w w'
set_option maxHeartbeats 8000000 in
theorem specVoteBytes_g (a : Option Addr) (c : Nat) (xs : List StringV) (hm : xs.length ≤ 1048576) (hs : ∀ e ∈ xs, e.f0.size ≤ 1048576) (w : World) (h : SlS rowString w a xs) :
    Calls Try.prog 28 #[.slice a xs.length c] w (VbPost xs w) := by
  have LI := Lib.hid (fun w => l00In_any (xs.length : Int) 1 64 w)
  by_cases h1 : inB 1 64 (xs.length : Int) = true
  case neg =>
    have hr0 : inB 1 64 (xs.length : Int) = false := by simpa using h1
    have HV := Lib.hid (show voteOk xs = false by unfold voteOk; rw [hr0]; rfl)
    rw [hr0] at LI
    clear h1 hr0 h hs
    go_enter Try.func28, Try.ntmps28
    go_wp2_with (go_at_call 65; refine (LI.out _).mono ?_; rintro e w1 ⟨rfl, rfl⟩)
    go_ret3
    unfold VbPost voteV voteL
    rw [HV.out]
    exact ⟨none, 0, rfl, .inl rfl, Below.refl _ _⟩
  rw [h1] at LI
  have hi := inB_iff.1 h1
  have h01 : 0 < xs.length := by omega
  obtain ⟨⟨s0⟩, hx0⟩ : ∃ e, xs[0]? = some e := ⟨xs[0], by simp [h01]⟩
  have hl0 : len0 xs = s0.size := by unfold len0; rw [hx0]; rfl
  have LV := Lib.hid (fun w' (hO : OneLen xs (len0 xs)) (hb : Below w.heap.size w w') => l10Vote_any a xs c (len0 xs) w' hm hO (h.below hb (Nat.le_refl _)))
  have hs0 := hs _ (List.mem_of_getElem? hx0)
  dsimp only at hs0
  have HI := Lib.hid (And.intro h1 (And.intro hx0 (And.intro hl0 hs))); clear h1 hx0 hl0 hs hi
  go_enter Try.func28, Try.ntmps28
  go_wp2_with (go_at_call 65; refine (LI.out _).mono ?_; rintro e w1 ⟨rfl, rfl⟩)
  go_loopw [5] (fun i wr => ∃ k : Nat, k ≤ xs.length ∧ i = .int .i64 k ∧ Hid (allLen (len0 xs) (xs.take k) = true ∧ (0 < k → len0 xs ≤ 512)) ∧ Below w.heap.size w wr) (fun i _ => xs.length - (intOf i).toNat)
  case atStart => exact ⟨0, Nat.zero_le _, rfl, by unfold Hid; exact ⟨by simp [allLen], fun h => absurd h (by omega)⟩, Below.refl _ _⟩
  case round =>
    obtain ⟨k, hk, rfl, hR, hb⟩ := hrel
    have HB := Lib.hid hb; clear hb
    by_cases hlt : k < xs.length
    · obtain ⟨⟨s⟩, hx⟩ : ∃ e, xs[k]? = some e := ⟨xs[k], by simp [hlt]⟩
      obtain ⟨b, off, rfl, hbl, hc⟩ := (h.below HB.out (Nat.le_refl _)).at rowString_len hx
      have c0 : wr.cell? ⟨b, off + k * 1, none⟩ = some (.string s) := hc 0 _ rfl
      rw [Nat.mul_one] at c0
      obtain ⟨b', off', eq', _, hc'⟩ := (h.below HB.out (Nat.le_refl _)).at rowString_len HI.out.2.1
      cases eq'
      have d0 : wr.cell? ⟨b, off, none⟩ = some (.string s0) := by have := hc' 0 _ rfl; simpa using this
      have hsz := HI.out.2.2.2 _ (List.mem_of_getElem? hx)
      dsimp only at hsz
      have H := Lib.hid (And.intro h (And.intro hc hx)); clear h hc hc' hx hbl
      have e1 : (k : Int) < xs.length := by omega
      by_cases hq : s.size = s0.size
      · have hne : ((s.size : Int) != (s0.size : Int)) = false := by simp; omega
        have HQ := Lib.hid hq
        by_cases hq5 : s.size ≤ 512
        · have hn5 : ¬ (512 : Int) < (s.size : Int) := by omega
          have HL := Lib.hid (show allLen (len0 xs) (xs.take (k + 1)) = true ∧ (0 < k + 1 → len0 xs ≤ 512) from by
            have hR' := hR.out
            unfold allLen at hR' ⊢
            refine ⟨by rw [all_take_snocE H.out.2.2, hR'.1]; simp [HI.out.2.2.1, hq], fun _ => by rw [HI.out.2.2.1]; omega⟩)
          clear hq hq5
          go_wp2
          go_quiet (fail)
          go_wp2
          go_roundw
          case rel => exact ⟨k + 1, by omega, by go_num, by unfold Hid; exact HL.out, below_drewN' HB.out _⟩
          case measure => simp [intOf]; omega
        · have hn5 : (512 : Int) < (s.size : Int) := by omega
          have HV := Lib.hid (show voteOk xs = false by
            unfold voteOk
            have : decide (len0 xs ≤ 512) = false := by simp; rw [HI.out.2.2.1]; omega
            rw [this]; simp)
          clear hq hq5
          go_wp2
          go_quiet (fail)
          go_wp2
          go_ret3
          unfold VbPost voteV voteL
          rw [HV.out]
          exact ⟨none, 0, rfl, .inl rfl, below_drewN' HB.out _⟩
      · have hne : ((s.size : Int) != (s0.size : Int)) = true := by simp; omega
        have HV := Lib.hid (show voteOk xs = false by
          unfold voteOk
          have : allLen (len0 xs) xs = false := all_false_ofE H.out.2.2 (by simp [HI.out.2.2.1, hq])
          rw [this]; simp)
        clear hq
        go_wp2
        go_quiet (fail)
        go_wp2
        go_ret3
        unfold VbPost voteV voteL
        rw [HV.out]
        exact ⟨none, 0, rfl, .inl rfl, below_drewN' HB.out _⟩
    · obtain rfl : k = xs.length := by omega
      have HV := Lib.hid (show voteOk xs = true by
        have hR' := hR.out
        rw [List.take_length] at hR'
        unfold voteOk
        rw [HI.out.1, hR'.1]
        simp [hR'.2 h01])
      have LV2 := Lib.hid (LV.out wr (voteOk_one HV.out) HB.out)
      clear h
      go_wp2_with fail
      refine LV2.out.mono ?_
      rintro e w2 ⟨a2, c2, rfl, hs2, hb2⟩
      have HS2 := Lib.hid hs2; clear hs2
      go_wp2
      go_ret3
      unfold VbPost voteV voteL
      rw [HV.out]
      exact ⟨a2, c2, rfl, HS2.out.mono HB.out.size, HB.out.trans (hb2.mono HB.out.size)⟩
end Go.Proofs.Ytlaejcbcfcomaaa
