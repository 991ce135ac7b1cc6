/- impl.rising, spec.l00Rises -/
import Derived.Test.YtnlbhdlfpnepfaaDoorValidFlux
namespace Go.Proofs.YtnlbhdlfpnepfaaDoor
open Go.RowKit
set_option linter.unusedVariables false
/-- Number i is within the bounds, and greater than the one ahead of it. -/
def okAt (lo hi : Int) (zs : List Int) (i : Nat) : Bool := inB lo hi (zs.getD i 0) && (decide (i = 0) || decide (zs.getD (i - 1) 0 < zs.getD i 0))
/-- Are the numbers rising, from lo to hi? -/
def risesB (lo hi : Int) (zs : List Int) : Bool := (List.range zs.length).all (okAt lo hi zs)
theorem range_all_succ (p : Nat → Bool) (k : Nat) : (List.range (k + 1)).all p = ((List.range k).all p && p k) := by
  rw [List.range_succ]; simp
theorem range_all_no {p : Nat → Bool} {n k : Nat} (h : k < n) (hp : p k = false) : (List.range n).all p = false := by
  rw [List.all_eq_false]
  exact ⟨k, List.mem_range.2 h, by simp [hp]⟩
theorem range_all_at {p : Nat → Bool} {n k : Nat} (h : (List.range n).all p = true) (hk : k < n) : p k = true := by
  rw [List.all_eq_true] at h
  exact h k (List.mem_range.2 hk)
theorem getD_of {zs : List Int} {k : Nat} {x : Int} (h : zs[k]? = some x) : zs.getD k 0 = x := by simp [h]
/-- What the next number has to be at least. -/
def lowAt (lo : Int) (zs : List Int) (k : Nat) : Int := if k = 0 then lo else zs.getD (k - 1) 0 + 1
theorem okAt_low {lo hi : Int} {zs : List Int} {k : Nat} {x : Int} (hx : zs[k]? = some x) (h : (List.range k).all (okAt lo hi zs) = true) : okAt lo hi zs k = inB (lowAt lo zs k) hi x := by
  unfold okAt lowAt
  rw [getD_of hx]
  by_cases e : k = 0
  · subst e; simp
  · rw [if_neg e]
    have h1 := range_all_at h (show k - 1 < k by omega)
    unfold okAt at h1
    simp only [Bool.and_eq_true, inB_iff] at h1
    rw [Bool.eq_iff_iff]
    simp only [Bool.and_eq_true, Bool.or_eq_true, decide_eq_true_eq, inB_iff]
    omega
theorem lowAt_succ {lo : Int} {zs : List Int} {k : Nat} {x : Int} (hx : zs[k]? = some x) : lowAt lo zs (k + 1) = x + 1 := by
  unfold lowAt
  rw [if_neg (by omega), Nat.add_sub_cancel, getD_of hx]
/-- The world has drawn some answers, and nothing else. -/
def Drawn (w wr : World) : Prop := ∃ n, wr = w.drewN n
theorem Drawn.refl (w : World) : Drawn w w := ⟨0, rfl⟩
theorem Drawn.step {w wr : World} (h : Drawn w wr) (n : Nat) : Drawn w (wr.drewN n) := by
  obtain ⟨m, rfl⟩ := h
  exact ⟨_, World.drewN_drewN _ _ _⟩
theorem Drawn.below {w wr : World} (h : Drawn w wr) : Below w.heap.size w wr := by
  obtain ⟨m, rfl⟩ := h
  exact below_drewN (Below.refl _ _) _
theorem lowAt_bd {lo hi l : Int} {zs : List Int} {k0 : Nat} (hlo : -9223372036854775808 ≤ lo) (h : (List.range k0).all (okAt lo hi zs) = true) (k : Nat) (_ : k ≤ zs.length) (hk : k ≤ k0) (hl : lowAt lo zs k = l) : -9223372036854775808 ≤ l := by
  subst hl
  unfold lowAt
  split
  · exact hlo
  · have h1 := range_all_at h (show k - 1 < k0 by omega)
    unfold okAt at h1
    simp only [Bool.and_eq_true, inB_iff] at h1
    omega
theorem risesB_bd {lo hi : Int} {zs : List Int} (h : risesB lo hi zs = true) {x : Int} (hx : x ∈ zs) : lo ≤ x ∧ x ≤ hi := by
  obtain ⟨k, hk⟩ := List.getElem?_of_mem hx
  have hkl := (List.getElem?_eq_some_iff.1 hk).1
  have h1 := range_all_at h hkl
  unfold okAt at h1
  rw [getD_of hk] at h1
  simp only [Bool.and_eq_true, inB_iff] at h1
  exact h1.1
set_option maxHeartbeats 1000000 in
theorem rising_any (lo hi : Int) (a : Option Addr) (zs : List Int) (d : Nat) (w : World) (hl : zs.length ≤ 1048576) (hlo : -9223372036854775808 ≤ lo) (hh : hi ≤ 4611686018427387904) (h : SlA w a zs) :
    Calls Tryd.prog 23 #[.int .i64 lo, .int .i64 hi, .slice a zs.length d] w fun e w' => e = .returned (.bool (risesB lo hi zs)) ∧ Below w.heap.size w w' := by
  have H := Lib.hid h; clear h
  go_enter Tryd.func23, Tryd.ntmps23
  go_wp2
  go_loopw [0, 11] (fun l i wr => ∃ k : Nat, k ≤ zs.length ∧ i = .int .i64 (k : Int) ∧ l = .int .i64 (lowAt lo zs k) ∧ Hid ((List.range k).all (okAt lo hi zs) = true) ∧ Below w.heap.size w wr) (fun _ i _ => zs.length - (intOf i).toNat)
  case atStart => exact ⟨0, Nat.zero_le _, rfl, rfl, Lib.hid rfl, Below.refl _ _⟩
  case round =>
    obtain ⟨k, hk, rfl, rfl, ha, hb⟩ := hrel
    have HB := Lib.hid hb
    by_cases hlt : k < zs.length
    · obtain ⟨x, hx⟩ := getOf hlt
      have e1 : (k : Int) < (zs.length : Int) := by omega
      obtain ⟨b, off, rfl, hcx⟩ := (H.out.below hb (Nat.le_refl _)).cell hx
      have HX := Lib.hid hx
      have HO := Lib.hid (okAt_low hx ha.out)
      have HS := Lib.hid (lowAt_succ (lo := lo) hx)
      obtain ⟨l, hlow⟩ : ∃ l, lowAt lo zs k = l := ⟨_, rfl⟩
      rw [hlow] at HO ⊢
      have HLW := Lib.hid hlow
      clear hb hx hlow
      obtain ⟨q, hq⟩ : ∃ q, inB l hi x = q := ⟨_, rfl⟩
      have c1 := fun w T b (hb : w.heap.size = b) => within_at l hi x w T b hb
      rw [hq] at c1 HO
      have C1 := Lib.hid c1; clear c1
      cases q
      · clear hq
        have HN := Lib.hid (range_all_no (p := okAt lo hi zs) hlt HO.out)
        go_wp2_with (go_at_call 22; refine (C1.out _ _ _ (by simp)).mono ?_; rintro e w' ⟨rfl, rfl⟩)
        go_ret
        exact ⟨ret_bool HN.out.symm, HB.out.alloc HB.out.size _⟩
      · have hx2 := (inB_iff.1 hq).2
        have HQ := Lib.hid (inB_iff.1 hq)
        clear hq
        have hx3 : (-9223372036854775808 : Int) ≤ x := Int.le_trans (lowAt_bd hlo ha.out k hk (Nat.le_refl _) HLW.out) HQ.out.1
        go_wp2_with (go_at_call 22; refine (C1.out _ _ _ (by simp)).mono ?_; rintro e w' ⟨rfl, rfl⟩)
        go_roundw
        case rel => exact ⟨k + 1, by omega, by go_num, by rw [HS.out], Lib.hid (by rw [range_all_succ, ha.out, HO.out]; rfl), HB.out.alloc HB.out.size _⟩
        case measure => simp [intOf]; omega
    · obtain rfl : k = zs.length := by omega
      clear hb
      go_wp2
      go_ret
      exact ⟨ret_bool (show _ = risesB lo hi zs from ha.out.symm), HB.out⟩
set_option maxHeartbeats 1000000 in
theorem l00Rises_any (lo hi : Int) (a : Option Addr) (zs : List Int) (d : Nat) (w : World) (hl : zs.length ≤ 1048576) (h : SlA w a zs) :
    Calls Tryd.prog 19 #[.slice a zs.length d, .int .i64 lo, .int .i64 hi] w fun e w' => e = .returned (.bool (risesB lo hi zs)) ∧ Below w.heap.size w w' := by
  have H := Lib.hid h; clear h
  go_enter Tryd.func19, Tryd.ntmps19
  go_wp2
  go_loopw [7] (fun i wr => ∃ k : Nat, k ≤ zs.length ∧ i = .int .i64 (k : Int) ∧ Hid ((List.range k).all (okAt lo hi zs) = true) ∧ Hid (Drawn w wr)) (fun i _ => zs.length - (intOf i).toNat)
  case atStart => exact ⟨0, Nat.zero_le _, rfl, Lib.hid rfl, Lib.hid (Drawn.refl _)⟩
  case round =>
    obtain ⟨k, hk, rfl, ha, hD⟩ := hrel
    have HW := Lib.hid (H.out.below hD.out.below (Nat.le_refl _))
    by_cases hlt : k < zs.length
    · obtain ⟨x, hx⟩ := getOf hlt
      have e1 : (k : Int) < (zs.length : Int) := by omega
      obtain ⟨b, off, rfl, hcx⟩ := HW.out.cell hx
      have HX := Lib.hid hx
      have HO := Lib.hid (okAt_low hx ha.out)
      have HO2 := Lib.hid (show okAt lo hi zs k = (inB lo hi x && (decide (k = 0) || decide (zs.getD (k - 1) 0 < x))) by unfold okAt; rw [getD_of HX.out])
      clear hx
      have c1 := fun w => l00In_any x lo hi w
      obtain ⟨g, hg⟩ : ∃ g, inB lo hi x = g := ⟨_, rfl⟩
      rw [hg] at c1 HO2
      have C1 := Lib.hid c1; clear c1 hg
      cases g
      · have HN := Lib.hid (range_all_no (p := okAt lo hi zs) hlt (by rw [HO2.out]; rfl))
        go_wp2_with fail
        go_quiet ((go_at_call 18; exact Calls.quiet_of_same ((C1.out _).mono fun _ _ ⟨he, hw⟩ => ⟨he, hw.symm⟩)))
        go_wp2
        go_ret
        exact ⟨ret_bool HN.out.symm, (hD.out.step _).below⟩
      · by_cases hk0 : 0 < k
        · have f1 : (0 : Int) < (k : Int) := by omega
          have d1 : decide ((0 : Int) < (k : Int)) = true := by simpa using hk0
          obtain ⟨y, hy⟩ := getOf (show k - 1 < zs.length by omega)
          obtain ⟨b', off', hbo, hcy⟩ := HW.out.cell hy
          simp only [Option.some.injEq, Addr.mk.injEq, and_true] at hbo
          obtain ⟨rfl, rfl⟩ := hbo
          have HO3 := Lib.hid (show okAt lo hi zs k = decide (y < x) by rw [HO2.out, getD_of hy, show decide (k = 0) = false by simp; omega]; simp)
          clear hy
          have e2 : ((k : Int) - 1).toNat = k - 1 := by omega
          have e3 : (0 : Int) ≤ (k : Int) - 1 := by omega
          have e4 : (k : Int) - 1 < (zs.length : Int) := by omega
          have e5 : IntKind.i64.wrap ((k : Int) - 1) = (k : Int) - 1 := IntWalk.i64_in _ (by omega)
          have e6 : (1 : Int) ≤ (k : Int) := by omega
          by_cases hyx : y < x
          · have HT := Lib.hid (show okAt lo hi zs k = true by rw [HO3.out]; simpa using hyx)
            have d2 : decide (x ≤ y) = false := by simpa using hyx
            go_wp2_with fail
            go_quiet ((go_at_call 18; exact Calls.quiet_of_same ((C1.out _).mono fun _ _ ⟨he, hw⟩ => ⟨he, hw.symm⟩)))
            go_wp2
            go_roundw
            case rel => exact ⟨k + 1, by omega, by go_num, Lib.hid (by rw [range_all_succ, ha.out, HT.out]; rfl), Lib.hid (hD.out.step _)⟩
            case measure => simp [intOf]; omega
          · have HN := Lib.hid (range_all_no (p := okAt lo hi zs) hlt (by rw [HO3.out]; simpa using hyx))
            have hyx' : x ≤ y := by omega
            have d2 : decide (x ≤ y) = true := by simpa using hyx'
            go_wp2_with fail
            go_quiet ((go_at_call 18; exact Calls.quiet_of_same ((C1.out _).mono fun _ _ ⟨he, hw⟩ => ⟨he, hw.symm⟩)))
            go_wp2
            go_ret
            exact ⟨ret_bool HN.out.symm, (hD.out.step _).below⟩
        · obtain rfl : k = 0 := by omega
          have HT := Lib.hid (show okAt lo hi zs 0 = true by rw [HO2.out]; rfl)
          have hcx' := hcx
          rw [Nat.add_zero] at hcx'
          have d1 : decide ((0 : Int) < ((0 : Nat) : Int)) = false := by simp
          have d2 : decide ((0 : Int) < 0) = false := by simp
          go_wp2_with fail
          go_quiet ((go_at_call 18; exact Calls.quiet_of_same ((C1.out _).mono fun _ _ ⟨he, hw⟩ => ⟨he, hw.symm⟩)))
          go_wp2
          go_roundw
          case rel => exact ⟨1, by omega, by go_num, Lib.hid (by rw [range_all_succ, ha.out, HT.out]; rfl), Lib.hid (hD.out.step _)⟩
          case measure => simp [intOf]; omega
    · obtain rfl : k = zs.length := by omega
      go_wp2
      go_ret
      exact ⟨ret_bool (show _ = risesB lo hi zs from ha.out.symm), hD.out.below⟩
end Go.Proofs.YtnlbhdlfpnepfaaDoor
