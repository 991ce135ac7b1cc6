/- impl.ValidFlux -/
import Derived.Test.YtfedlehibkgjbaaDoorSum64
namespace Go.Proofs.YtfedlehibkgjbaaDoor
open Go.RowKit
set_option linter.unusedVariables false
/-- Is the flux valid? -/
def fluxOk (c f : Int) (zs : List Int) : Bool := inB 4 200 c && (inB 1 4000 (zs.length : Int) && (zs.all (inB 1 2000000) && (decide (zs.sum ≤ 2000000) && inB 0 (zs[zs.length - 1]?.getD 0 - 1) f)))
theorem fluxOk_iff {c f : Int} {zs : List Int} : fluxOk c f zs = true ↔ (4 ≤ c ∧ c ≤ 200) ∧ (1 ≤ zs.length ∧ zs.length ≤ 4000) ∧ zs.all (inB 1 2000000) = true ∧ zs.sum ≤ 2000000 ∧ (0 ≤ f ∧ f ≤ zs[zs.length - 1]?.getD 0 - 1) := by
  unfold fluxOk
  simp only [Bool.and_eq_true, inB_iff, decide_eq_true_eq]
  constructor
  · rintro ⟨h1, ⟨h2, h3⟩, h4, h5, h6⟩
    exact ⟨h1, ⟨by omega, by omega⟩, h4, h5, h6⟩
  · rintro ⟨h1, ⟨h2, h3⟩, h4, h5, h6⟩
    exact ⟨h1, ⟨by omega, by omega⟩, h4, h5, h6⟩
set_option maxHeartbeats 1000000 in
theorem validFlux_last (c f : Int) (a : Option Addr) (zs : List Int) (d : Nat) (w : World) (h : SlA w a zs) (h1 : inB 4 200 c = true) (h2 : inB 1 4000 (zs.length : Int) = true) (h3 : zs.all (inB 1 2000000) = true) (h4 : zs.sum ≤ 2000000) :
    Calls Tryd.prog 25 #[.agg #[.int .i64 c, .int .i64 f, .slice a zs.length d]] w fun e w' => e = .returned (.bool (inB 0 (zs[zs.length - 1]?.getD 0 - 1) f)) ∧ Below w.heap.size w w' := by
  have h2' := inB_iff.1 h2
  have hn : 0 < zs.length := by omega
  obtain ⟨x, hx⟩ := getOf (zs := zs) (k := zs.length - 1) (by omega)
  have hgl : zs[zs.length - 1]?.getD 0 = x := by rw [hx]; rfl
  rw [hgl]; clear hgl
  obtain ⟨b, off, rfl, hc⟩ := h.cell hx
  have hbl : b < w.heap.size := World.block_lt_of_cell? w _ hc
  obtain ⟨hx0, hx1⟩ := bd_of_all h3 hx
  have c1 : ∀ w' (_ : Below w.heap.size w w'), Calls Tryd.prog 35 #[.int .i64 1, .int .i64 2000000, .slice (some ⟨b, off, none⟩) zs.length d] w' fun e w'' => e = .returned (.bool true) ∧ w' = w'' := fun w' hb => (within_sl 1 2000000 zs (some ⟨b, off, none⟩) d w' (by unfold maxLen; omega) (h.below hb (Nat.le_refl _))).mono fun _ _ ⟨he, hw⟩ => ⟨by rw [he, h3], hw⟩
  have c2 : ∀ w' (_ : Below w.heap.size w w'), Calls Tryd.prog 38 #[.slice (some ⟨b, off, none⟩) zs.length d] w' fun e w'' => e = .returned (.int .i64 zs.sum) ∧ w' = w'' := fun w' hb => sum_any (some ⟨b, off, none⟩) zs d w' (by omega) h3 (h.below hb (Nat.le_refl _))
  have hs0 := sum_bd h3 zs.length
  rw [List.take_length] at hs0
  obtain ⟨s, hs⟩ : ∃ s, zs.sum = s := ⟨_, rfl⟩
  rw [hs] at c2 h4 hs0
  clear hs
  have C1 := Lib.hid c1; have C2 := Lib.hid c2; have H := Lib.hid (And.intro h (And.intro h3 hx)); clear c1 c2 h h3 hx
  have ei : ((zs.length - 1 : Nat) : Int) = (zs.length : Int) - 1 := by omega
  have ei2 : ((zs.length : Int) - 1).toNat = zs.length - 1 := by omega
  have ei3 : (0 : Int) ≤ (zs.length : Int) - 1 := by omega
  have EI := Lib.hid ei; clear ei
  have hcg : ∀ w' (_ : Below w.heap.size w w'), w'.cell? ⟨b, off + (zs.length - 1), none⟩ = some (.int .i64 x) := fun w' hb => by rw [hb.cell (p := ⟨b, off + (zs.length - 1), none⟩) hbl]; exact hc
  have HCG := Lib.hid hcg; clear hcg
  go_enter Tryd.func25, Tryd.ntmps25
  go_wp2_with fail
  refine (within_at _ _ _ _ _ _ (by simp)).mono ?_
  rintro e w' ⟨rfl, rfl⟩
  go_wp2_with fail
  refine (within_at _ _ _ _ _ _ (by simp)).mono ?_
  rintro e w' ⟨rfl, rfl⟩
  go_wp2_with fail
  refine (C1.out _ (by go_grown)).mono ?_
  rintro e w' ⟨rfl, rfl⟩
  go_wp2_with fail
  refine (C2.out _ (by go_grown)).mono ?_
  rintro e w' ⟨rfl, rfl⟩
  go_wp2_with fail
  have hcg := HCG.out (((w.alloc (.cells #[.int .i64 c, .int .i64 f, .slice (some ⟨b, off, none⟩) zs.length d] 24)).alloc (.cells #[.int .i64 c] 2)).alloc (.cells #[.int .i64 (zs.length : Int)] 2)) (by go_grown)
  have hbw : Below w.heap.size w (((w.alloc (.cells #[.int .i64 c, .int .i64 f, .slice (some ⟨b, off, none⟩) zs.length d] 24)).alloc (.cells #[.int .i64 c] 2)).alloc (.cells #[.int .i64 (zs.length : Int)] 2)) := by go_grown
  have hf : (((w.alloc (.cells #[.int .i64 c, .int .i64 f, .slice (some ⟨b, off, none⟩) zs.length d] 24)).alloc (.cells #[.int .i64 c] 2)).alloc (.cells #[.int .i64 (zs.length : Int)] 2)).cell? ⟨w.heap.size, 1, none⟩ = some (.int .i64 f) := by simp [go_sem]
  have hg : (((w.alloc (.cells #[.int .i64 c, .int .i64 f, .slice (some ⟨b, off, none⟩) zs.length d] 24)).alloc (.cells #[.int .i64 c] 2)).alloc (.cells #[.int .i64 (zs.length : Int)] 2)).cell? ⟨w.heap.size, 2, none⟩ = some (.slice (some ⟨b, off, none⟩) zs.length d) := by simp [go_sem]
  have hz : (((w.alloc (.cells #[.int .i64 c, .int .i64 f, .slice (some ⟨b, off, none⟩) zs.length d] 24)).alloc (.cells #[.int .i64 c] 2)).alloc (.cells #[.int .i64 (zs.length : Int)] 2)).heap.size = w.heap.size + 3 := by simp
  obtain ⟨W, hW⟩ : ∃ W, (((w.alloc (.cells #[.int .i64 c, .int .i64 f, .slice (some ⟨b, off, none⟩) zs.length d] 24)).alloc (.cells #[.int .i64 c] 2)).alloc (.cells #[.int .i64 (zs.length : Int)] 2)) = W := ⟨_, rfl⟩
  rw [hW] at hcg hbw hf hg hz ⊢
  clear hW HCG
  have HZ := Lib.hid hz; clear hz
  have HNEW := Lib.hid (show (W.alloc (.cells #[.int .i64 f] 2)).drew.cell? ⟨W.heap.size, 0, none⟩ = some (.int .i64 f) by simp [go_sem])
  have ew1 : IntKind.i64.wrap ((zs.length : Int) - 1) = (zs.length : Int) - 1 := IntWalk.i64_in _ (by omega)
  have ew2 : IntKind.i64.wrap (x - 1) = x - 1 := IntWalk.i64_in _ (by omega)
  have ei4 : (1 : Int) ≤ (zs.length : Int) := by omega
  have ei5 : (zs.length : Int) - 1 < (zs.length : Int) := by omega
  have ei6 : 1 ≤ zs.length := by omega
  go_region_held3 (fun w' => w'.cell? ⟨w.heap.size, 1, none⟩ = some (.int .i64 f) ∧ w'.cell? ⟨w.heap.size, 2, none⟩ = some (.slice (some ⟨b, off, none⟩) zs.length d) ∧ w'.cell? ⟨b, off + (zs.length - 1), none⟩ = some (.int .i64 x))
    (first | go_keep | (simp [go_sem, World.cell?_alloc_past]; done))
    ((go_at_call 35; refine (within_one _ _ f _ _ _ _ HNEW.out).mono ?_; rintro e w' ⟨rfl, rfl⟩))
  all_goals
    go_wp2
    go_ret
    exact ⟨rfl, Below.trans hbw (by have := HZ.out; go_grown)⟩

set_option maxHeartbeats 1000000 in
theorem validFlux_any (c f : Int) (a : Option Addr) (zs : List Int) (d : Nat) (w : World) (hl : zs.length ≤ 1048576) (h : SlA w a zs) :
    Calls Tryd.prog 25 #[.agg #[.int .i64 c, .int .i64 f, .slice a zs.length d]] w fun e w' => e = .returned (.bool (fluxOk c f zs)) ∧ Below w.heap.size w w' := by
  by_cases h1 : inB 4 200 c = true
  · by_cases h2 : inB 1 4000 (zs.length : Int) = true
    · have h2' := inB_iff.1 h2
      by_cases h3 : zs.all (inB 1 2000000) = true
      · by_cases h4 : zs.sum ≤ 2000000
        · refine (validFlux_last c f a zs d w h h1 h2 h3 h4).mono fun _ _ ⟨he, hb⟩ => ⟨?_, hb⟩
          rw [he]
          refine ret_bool ?_
          unfold fluxOk; rw [h1, h2, h3]; simp [h4]
        · have HE := Lib.hid (show fluxOk c f zs = false by unfold fluxOk; simp [h4])
          have c1 : ∀ w' (_ : Below w.heap.size w w'), Calls Tryd.prog 35 #[.int .i64 1, .int .i64 2000000, .slice a zs.length d] w' fun e w'' => e = .returned (.bool true) ∧ w' = w'' := fun w' hb => (within_sl 1 2000000 zs a d w' (by unfold maxLen; omega) (h.below hb (Nat.le_refl _))).mono fun _ _ ⟨he, hw⟩ => ⟨by rw [he, h3], hw⟩
          have c2 : ∀ w' (_ : Below w.heap.size w w'), Calls Tryd.prog 38 #[.slice a zs.length d] w' fun e w'' => e = .returned (.int .i64 zs.sum) ∧ w' = w'' := fun w' hb => sum_any a zs d w' (by omega) h3 (h.below hb (Nat.le_refl _))
          obtain ⟨s, hs⟩ : ∃ s, zs.sum = s := ⟨_, rfl⟩
          rw [hs] at c2 h4
          clear hs
          have C1 := Lib.hid c1; have C2 := Lib.hid c2; clear c1 c2 h h3
          go_enter Tryd.func25, Tryd.ntmps25
          go_wp2_with fail
          refine (within_at _ _ _ _ _ _ (by simp)).mono ?_
          rintro e w' ⟨rfl, rfl⟩
          go_wp2_with fail
          refine (within_at _ _ _ _ _ _ (by simp)).mono ?_
          rintro e w' ⟨rfl, rfl⟩
          go_wp2_with fail
          refine (C1.out _ (by go_grown)).mono ?_
          rintro e w' ⟨rfl, rfl⟩
          go_wp2_with fail
          refine (C2.out _ (by go_grown)).mono ?_
          rintro e w' ⟨rfl, rfl⟩
          go_wp2
          go_ret
          exact ⟨ret_bool HE.out.symm, by go_grown⟩
      · have h3 : zs.all (inB 1 2000000) = false := by simpa using h3
        have HE := Lib.hid (show fluxOk c f zs = false by unfold fluxOk; rw [h3]; simp)
        have c1 : ∀ w' (_ : Below w.heap.size w w'), Calls Tryd.prog 35 #[.int .i64 1, .int .i64 2000000, .slice a zs.length d] w' fun e w'' => e = .returned (.bool false) ∧ w' = w'' := fun w' hb => (within_sl 1 2000000 zs a d w' (by unfold maxLen; omega) (h.below hb (Nat.le_refl _))).mono fun _ _ ⟨he, hw⟩ => ⟨by rw [he, h3], hw⟩
        have C1 := Lib.hid c1; clear c1 h h3
        go_enter Tryd.func25, Tryd.ntmps25
        go_wp2_with fail
        refine (within_at _ _ _ _ _ _ (by simp)).mono ?_
        rintro e w' ⟨rfl, rfl⟩
        go_wp2_with fail
        refine (within_at _ _ _ _ _ _ (by simp)).mono ?_
        rintro e w' ⟨rfl, rfl⟩
        go_wp2_with fail
        refine (C1.out _ (by go_grown)).mono ?_
        rintro e w' ⟨rfl, rfl⟩
        go_wp2
        go_ret
        exact ⟨ret_bool HE.out.symm, by go_grown⟩
    · have h2 : inB 1 4000 (zs.length : Int) = false := by simpa using h2
      have HE := Lib.hid (show fluxOk c f zs = false by unfold fluxOk; rw [h2]; simp)
      go_enter Tryd.func25, Tryd.ntmps25
      go_wp2_with fail
      refine (within_at _ _ _ _ _ _ (by simp)).mono ?_
      rintro e w' ⟨rfl, rfl⟩
      go_wp2_with fail
      refine (within_at _ _ _ _ _ _ (by simp)).mono ?_
      rintro e w' ⟨rfl, rfl⟩
      go_wp2
      go_ret
      exact ⟨ret_bool HE.out.symm, by go_grown⟩
  · have h1 : inB 4 200 c = false := by simpa using h1
    have HE := Lib.hid (show fluxOk c f zs = false by unfold fluxOk; rw [h1]; simp)
    go_enter Tryd.func25, Tryd.ntmps25
    go_wp2_with fail
    refine (within_at _ _ _ _ _ _ (by simp)).mono ?_
    rintro e w' ⟨rfl, rfl⟩
    go_wp2
    go_ret
    exact ⟨ret_bool HE.out.symm, by go_grown⟩
end Go.Proofs.YtfedlehibkgjbaaDoor
