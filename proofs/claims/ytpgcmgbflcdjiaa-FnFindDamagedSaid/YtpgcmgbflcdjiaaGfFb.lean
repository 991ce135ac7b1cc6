/- impl.blockChangedBy. -/
import Derived.Test.YtpgcmgbflcdjiaaGfCk
namespace Go.Proofs.Ytpgcmgbflcdjiaa
open Go.RowKit
open Gf
set_option linter.unusedVariables false
set_option maxRecDepth 20000
/-- The first block whose change explains both changes. -/
def fdI (dp dq : List UInt8) (N : Nat) : Option Nat := (List.range N).find? (fun i => mL (pw i) dp == dq)
def fdK (dp dq : List UInt8) (N : Nat) : Int := match fdI dp dq N with | some i => (i : Int) | none => 0
def fdE (dp dq : List UInt8) (N : Nat) : Int := match fdI dp dq N with | some _ => 0 | none => 10
theorem fdI_some {dp dq : List UInt8} {N k : Nat} (hk : k < N) (h1 : ∀ i, i < k → mL (pw i) dp ≠ dq) (h2 : mL (pw k) dp = dq) : fdI dp dq N = some k := by
  unfold fdI
  rw [List.find?_range_eq_some]
  exact ⟨by simpa using h2, by simpa using hk, fun j hj => by simpa using h1 j hj⟩
theorem fdI_none {dp dq : List UInt8} {N : Nat} (h1 : ∀ i, i < N → mL (pw i) dp ≠ dq) : fdI dp dq N = none := by
  unfold fdI
  rw [List.find?_range_eq_none]
  exact fun i hi => by simpa using h1 i hi
theorem take_step {l : List UInt8} {j : Nat} {x : UInt8} (h : l[j]? = some x) : l.take (j + 1) = l.take j ++ [x] := by rw [List.take_add_one, h]; rfl
theorem mul_eq {x y : UInt8} {k : Nat} (h : (gmul x.toNat k : Nat) = y.toNat) : gU k x = y := by
  apply UInt8.toNat_inj.1; rw [gU_nat]; exact h
theorem mul_ne {dp dq : List UInt8} {j k : Nat} {x y : UInt8} (hx : dp[j]? = some x) (hy : dq[j]? = some y) (h : ¬ (gmul x.toNat k : Nat) = y.toNat) : mL k dp ≠ dq := by
  intro e
  have h1 := mL_at (k := k) hx
  rw [e, hy] at h1
  have h2 := Option.some.inj h1
  apply h
  rw [← gU_nat, ← h2]
theorem wp_inblock {P : Program} {c : Code} {K : Act → World → Prop} {R : Exit → Act → World → Prop} {a : Act} {w : World} (h : Code.wp P c (Exit.then K (fun _ _ _ => False)) a w) : Code.wp P c (Exit.then K R) a w :=
  wp_mono h (fun e a w h => by cases e <;> first | exact h | exact h.elim)
set_option maxHeartbeats 4000000 in
theorem blockChangedBy_any (g1 c1 g2 c2 n N : Nat) (dp dq : List UInt8) (w : World) (l1 : dp.length = n) (l2 : dq.length = n) (t1 : TBk w g1 dp) (t2 : TBk w g2 dq) (hn1 : 1 ≤ n) (hn2 : n ≤ 64) (hN : N ≤ 128) :
    Calls Try.prog 48 #[.slice (some ⟨g1, 0, none⟩) n c1, .slice (some ⟨g2, 0, none⟩) n c2, .int .i64 (N : Int)] w fun e w' => e = .returned (.tuple #[.int .i64 (fdK dp dq N), .int .i64 (fdE dp dq N)]) ∧ Below w.heap.size w w' := by
  have hg1 := t1.lt (by omega)
  have hg2 := t2.lt (by omega)
  have T := Lib.hid (And.intro t1 t2)
  have HL := Lib.hid (And.intro l1 l2)
  clear t1 t2 l1 l2
  have hw64 : IntKind.i64.wrap (N : Int) = (N : Int) := IntWalk.i64_in _ (by omega)
  go_enter Try.func48, Try.ntmps48
  go_wp2
  go_step3
  go_wp2
  go_step3
  go_wp2
  go_loopw [8, 9, 10, 11, 13] (fun _ _ _ _ i wr => ∃ k : Nat, k ≤ N ∧ i = .int .i64 k ∧ Hid (∀ i, i < k → mL (pw i) dp ≠ dq) ∧ Below w.heap.size w wr) (fun _ _ _ _ i _ => N - (intOf i).toNat)
  case atStart => exact ⟨0, Nat.zero_le _, rfl, by unfold Hid; intro i hi; omega, Below.refl _ _⟩
  case round =>
    obtain ⟨k, hk, rfl, ha, hb⟩ := hrel
    by_cases hlt : k < N
    · have GP := Lib.hid (fun w => gfPow_any (k : Int) w)
      rw [pwV_nat] at GP
      have hpl := pw_lt k
      have HA := ha
      have HB := Lib.hid hb
      clear hb
      obtain ⟨W0, rfl⟩ : ∃ W0, W0 = wr := ⟨_, rfl⟩
      go_wp2_with (go_at_call 16; refine (GP.out _).mono ?_; rintro e wq ⟨rfl, rfl⟩)
      go_hide hQ
      go_loopw [10, 11, 20] (fun _ _ i wi => ∃ j : Nat, j ≤ n ∧ i = .int .i64 j ∧ Hid ((mL (pw k) dp).take j = dq.take j) ∧ Below W0.heap.size W0 wi) (fun _ _ i _ => n - (intOf i).toNat)
      case atStart => exact ⟨0, Nat.zero_le _, rfl, by unfold Hid; simp, Below.refl _ _⟩
      case round =>
        obtain ⟨j, hj, rfl, hE, hbi⟩ := hrel
        by_cases hltj : j < n
        · obtain ⟨x, x0⟩ : ∃ x, dp[j]? = some x := ⟨dp[j]'(by have := HL.out.1; omega), by simp⟩
          obtain ⟨y, y0⟩ : ∃ y, dq[j]? = some y := ⟨dq[j]'(by have := HL.out.2; omega), by simp⟩
          have hx8 := x.toNat_lt
          have hy8 := y.toNat_lt
          have HBI := Lib.hid (HB.out.trans (hbi.mono HB.out.size))
          have KX := Lib.hid (fun w' (hb : Below w.heap.size w w') => show w'.cell? ⟨g1, j, none⟩ = some (.int .u8 (x.toNat : Int)) from by
            have h := ((T.out.1.below hb hg1) j (by have := HL.out.1; omega)).1
            have h2 := (List.getElem?_eq_some_iff.1 x0).2
            rw [h2] at h; exact h)
          have KY := Lib.hid (fun w' (hb : Below w.heap.size w w') => show w'.cell? ⟨g2, j, none⟩ = some (.int .u8 (y.toNat : Int)) from by
            have h := ((T.out.2.below hb hg2) j (by have := HL.out.2; omega)).1
            have h2 := (List.getElem?_eq_some_iff.1 y0).2
            rw [h2] at h; exact h)
          have kx := KX.out wr HBI.out
          have ky := KY.out wr HBI.out
          have hG := gmul_lt (b := pw k) hx8
          have hwx : IntKind.i64.wrap ((x.toNat : Nat) : Int) = ((x.toNat : Nat) : Int) := IntWalk.i64_in _ (by omega)
          have hwy : IntKind.i64.wrap ((y.toNat : Nat) : Int) = ((y.toNat : Nat) : Int) := IntWalk.i64_in _ (by omega)
          have MU := Lib.hid (fun w => gfMul_nat x.toNat (pw k) hx8 hpl w)
          have HXY := Lib.hid (And.intro x0 y0)
          clear x0 y0
          by_cases hq : gmul x.toNat (pw k) = y.toNat
          · have hne : (((gmul x.toNat (pw k) : Nat) : Int) != ((y.toNat : Nat) : Int)) = false := by simp; omega
            have HQ2 := Lib.hid (mul_eq hq)
            clear hq
            go_wp2
            refine wp_inblock ?_
            go_region_with
              (first
                | (go_at_call 14; refine (MU.out _).mono ?_; rintro e w1 ⟨rfl, hb1⟩; have HB1 := Lib.hid (gbel hb1 (by first | exact hbi | exact hbi.drew)); have ky1 := KY.out w1 (HB.out.trans (HB1.out.mono HB.out.size)); clear hb1)
                | fail)
            all_goals
              go_wp2
              go_roundw
              case rel =>
                refine ⟨j + 1, by omega, by go_num, ?_, (by first | exact HB1.out | exact HB1.out.drew)⟩
                unfold Hid
                rw [take_step (mL_at HXY.out.1), take_step HXY.out.2, HQ2.out, hE.out]
              case measure => simp [intOf]; omega
          · have hne : (((gmul x.toNat (pw k) : Nat) : Int) != ((y.toNat : Nat) : Int)) = true := by simp; omega
            have HQ2 := Lib.hid (mul_ne HXY.out.1 HXY.out.2 hq)
            clear hq
            go_wp2
            refine wp_inblock ?_
            go_region_with
              (first
                | (go_at_call 14; refine (MU.out _).mono ?_; rintro e w1 ⟨rfl, hb1⟩; have HB1 := Lib.hid (gbel hb1 (by first | exact hbi | exact hbi.drew)); have ky1 := KY.out w1 (HB.out.trans (HB1.out.mono HB.out.size)); clear hb1)
                | fail)
            all_goals
              go_wp2
              subst hQ
              go_wp2
              go_roundw
              case rel =>
                refine ⟨k + 1, by omega, by go_num, ?_, (by first | exact HB.out.trans (HB1.out.mono HB.out.size) | exact (HB.out.trans (HB1.out.mono HB.out.size)).drew)⟩
                unfold Hid
                intro i hi
                by_cases hik : i < k
                · exact HA.out i hik
                · obtain rfl : i = k := by omega
                  exact HQ2.out
              case measure => simp [intOf]; omega
        · have hl : mL (pw k) dp = dq := by
            have h1 := mL_len (pw k) HL.out.1
            have h2 := HL.out.2
            have h := hE.out
            rwa [List.take_of_length_le (by omega), List.take_of_length_le (by omega)] at h
          have HF := Lib.hid (fdI_some hlt HA.out hl)
          clear hl
          go_wp2
          subst hQ
          go_wp2
          rw [Exit.noGoto_ret]
          go_wp2
          go_ret2
          exact ⟨by unfold fdK fdE; rw [HF.out]; rfl, HB.out.trans (hbi.mono HB.out.size)⟩
    · obtain rfl : k = N := by omega
      have HF := Lib.hid (fdI_none ha.out)
      go_wp2
      rw [Exit.noGoto_ret]
      go_wp2
      go_ret2
      exact ⟨by unfold fdK fdE; rw [HF.out]; rfl, hb⟩
end Go.Proofs.Ytpgcmgbflcdjiaa
