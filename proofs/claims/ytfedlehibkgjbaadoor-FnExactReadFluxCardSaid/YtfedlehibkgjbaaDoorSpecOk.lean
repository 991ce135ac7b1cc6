/- spec.l02Ok -/
import Derived.Test.YtfedlehibkgjbaaDoorValidFlux
namespace Go.Proofs.YtfedlehibkgjbaaDoor
open Go.RowKit
set_option linter.unusedVariables false
/-- In the world w the address p holds these three fields. -/
def FluxAt (w : World) (p : Nat) (c f : Int) (a : Option Addr) (n d : Nat) : Prop :=
  w.cell? ⟨p, 0, none⟩ = some (.int .i64 c) ∧ w.cell? ⟨p, 1, none⟩ = some (.int .i64 f) ∧ w.cell? ⟨p, 2, none⟩ = some (.slice a n d)
theorem FluxAt.below {w w' : World} {B p : Nat} {c f : Int} {a : Option Addr} {n d : Nat} (h : FluxAt w p c f a n d) (hb : Below B w w') (hp : p < B) : FluxAt w' p c f a n d :=
  ⟨by rw [hb.cell (p := ⟨p, 0, none⟩) hp]; exact h.1, by rw [hb.cell (p := ⟨p, 1, none⟩) hp]; exact h.2.1, by rw [hb.cell (p := ⟨p, 2, none⟩) hp]; exact h.2.2⟩
theorem FluxAt.new (w : World) (c f : Int) (a : Option Addr) (n d : Nat) (T : TypeId) (p : Nat) (hp : w.heap.size = p) : FluxAt (w.alloc (.cells #[.int .i64 c, .int .i64 f, .slice a n d] T)) p c f a n d := by
  subst hp
  exact ⟨by simp [go_sem], by simp [go_sem], by simp [go_sem]⟩
theorem FluxAt.drew {w : World} {p : Nat} {c f : Int} {a : Option Addr} {n d : Nat} (h : FluxAt w p c f a n d) : FluxAt w.drew p c f a n d := h
theorem FluxAt.lt {w : World} {p : Nat} {c f : Int} {a : Option Addr} {n d : Nat} (h : FluxAt w p c f a n d) : p < w.heap.size := World.block_lt_of_cell? w _ h.1
theorem fluxOk_all_no {c f : Int} {zs : List Int} {k : Nat} {x : Int} (h : zs[k]? = some x) (hx : inB 1 2000000 x = false) : fluxOk c f zs = false := by
  unfold fluxOk; rw [all_false_of h hx]; simp
set_option maxHeartbeats 1000000 in
theorem l02Ok_any (p : Nat) (c f : Int) (a : Option Addr) (zs : List Int) (d : Nat) (w : World) (hl : zs.length ≤ 1048576) (hf : FluxAt w p c f a zs.length d) (h : SlA w a zs) :
    Calls Tryd.prog 23 #[.pointer (some ⟨p, 0, none⟩)] w fun e w' => e = .returned (.bool (fluxOk c f zs)) ∧ Below w.heap.size w w' := by
  obtain ⟨hc0, hc1, hc2⟩ := hf
  by_cases h1 : inB 4 200 c = true
  · by_cases h2 : inB 1 4000 (zs.length : Int) = true
    · have h2' := inB_iff.1 h2
      have hn1 : ¬ zs.length < 1 := by omega
      have hn2 : ¬ 4000 < zs.length := by omega
      obtain ⟨g, hg⟩ := getOf (zs := zs) (k := zs.length - 1) (by omega)
      have hlast := Lib.hid hg; clear hg
      obtain ⟨b, off, rfl, hcl⟩ := h.cell hlast.out
      have H := Lib.hid h; clear h
      have H12 := Lib.hid (And.intro h1 h2); clear h2
      go_enter Tryd.func23, Tryd.ntmps23
      go_wp2_with (go_at_call 42; refine (l00In_any _ _ _ _).mono ?_; rintro e w' ⟨rfl, rfl⟩)
      clear h1
      go_loop [4, 5] (fun s i => ∃ k : Nat, k ≤ zs.length ∧ i = .int .i64 k ∧ Hid ((zs.take k).all (inB 1 2000000) = true) ∧ ∃ m : Int, s = .int .i64 m ∧ 0 ≤ m ∧ m ≤ 2000000 * (k : Int) ∧ Hid (m = (zs.take k).sum)) (fun _ i => zs.length - (intOf i).toNat)
      case atStart => exact ⟨0, Nat.zero_le _, rfl, by unfold Hid; rfl, 0, rfl, by omega, by omega, by unfold Hid; simp⟩
      case round =>
        obtain ⟨k, hk, rfl, ha, m, rfl, hm0, hm1, hs⟩ := hrel
        by_cases hlt : k < zs.length
        · obtain ⟨x, hx⟩ := getOf hlt
          obtain ⟨b', off', hbo, hcx⟩ := H.out.cell hx
          simp only [Option.some.injEq, Addr.mk.injEq, and_true] at hbo
          obtain ⟨rfl, rfl⟩ := hbo
          have HX := Lib.hid hx; clear hx
          have HCL := Lib.hid hcl
          by_cases hi : inB 1 2000000 x = true
          · have hi2 := inB_iff.1 hi
            go_wp2_with (go_at_call 42; refine (l00In_any _ _ _ _).mono ?_; rintro e w' ⟨rfl, rfl⟩)
            go_round
            case rel => exact ⟨k + 1, by omega, by go_num, by unfold Hid; rw [all_take_snoc HX.out, ha.out, hi]; rfl, m + x, rfl, by omega, by omega, by unfold Hid; rw [sum_snoc HX.out, hs.out]⟩
            case measure => simp [intOf]; omega
          · have hi0 : inB 1 2000000 x = false := by simpa using hi
            have HE := Lib.hid (fluxOk_all_no (c := c) (f := f) HX.out hi0); clear hi
            go_wp2_with (go_at_call 42; refine (l00In_any _ _ _ _).mono ?_; rintro e w' ⟨rfl, rfl⟩)
            go_ret
            exact ⟨ret_bool HE.out.symm, Below.refl _ _⟩
        · obtain rfl : k = zs.length := by omega
          have ha2 := ha.out
          have hs2 := hs.out
          rw [List.take_length] at ha2 hs2
          have hgx := bd_of_all ha2 hlast.out
          have hgl : zs[zs.length - 1]?.getD 0 = g := by rw [hlast.out]; rfl
          have HE := Lib.hid (show fluxOk c f zs = (decide (m ≤ 2000000) && inB 0 (g - 1) f) by unfold fluxOk; rw [H12.out.1, H12.out.2, ha2, hgl, hs2]; simp)
          have ei2 : ((zs.length : Int) - 1).toNat = zs.length - 1 := by omega
          have ei3 : (0 : Int) ≤ (zs.length : Int) - 1 := by omega
          have ew1 : IntKind.i64.wrap ((zs.length : Int) - 1) = (zs.length : Int) - 1 := IntWalk.i64_in _ (by omega)
          have ew2 : IntKind.i64.wrap (g - 1) = g - 1 := IntWalk.i64_in _ (by omega)
          have ei4 : (1 : Int) ≤ (zs.length : Int) := by omega
          have ei5 : (zs.length : Int) - 1 < (zs.length : Int) := by omega
          clear ha hs ha2 hs2 hgl
          by_cases hm : m ≤ 2000000
          · have hd : decide (m ≤ 2000000) = true := by simpa using hm
            go_wp2_with fail
            go_quiet ((go_at_call 42; exact Calls.quiet_of_same ((l00In_any _ _ _ _).mono fun _ _ ⟨he, hw⟩ => ⟨he, hw.symm⟩)))
            go_wp2
            go_ret
            refine ⟨ret_bool ?_, below_drewN (Below.refl _ _) _⟩
            rw [HE.out, hd]; rfl
          · have hd : decide (m ≤ 2000000) = false := by simpa using hm
            go_wp2_with fail
            go_quiet (fail)
            go_wp2
            go_ret
            refine ⟨ret_bool ?_, below_drewN (Below.refl _ _) _⟩
            rw [HE.out, hd]; rfl
    · have h2 : inB 1 4000 (zs.length : Int) = false := by simpa using h2
      have HE := Lib.hid (show fluxOk c f zs = false by unfold fluxOk; rw [h2]; simp)
      have h2n : zs.length < 1 ∨ 4000 < zs.length := by
        by_cases hq : zs.length < 1
        · exact .inl hq
        · right
          by_cases hq2 : 4000 < zs.length
          · exact hq2
          · have := inB_true (lo := 1) (hi := 4000) (n := (zs.length : Int)) (by omega) (by omega)
            rw [this] at h2; cases h2
      clear h2
      rcases h2n with hn | hn
      all_goals
        go_enter Tryd.func23, Tryd.ntmps23
        go_wp2_with (go_at_call 42; refine (l00In_any _ _ _ _).mono ?_; rintro e w' ⟨rfl, rfl⟩)
        go_ret
        exact ⟨ret_bool HE.out.symm, Below.refl _ _⟩
  · have h1 : inB 4 200 c = false := by simpa using h1
    have HE := Lib.hid (show fluxOk c f zs = false by unfold fluxOk; rw [h1]; simp)
    go_enter Tryd.func23, Tryd.ntmps23
    go_wp2_with (go_at_call 42; refine (l00In_any _ _ _ _).mono ?_; rintro e w' ⟨rfl, rfl⟩)
    go_ret
    exact ⟨ret_bool HE.out.symm, Below.refl _ _⟩
end Go.Proofs.YtfedlehibkgjbaaDoor
