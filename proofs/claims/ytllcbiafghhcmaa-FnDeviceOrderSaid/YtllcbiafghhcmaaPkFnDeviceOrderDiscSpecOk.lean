/- spec.l12Ok, spec.ValidDisc -/
import Derived.Test.YtllcbiafghhcmaaPkFnDeviceOrderDiscSpec
import Derived.Test.YtllcbiafghhcmaaPkFnDeviceOrderDiscOkN
namespace Go.Proofs.Ytllcbiafghhcmaa
open Go.RowKit
set_option linter.unusedVariables false
set_option linter.unusedSimpArgs false
set_option maxRecDepth 20000
set_option maxHeartbeats 4000000 in
theorem l12Ok_any (x : DiscV) (a : Option Addr) (c p : Nat) (w : World) (hm : x.f4.length ≤ 1048576) (hs : ∀ e ∈ x.f4, e.f0.size ≤ maxLen) (hp : BoxAt w p #[.int .i64 x.f0, .int .i64 x.f1, .int .i64 x.f2, .int .i64 x.f3, .slice a x.f4.length c]) (h : SlS rowSector w a x.f4) :
    Calls Try.prog 53 #[.pointer (some ⟨p, 0, none⟩)] w fun e w' => e = .returned (.bool (discB x)) ∧ Below w.heap.size w w' := by
  obtain ⟨f0, f1, f2, f3, es⟩ := x
  dsimp only at hm hs hp h ⊢
  have hplt := hp.lt (by simp)
  have c0 := hp 0 _ rfl
  have c1 := hp 1 _ rfl
  have c2 := hp 2 _ rfl
  have c3 := hp 3 _ rfl
  have c4 := hp 4 _ rfl
  have GE := Lib.hid (fun w => l12Geometry_any f0 f1 f2 f3 w)
  unfold discB
  dsimp only
  by_cases hg : geoB f0 f1 f2 f3 = true
  case neg =>
    have hg0 : geoB f0 f1 f2 f3 = false := by simpa using hg
    rw [hg0] at GE ⊢
    clear hg hg0 h hs hp
    go_enter Try.func53, Try.ntmps53
    go_wp2
    go_quiet ((go_at_call 78; exact Calls.quiet_of_same ((GE.out _).mono fun _ _ ⟨he, hw⟩ => ⟨he, hw.symm⟩)))
    go_wp2
    go_ret
    exact ⟨rfl, below_drewN' (Below.refl _ _) _⟩
  obtain ⟨g0, g1, g2, hz3⟩ := geoB_iff.1 hg
  obtain ⟨m0, m1, m2, m3⟩ := mul_bound g0 g1 g2
  have hz : inB 0 2 f3 = true := inB_iff.2 hz3
  obtain ⟨n, hn1, hn2, hn3⟩ := secN_three hz
  have hw1 : wrap64 (f0 * f1) = f0 * f1 := by unfold wrap64; omega
  have hw2 : wrap64 (f0 * f1 * f2) = f0 * f1 * f2 := by unfold wrap64; omega
  have BY := Lib.hid (fun w => l12Bytes_any f3 n w hz hn1)
  rw [hn2]
  rw [hg] at GE ⊢
  have hn4 : n ≤ 1048576 := by omega
  clear g0 g1 g2 hz3 hz hn1 hn2 hn3 hg m2 m3
  by_cases hl : (es.length : Int) = f0 * f1 * f2
  case neg =>
    have hlb : ((es.length : Int) != f0 * f1 * f2) = true := by simp [hl]
    have HL := Lib.hid (show decide ((es.length : Int) = f0 * f1 * f2) = false by simp [hl])
    clear hl h hs hp
    go_enter Try.func53, Try.ntmps53
    go_wp2
    go_quiet ((go_at_call 78; exact Calls.quiet_of_same ((GE.out _).mono fun _ _ ⟨he, hw⟩ => ⟨he, hw.symm⟩)))
    go_wp2
    go_ret
    exact ⟨ret_bool (by rw [HL.out]; rfl), below_drewN' (Below.refl _ _) _⟩
  have hlb : ((es.length : Int) != f0 * f1 * f2) = false := by simp [hl]
  have HL := Lib.hid (show decide ((es.length : Int) = f0 * f1 * f2) = true by simp [hl])
  clear hl
  go_enter Try.func53, Try.ntmps53
  go_wp2
  go_quiet ((go_at_call 78; exact Calls.quiet_of_same ((GE.out _).mono fun _ _ ⟨he, hw⟩ => ⟨he, hw.symm⟩)))
  rename_i nq
  have FBQ := Lib.hid (show Below w.heap.size w (w.drewN nq) from below_drewN' (Below.refl _ _) _)
  generalize w.drewN nq = wq at FBQ ⊢
  go_wp2
  clear c0 c1 c2 c3 c4 hlb hw1 hw2 m0 m1
  go_loopw [3] (fun i wr => ∃ k : Nat, k ≤ es.length ∧ i = .int .i64 k ∧ Hid ((es.take k).all (secOkB n) = true) ∧ Below w.heap.size w wr) (fun i _ => es.length - (intOf i).toNat)
  case atStart => exact ⟨0, Nat.zero_le _, rfl, by unfold Hid; rfl, FBQ.out⟩
  case round =>
    obtain ⟨k, hk, rfl, hR, hb⟩ := hrel
    have BP := hp.below hb hplt
    have c3 := BP 3 _ rfl
    have c4 := BP 4 _ rfl
    by_cases hlt : k < es.length
    · obtain ⟨e, hx⟩ : ∃ e, es[k]? = some e := ⟨es[k], by simp [hlt]⟩
      obtain ⟨b, off, rfl, hbl, hc⟩ := (h.below hb (Nat.le_refl _)).at rowSector_len hx
      have LS := Lib.hid (fun w => l12Sector_any e n w (hs e (List.mem_of_getElem? hx)) hn4)
      obtain ⟨q, hq⟩ : ∃ q, secOkB n e = q := ⟨_, rfl⟩
      rw [hq] at LS
      have HQ := Lib.hid hq; clear hq
      have hpl2 : p < wr.heap.size := Nat.lt_of_lt_of_le hplt hb.size
      have KS := Lib.hid (fun w' (hbw : Below wr.heap.size wr w') => (show w'.cell? ⟨p, 3, none⟩ = some (.int .i64 f3) ∧ w'.cell? ⟨p, 4, none⟩ = some (.slice (some ⟨b, off, none⟩) es.length c) ∧ w'.cell? ⟨b, off + k * 2, none⟩ = some (.string e.f0) ∧ w'.cell? ⟨b, off + k * 2 + 1, none⟩ = some (.int .i64 e.f1) from ⟨(BP.below hbw hpl2) 3 _ rfl, (BP.below hbw hpl2) 4 _ rfl, (hc.below hbw hbl) 0 _ rfl, (hc.below hbw hbl) 1 _ rfl⟩))
      obtain ⟨_, _, d0, d1⟩ := KS.out _ (Below.refl _ _)
      have hks : wr.cell? ⟨p, 3, none⟩ = some (.int .i64 f3) ∧ wr.cell? ⟨p, 4, none⟩ = some (.slice (some ⟨b, off, none⟩) es.length c) ∧ wr.cell? ⟨b, off + k * 2, none⟩ = some (.string e.f0) ∧ wr.cell? ⟨b, off + k * 2 + 1, none⟩ = some (.int .i64 e.f1) := KS.out _ (Below.refl _ _)
      have HC := Lib.hid (show Below wr.heap.size wr wr.drew from (Below.refl _ _).drew)
      have H := Lib.hid (And.intro h (And.intro hc (And.intro hx (And.intro hp hs)))); clear h hc hx hp BP hs d0 d1 FBQ
      have e1 : (k : Int) < es.length := by omega
      go_wp2
      go_region_held3 (fun w' => w'.cell? ⟨p, 3, none⟩ = some (.int .i64 f3) ∧ w'.cell? ⟨p, 4, none⟩ = some (.slice (some ⟨b, off, none⟩) es.length c) ∧ w'.cell? ⟨b, off + k * 2, none⟩ = some (.string e.f0) ∧ w'.cell? ⟨b, off + k * 2 + 1, none⟩ = some (.int .i64 e.f1))
        (first | (with_reducible exact KS.out _ HC.out) | go_keep)
        (first
          | (go_at_call 43; ((with_reducible refine (BY.out _).mono ?_); rintro e_ w3 ⟨rfl, rfl⟩))
          | (go_at_call 79; ((with_reducible refine (LS.out _).mono ?_); rintro e_ w4 ⟨rfl, hb4⟩; replace HC := Lib.hid (HC.out.trans (hb4.mono HC.out.size))))
          | fail)
      all_goals
        have HF := Lib.hid (hb.trans (HC.out.mono hb.size))
        clear hks KS HC hb4 c3 c4
        cases q with
        | false =>
          have HR := Lib.hid (show es.all (secOkB n) = false from List.all_eq_false.2 ⟨e, List.mem_of_getElem? H.out.2.2.1, by rw [HQ.out]; simp⟩)
          go_wp2
          go_ret
          exact ⟨ret_bool (by rw [HR.out, HL.out]; rfl), HF.out⟩
        | true =>
          go_wp2
          go_roundw
          case rel => exact ⟨k + 1, by omega, by go_num, by unfold Hid; rw [List.take_add_one, H.out.2.2.1, List.all_append, hR.out]; simp [HQ.out], HF.out⟩
          case measure => simp [intOf]; omega
    · obtain rfl : k = es.length := by omega
      have HR := Lib.hid (show es.all (secOkB n) = true by have := hR.out; rwa [List.take_length] at this)
      go_wp2
      go_ret
      exact ⟨ret_bool (by rw [HR.out, HL.out]; rfl), hb⟩
set_option maxHeartbeats 1000000 in
theorem specValidDisc_g (x : DiscV) (a : Option Addr) (c : Nat) (hm : x.f4.length ≤ 1048576) (hs : ∀ e ∈ x.f4, e.f0.size ≤ 1048576) (w : World) (h : SlS rowSector w a x.f4) :
    Calls Try.prog 14 #[.agg #[.int .i64 x.f0, .int .i64 x.f1, .int .i64 x.f2, .int .i64 x.f3, .slice a x.f4.length c]] w fun e w' => e = .returned (.bool (discB x)) ∧ Below w.heap.size w w' := by
  have hs2 : ∀ e ∈ x.f4, e.f0.size ≤ maxLen := fun e he => by have := hs e he; unfold maxLen; omega
  have OK := Lib.hid (fun w' (hb : Below w.heap.size w w') hp => l12Ok_any x a c w.heap.size w' hm hs2 hp (h.below hb (Nat.le_refl _)))
  have BX := Lib.hid (BoxAt.new w #[.int .i64 x.f0, .int .i64 x.f1, .int .i64 x.f2, .int .i64 x.f3, .slice a x.f4.length c] 26 _ rfl)
  clear h hs hs2
  go_enter Try.func14, Try.ntmps14
  go_wp2_with fail
  refine (OK.out _ ((Below.refl _ _).alloc (Nat.le_refl _) _) BX.out).mono ?_
  rintro e w1 ⟨rfl, hb1⟩
  go_wp2
  go_ret
  exact ⟨rfl, Below.trans ((Below.refl _ _).alloc (Nat.le_refl _) _) (hb1.mono (by simp))⟩
end Go.Proofs.Ytllcbiafghhcmaa
