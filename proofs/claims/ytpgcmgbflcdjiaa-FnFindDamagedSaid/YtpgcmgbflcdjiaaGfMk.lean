/- impl.isParityGroup, impl.MakeParity; spec.l23Group, spec.l23Make, spec.MakeParity. -/
import Derived.Test.YtpgcmgbflcdjiaaGfPv
namespace Go.Proofs.Ytpgcmgbflcdjiaa
open Go.RowKit
open Gf
set_option linter.unusedVariables false
set_option maxRecDepth 20000
theorem isParityCount_any (a : Option Addr) (es : List StringV) (c : Nat) (w : World) :
    Calls Try.prog 53 #[.slice a es.length c] w fun x w' => x = .returned (.bool (inB 1 128 (es.length : Nat))) ∧ Below w.heap.size w w' := by
  have WI := Lib.hid (fun w T b hb => within_r 1 128 ((es.length : Nat) : Int) w T b hb)
  obtain ⟨L, hL⟩ : ∃ L, es.length = L := ⟨_, rfl⟩
  rw [hL] at WI ⊢
  clear hL
  go_enter Try.func53, Try.ntmps53
  go_wp2_with fail
  refine (WI.out _ _ _ (by first | rfl | simp)).mono ?_
  rintro e w1 ⟨rfl, hb1⟩
  go_wp2
  go_ret
  exact ⟨rfl, hb1⟩
theorem isParityGroup_any (a : Option Addr) (es : List StringV) (c : Nat) (w : World) (hm : es.length ≤ 1048576) (hs : ∀ e ∈ es, e.f0.size ≤ maxLen) (h : SlS rowString w a es) :
    Calls Try.prog 46 #[.slice a es.length c] w fun x w' => x = .returned (.bool (pgB es)) ∧ Below w.heap.size w w' := by
  have IC := Lib.hid (isParityCount_any a es c w)
  have PS := Lib.hid (fun w' (hb : Below w.heap.size w w') => haveParitySize_any a es c w' hm hs (h.below hb (Nat.le_refl _)))
  unfold pgB
  clear h hs hm
  generalize psB es = y at *
  obtain ⟨x, hx⟩ : ∃ x, inB 1 128 ((es.length : Nat) : Int) = x := ⟨_, rfl⟩
  rw [hx] at IC ⊢
  clear hx
  generalize es.length = L at *
  cases x
  · go_enter Try.func46, Try.ntmps46
    go_wp2_with fail
    refine IC.out.mono ?_
    rintro e w1 ⟨rfl, hb1⟩
    go_wp2
    go_ret
    exact ⟨rfl, hb1⟩
  · go_enter Try.func46, Try.ntmps46
    go_wp2_with fail
    refine IC.out.mono ?_
    rintro e w1 ⟨rfl, hb1⟩
    go_wp2_with fail
    refine (PS.out _ hb1).mono ?_
    rintro e w2 ⟨rfl, hb2⟩
    go_wp2
    go_ret
    exact ⟨by simp, gbel hb2 hb1⟩
theorem makeParity_any (a : Option Addr) (c : Nat) (es : List StringV) (hm : es.length ≤ 1048576) (hs : ∀ e ∈ es, e.f0.size ≤ 1048576) (w : World) (h : SlS rowString w a es) :
    Calls Try.prog 26 #[.slice a es.length c] w fun e w' => e = .returned (.tuple #[.string (parS hP es), .string (parS hQ es), .int .i64 (parC es)]) ∧ Below w.heap.size w w' := by
  have IG := Lib.hid (isParityGroup_any a es c w hm (fun e he => by have := hs e he; unfold maxLen; omega) h)
  have PO := Lib.hid (fun (hg : pgB es = true) w' (hb : Below w.heap.size w w') => parityOf_any a c es w' hg (h.below hb (Nat.le_refl _)))
  cases hg : pgB es with
  | false =>
    have e1 : parS hP es = ⟨#[]⟩ := by unfold parS; rw [hg]; rfl
    have e2 : parS hQ es = ⟨#[]⟩ := by unfold parS; rw [hg]; rfl
    have e3 : parC es = 1 := by unfold parC; rw [hg]; rfl
    rw [e1, e2, e3]
    rw [hg] at IG
    clear PO e1 e2 e3 h hs hm hg
    go_enter Try.func26, Try.ntmps26
    go_wp2_with fail
    refine IG.out.mono ?_
    rintro e w1 ⟨rfl, hb1⟩
    go_wp2
    go_ret3
    exact ⟨rfl, hb1⟩
  | true =>
    have e3 : parC es = 0 := by unfold parC; rw [hg]; rfl
    rw [e3]
    have PO2 := Lib.hid (PO.out hg)
    rw [hg] at IG
    clear PO e3 h hs hm hg
    go_enter Try.func26, Try.ntmps26
    go_wp2_with fail
    refine IG.out.mono ?_
    rintro e w1 ⟨rfl, hb1⟩
    go_wp2_with fail
    refine (PO2.out _ hb1).mono ?_
    rintro e w2 ⟨rfl, hb2⟩
    go_wp2
    go_ret3
    exact ⟨rfl, gbel hb2 hb1⟩
theorem slCell {w : World} {a : Option Addr} {es : List StringV} (h : SlS rowString w a es) (hne : 0 < es.length) : ∃ b off, a = some ⟨b, off, none⟩ ∧ b < w.heap.size ∧ ∀ k e, es[k]? = some e → w.cell? ⟨b, off + k, none⟩ = some (.string e.f0) := by
  obtain ⟨e0, he0⟩ : ∃ e0, es[0]? = some e0 := ⟨es[0], by simp⟩
  obtain ⟨b, off, rfl, hbl, hc0⟩ := SlS.at rowString_len h he0
  refine ⟨b, off, rfl, hbl, ?_⟩
  intro k e hk
  obtain ⟨b', off', hv, _, hc⟩ := SlS.at rowString_len h hk
  cases hv
  have := hc 0 _ rfl
  simpa using this
set_option maxHeartbeats 2000000 in
theorem l23Group_any (a : Option Addr) (c : Nat) (es : List StringV) (hm : es.length ≤ 1048576) (hs : ∀ e ∈ es, e.f0.size ≤ 1048576) (w : World) (h : SlS rowString w a es) :
    Calls Try.prog 44 #[.slice a es.length c] w fun e w' => e = .returned (.bool (pgB es)) ∧ Below w.heap.size w w' := by
  have hI := Lib.hid (fun n lo hi w => l00In_any n lo hi w)
  cases h1 : inB 1 128 ((es.length : Nat) : Int) with
  | false =>
    have e : pgB es = false := by unfold pgB; rw [h1]; rfl
    rw [e]
    have H1 := Lib.hid h1
    clear h1 e h hs hm
    generalize es.length = L at *
    go_enter Try.func44, Try.ntmps44
    go_wp2_with (go_at_call 33; refine (hI.out _ _ _ _).mono ?_; rintro e w1 ⟨rfl, rfl⟩; rw [H1.out])
    go_ret
    exact ⟨rfl, Below.refl _ _⟩
  | true =>
    have h1b := (inB_iff.1 h1)
    obtain ⟨b, off, rfl, hbl, hcs⟩ := slCell h (by omega)
    obtain ⟨e0, he0⟩ : ∃ e0, es[0]? = some e0 := ⟨es[0]'(by omega), by simp⟩
    have hc0 : w.cell? ⟨b, off, none⟩ = some (.string e0.f0) := by have := hcs 0 e0 he0; simpa using this
    have hl0 : len0 es = e0.f0.size := by unfold len0; rw [he0]; rfl
    have hemp : (!es.isEmpty) = true := by
      cases es with
      | nil => simp at h1b
      | cons _ _ => rfl
    have hs0 := hs e0 (List.mem_of_getElem? he0)
    have hL128 : es.length ≤ 128 := by omega
    have i1 : (0 : Int) < (es.length : Int) := by omega
    have i10 : 0 < es.length := by omega
    have e : pgB es = (allLen (len0 es) es && inB 1 64 ((len0 es : Nat) : Int)) := by unfold pgB psB; rw [h1, hemp]; simp
    rw [e, hl0]
    have H1 := Lib.hid h1
    clear h1 e h hm hemp h1b
    cases h2 : inB 1 64 ((e0.f0.size : Nat) : Int) with
    | false =>
      rw [Bool.and_false]
      have H2 := Lib.hid h2
      clear h2 hcs hs hl0 he0
      generalize es.length = L at *
      go_enter Try.func44, Try.ntmps44
      go_wp2_with (go_at_call 33; refine (hI.out _ _ _ _).mono ?_; rintro e w1 ⟨rfl, rfl⟩; first | rw [H1.out] | rw [H2.out])
      go_ret
      exact ⟨rfl, Below.refl _ _⟩
    | true =>
      rw [Bool.and_true]
      have H2 := Lib.hid h2
      have HS := Lib.hid hs
      have HC := Lib.hid hcs
      have HC0 := Lib.hid hc0
      clear h2 hcs hs hl0 he0
      go_enter Try.func44, Try.ntmps44
      go_wp2_with (go_at_call 33; refine (hI.out _ _ _ _).mono ?_; rintro e w1 ⟨rfl, rfl⟩; first | rw [H1.out] | rw [H2.out])
      clear hc0
      go_loopw [3] (fun i wr => ∃ k : Nat, k ≤ es.length ∧ i = .int .i64 k ∧ Hid ((es.take k).all (fun e => decide (e.f0.size = e0.f0.size)) = true) ∧ Below w.heap.size w wr) (fun i _ => es.length - (intOf i).toNat)
      case atStart => exact ⟨0, Nat.zero_le _, rfl, by unfold Hid; simp, Below.refl _ _⟩
      case round =>
        obtain ⟨k, hk, rfl, ha, hb⟩ := hrel
        have k0 : wr.cell? ⟨b, off, none⟩ = some (.string e0.f0) := by rw [hb.cell (p := ⟨b, off, none⟩) hbl]; exact HC0.out
        by_cases hlt : k < es.length
        · obtain ⟨x, hx⟩ : ∃ x, es[k]? = some x := ⟨es[k], by simp [hlt]⟩
          have kk : wr.cell? ⟨b, off + k, none⟩ = some (.string x.f0) := by rw [hb.cell (p := ⟨b, off + k, none⟩) hbl]; exact HC.out k x hx
          have hx1 := HS.out x (List.mem_of_getElem? hx)
          have HX := Lib.hid hx; clear hx
          have i2 : (k : Int) < (es.length : Int) := by omega
          by_cases hq : x.f0.size = e0.f0.size
          · have hne : ((x.f0.size : Int) != (e0.f0.size : Int)) = false := by simp; omega
            have HQ := Lib.hid (show (fun e : StringV => decide (e.f0.size = e0.f0.size)) x = true by simpa using hq)
            clear hq
            go_wp2
            go_region
            all_goals go_wp2
            all_goals go_roundw
            case rel => exact ⟨k + 1, by omega, by go_num, by unfold Hid; rw [all_take_snocE HX.out, ha.out, HQ.out]; rfl, hb.drew⟩
            case measure => simp [intOf]; omega
          · have hne : ((x.f0.size : Int) != (e0.f0.size : Int)) = true := by simp; omega
            have HQ := Lib.hid (show (fun e : StringV => decide (e.f0.size = e0.f0.size)) x = false by simpa using hq)
            clear hq
            go_wp2
            go_region
            all_goals
              go_wp2
              go_ret
              exact ⟨ret_bool (by unfold allLen; rw [all_false_ofE HX.out HQ.out]), hb.drew⟩
        · have et : es.take k = es := List.take_of_length_le (by omega)
          rw [et] at ha
          go_wp2
          go_ret
          exact ⟨ret_bool (by unfold allLen; rw [ha.out]), hb⟩
end Go.Proofs.Ytpgcmgbflcdjiaa
