/- impl.CheckParity, spec.CheckParity. -/
import Derived.Test.YtpgcmgbflcdjiaaGfMl
namespace Go.Proofs.Ytpgcmgbflcdjiaa
open Go.RowKit
open Gf
set_option linter.unusedVariables false
set_option maxRecDepth 20000
def ckC (es : List StringV) (p q : ByteArray) : Int := if pgB es && (decide (p.size = len0 es) && decide (q.size = len0 es)) then 0 else 1
def ckB (es : List StringV) (p q : ByteArray) : Bool := if ckC es p q = 0 then decide (p = parS hP es) && decide (q = parS hQ es) else false
theorem bytes_ne {a b : ByteArray} (h : a ≠ b) : (a.toList == b.toList) = false := by
  rw [beq_eq_false_iff_ne]
  intro e
  apply h
  have h2 : a.data.toList = b.data.toList := by simpa [ByteArray.toList_eq] using e
  cases a; cases b
  simp at h2
  rw [h2]
theorem three_strs (w : World) (p q b : ByteArray) (T : TypeId) : SlS rowString (w.alloc (.cells #[.string p, .string q, .string b] T)) (some ⟨w.heap.size, 0, none⟩) [⟨p⟩, ⟨q⟩, ⟨b⟩] := by
  refine .inr ⟨w.heap.size, 0, rfl, by simp, ?_⟩
  intro j v hv
  match j, hv with
  | 0, hv => simp [rowString] at hv; subst hv; simp [go_sem]
  | 1, hv => simp [rowString] at hv; subst hv; simp [go_sem]
  | 2, hv => simp [rowString] at hv; subst hv; simp [go_sem]
  | j + 3, hv => simp [rowString] at hv
theorem psB3 {a p q : ByteArray} (h1 : 1 ≤ a.size) (h2 : a.size ≤ 64) : psB [⟨a⟩, ⟨p⟩, ⟨q⟩] = (decide (p.size = a.size) && decide (q.size = a.size)) := by
  unfold psB allLen len0
  have : inB 1 64 (a.size : Int) = true := by simp [inB]; omega
  simp [this]
set_option maxHeartbeats 2000000 in
theorem checkParity_any (a : Option Addr) (c : Nat) (es : List StringV) (p q : ByteArray) (hm : es.length ≤ 1048576) (hs : ∀ e ∈ es, e.f0.size ≤ 1048576) (hp : p.size ≤ 1048576) (hq : q.size ≤ 1048576) (w : World) (h : SlS rowString w a es) :
    Calls Try.prog 29 #[.slice a es.length c, .string p, .string q] w fun e w' => e = .returned (.tuple #[.bool (ckB es p q), .int .i64 (ckC es p q)]) ∧ Below w.heap.size w w' := by
  have IG := Lib.hid (isParityGroup_any a es c w hm (fun e he => by have := hs e he; unfold maxLen; omega) h)
  cases hg : pgB es with
  | false =>
    have e1 : ckC es p q = 1 := by unfold ckC; rw [hg]; rfl
    have e2 : ckB es p q = false := by unfold ckB; rw [e1]; rfl
    rw [e1, e2]
    rw [hg] at IG
    clear e1 e2 h hs hm hg
    generalize es.length = L at *
    go_enter Try.func29, Try.ntmps29
    go_wp2_with fail
    refine IG.out.mono ?_
    rintro e w1 ⟨rfl, hb1⟩
    go_wp2
    go_ret2
    exact ⟨rfl, hb1⟩
  | true =>
    have PO := Lib.hid (fun w' (hb : Below w.heap.size w w') => parityOf_any a c es w' hg (h.below hb (Nat.le_refl _)))
    obtain ⟨p1, p2, p3, p4, p5⟩ := pgB_facts hg
    obtain ⟨b, off, rfl, hbl, hcs⟩ := slCell h (by omega)
    obtain ⟨e0, he0⟩ : ∃ e0, es[0]? = some e0 := ⟨es[0]'(by omega), by simp⟩
    have hc0 : w.cell? ⟨b, off, none⟩ = some (.string e0.f0) := by have := hcs 0 e0 he0; simpa using this
    have hl0 : e0.f0.size = len0 es := by unfold len0; rw [he0]; rfl
    have i1 : (0 : Int) < (es.length : Int) := by omega
    have hsz0 := hs e0 (List.mem_of_getElem? he0)
    have PS := Lib.hid (fun (w : World) T => haveParitySize_any (some ⟨w.heap.size, 0, none⟩) [⟨e0.f0⟩, ⟨p⟩, ⟨q⟩] 3 (w.alloc (.cells #[.string e0.f0, .string p, .string q] T)) (by simp) (by unfold maxLen; simp; omega) (three_strs w e0.f0 p q T))
    have e9 := psB3 (a := e0.f0) (p := p) (q := q) (by omega) (by omega)
    rw [e9] at PS
    have hck : ckC es p q = if (decide (p.size = e0.f0.size) && decide (q.size = e0.f0.size)) = true then 0 else 1 := by unfold ckC; rw [hg, hl0]; simp
    rw [hg] at IG
    have HC0 := Lib.hid hc0
    have hckb : ckB es p q = if ckC es p q = 0 then decide (p = parS hP es) && decide (q = parS hQ es) else false := rfl
    rw [hckb, hck]
    clear h hs hm hg p3 p4 p5 hcs he0 hl0 hck hckb e9
    generalize parS hP es = UP at *
    generalize parS hQ es = UQ at *
    generalize es.length = L at *
    generalize hd : (decide (p.size = e0.f0.size) && decide (q.size = e0.f0.size)) = d at *
    clear hd
    cases d with
    | false =>
      rw [if_neg (by decide), if_neg (by decide)]
      clear PO
      go_enter Try.func29, Try.ntmps29
      go_wp2_with fail
      refine IG.out.mono ?_
      rintro e w1 ⟨rfl, hb1⟩
      have k1 : w1.cell? ⟨b, off, none⟩ = some (.string e0.f0) := by rw [hb1.cell (p := ⟨b, off, none⟩) hbl]; exact HC0.out
      go_wp2_with fail
      refine (PS.out _ _).mono ?_
      rintro e w2 ⟨rfl, hb2⟩
      go_wp2
      go_ret2
      exact ⟨rfl, gbel ((Below.alloc (Below.refl _ _) (Nat.le_refl _) _).trans (hb2.mono (by simp))) hb1⟩
    | true =>
      rw [if_pos rfl, if_pos rfl]
      have HN1 := Lib.hid (fun h : p ≠ UP => bytes_ne h)
      have HN2 := Lib.hid (fun h : q ≠ UQ => bytes_ne h)
      by_cases hP1 : p = UP
      · by_cases hQ1 : q = UQ
        · subst hP1; subst hQ1
          go_enter Try.func29, Try.ntmps29
          go_wp2_with fail
          refine IG.out.mono ?_
          rintro e w1 ⟨rfl, hb1⟩
          have k1 : w1.cell? ⟨b, off, none⟩ = some (.string e0.f0) := by rw [hb1.cell (p := ⟨b, off, none⟩) hbl]; exact HC0.out
          go_wp2_with fail
          refine (PS.out _ _).mono ?_
          rintro e w2 ⟨rfl, hb2⟩
          have HB2 := Lib.hid (gbel ((Below.alloc (Below.refl w1.heap.size w1) (Nat.le_refl _) _).trans (hb2.mono (by simp))) hb1)
          clear hb2 hb1
          go_wp2_with fail
          refine (PO.out _ HB2.out).mono ?_
          rintro e w3 ⟨rfl, hb3⟩
          go_wp2
          go_ret2
          exact ⟨by simp, gbel hb3 HB2.out⟩
        · subst hP1
          have hne := HN2.out hQ1
          have hdq : decide (q = UQ) = false := by simpa using hQ1
          rw [hdq, Bool.and_false]
          clear hQ1 hdq
          go_enter Try.func29, Try.ntmps29
          go_wp2_with fail
          refine IG.out.mono ?_
          rintro e w1 ⟨rfl, hb1⟩
          have k1 : w1.cell? ⟨b, off, none⟩ = some (.string e0.f0) := by rw [hb1.cell (p := ⟨b, off, none⟩) hbl]; exact HC0.out
          go_wp2_with fail
          refine (PS.out _ _).mono ?_
          rintro e w2 ⟨rfl, hb2⟩
          have HB2 := Lib.hid (gbel ((Below.alloc (Below.refl w1.heap.size w1) (Nat.le_refl _) _).trans (hb2.mono (by simp))) hb1)
          clear hb2 hb1
          go_wp2_with fail
          refine (PO.out _ HB2.out).mono ?_
          rintro e w3 ⟨rfl, hb3⟩
          go_wp2
          go_ret2
          exact ⟨rfl, gbel hb3 HB2.out⟩
      · have hne := HN1.out hP1
        have hdq : decide (p = UP) = false := by simpa using hP1
        rw [hdq, Bool.false_and]
        clear hP1 hdq
        go_enter Try.func29, Try.ntmps29
        go_wp2_with fail
        refine IG.out.mono ?_
        rintro e w1 ⟨rfl, hb1⟩
        have k1 : w1.cell? ⟨b, off, none⟩ = some (.string e0.f0) := by rw [hb1.cell (p := ⟨b, off, none⟩) hbl]; exact HC0.out
        go_wp2_with fail
        refine (PS.out _ _).mono ?_
        rintro e w2 ⟨rfl, hb2⟩
        have HB2 := Lib.hid (gbel ((Below.alloc (Below.refl w1.heap.size w1) (Nat.le_refl _) _).trans (hb2.mono (by simp))) hb1)
        clear hb2 hb1
        go_wp2_with fail
        refine (PO.out _ HB2.out).mono ?_
        rintro e w3 ⟨rfl, hb3⟩
        go_wp2
        go_ret2
        exact ⟨rfl, gbel hb3 HB2.out⟩
theorem parS_size {f : Nat → List (List UInt8) → List UInt8} {es : List StringV} (h : pgB es = true) (hl : (f (len0 es) (dsOf es)).length = len0 es) : (parS f es).size = len0 es := by
  unfold parS; rw [if_pos h]; exact hl
set_option maxHeartbeats 2000000 in
theorem specCheckParity_any (a : Option Addr) (c : Nat) (es : List StringV) (p q : ByteArray) (hm : es.length ≤ 1048576) (hs : ∀ e ∈ es, e.f0.size ≤ 1048576) (hp : p.size ≤ 1048576) (hq : q.size ≤ 1048576) (w : World) (h : SlS rowString w a es) :
    Calls Try.prog 28 #[.slice a es.length c, .string p, .string q] w fun e w' => e = .returned (.tuple #[.bool (ckB es p q), .int .i64 (ckC es p q)]) ∧ Below w.heap.size w w' := by
  have MK := Lib.hid (specMakeParity_any a c es hm hs w h)
  cases hg : pgB es with
  | false =>
    have e1 : ckC es p q = 1 := by unfold ckC; rw [hg]; rfl
    have e2 : ckB es p q = false := by unfold ckB; rw [e1]; rfl
    have e3 : parC es = 1 := by unfold parC; rw [hg]; rfl
    rw [e1, e2]
    rw [e3] at MK
    clear e1 e2 e3 h hs hm hg
    generalize parS hP es = UP at *
    generalize parS hQ es = UQ at *
    go_enter Try.func28, Try.ntmps28
    go_wp2_with fail
    refine MK.out.mono ?_
    rintro e w1 ⟨rfl, hb1⟩
    go_wp2
    go_ret2
    exact ⟨rfl, hb1⟩
  | true =>
    have e3 : parC es = 0 := by unfold parC; rw [hg]; rfl
    rw [e3] at MK
    obtain ⟨p1, p2, p3, p4, p5⟩ := pgB_facts hg
    have z1 := parS_size (f := hP) hg (hP_len (dsOf_len p5))
    have z2 := parS_size (f := hQ) hg (hQ_len (dsOf_len p5))
    have hck : ckC es p q = if (decide (p.size = len0 es) && decide (q.size = len0 es)) = true then 0 else 1 := by unfold ckC; rw [hg]; simp
    have hckb : ckB es p q = if ckC es p q = 0 then decide (p = parS hP es) && decide (q = parS hQ es) else false := rfl
    rw [hckb, hck]
    clear h hs hm hg p5 hck hckb e3
    generalize parS hP es = UP at *
    generalize parS hQ es = UQ at *
    generalize len0 es = n at *
    by_cases h1 : p.size = n
    · have g1 : ((p.size : Int) != (UP.size : Int)) = false := by simp; omega
      by_cases h2 : q.size = n
      · have g2 : ((q.size : Int) != (UQ.size : Int)) = false := by simp; omega
        have hd : (decide (p.size = n) && decide (q.size = n)) = true := by simp [h1, h2]
        rw [if_pos hd, if_pos rfl]
        clear hd h1 h2 z1 z2
        by_cases hP1 : p = UP
        · by_cases hQ1 : q = UQ
          · subst hP1; subst hQ1
            go_enter Try.func28, Try.ntmps28
            go_wp2_with fail
            refine MK.out.mono ?_
            rintro e w1 ⟨rfl, hb1⟩
            go_wp2
            go_ret2
            exact ⟨by simp, hb1⟩
          · subst hP1
            have hne := bytes_ne (fun e => hQ1 (Eq.symm e))
            have hdq : decide (q = UQ) = false := by simpa using hQ1
            rw [hdq, Bool.and_false]
            clear hQ1 hdq
            go_enter Try.func28, Try.ntmps28
            go_wp2_with fail
            refine MK.out.mono ?_
            rintro e w1 ⟨rfl, hb1⟩
            go_wp2
            go_ret2
            exact ⟨rfl, hb1⟩
        · have hne := bytes_ne (fun e => hP1 (Eq.symm e))
          have hdq : decide (p = UP) = false := by simpa using hP1
          rw [hdq, Bool.false_and]
          clear hP1 hdq
          go_enter Try.func28, Try.ntmps28
          go_wp2_with fail
          refine MK.out.mono ?_
          rintro e w1 ⟨rfl, hb1⟩
          go_wp2
          go_ret2
          exact ⟨rfl, hb1⟩
      · have g2 : ((q.size : Int) != (UQ.size : Int)) = true := by simp; omega
        have hd : (decide (p.size = n) && decide (q.size = n)) = false := by simp [h2]
        rw [hd, if_neg (by decide), if_neg (by decide)]
        clear hd h1 h2 z1 z2
        go_enter Try.func28, Try.ntmps28
        go_wp2_with fail
        refine MK.out.mono ?_
        rintro e w1 ⟨rfl, hb1⟩
        go_wp2
        go_ret2
        exact ⟨rfl, hb1⟩
    · have g1 : ((p.size : Int) != (UP.size : Int)) = true := by simp; omega
      have hd : (decide (p.size = n) && decide (q.size = n)) = false := by simp [h1]
      rw [hd, if_neg (by decide), if_neg (by decide)]
      clear hd h1 z1 z2
      go_enter Try.func28, Try.ntmps28
      go_wp2_with fail
      refine MK.out.mono ?_
      rintro e w1 ⟨rfl, hb1⟩
      go_wp2
      go_ret2
      exact ⟨rfl, hb1⟩
end Go.Proofs.Ytpgcmgbflcdjiaa
