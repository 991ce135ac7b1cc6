/- impl.FindDamaged. -/
import Derived.Test.YtpgcmgbflcdjiaaGfFb
namespace Go.Proofs.Ytpgcmgbflcdjiaa
open Go.RowKit
open Gf
set_option linter.unusedVariables false
set_option maxRecDepth 20000
def fdC (es : List StringV) (p q : ByteArray) : Int :=
  if ckC es p q = 0 then
    if p = parS hP es then (if q = parS hQ es then 0 else 6)
    else if q = parS hQ es then 6 else fdE (xL p.data.toList (hP (len0 es) (dsOf es))) (xL q.data.toList (hQ (len0 es) (dsOf es))) es.length
  else 1
def fdV (es : List StringV) (p q : ByteArray) : Int :=
  if ckC es p q = 0 then
    if p = parS hP es then (if q = parS hQ es then -1 else 0)
    else if q = parS hQ es then 0 else fdK (xL p.data.toList (hP (len0 es) (dsOf es))) (xL q.data.toList (hQ (len0 es) (dsOf es))) es.length
  else 0
theorem ckC_facts {es : List StringV} {p q : ByteArray} (h : ckC es p q = 0) : pgB es = true ∧ p.size = len0 es ∧ q.size = len0 es := by
  unfold ckC at h
  by_cases e : (pgB es && (decide (p.size = len0 es) && decide (q.size = len0 es))) = true
  · simp at e; exact ⟨e.1, e.2.1, e.2.2⟩
  · rw [if_neg e] at h; exact absurd h (by decide)
theorem ckC_or (es : List StringV) (p q : ByteArray) : ckC es p q = 0 ∨ ckC es p q = 1 := by unfold ckC; split <;> simp
theorem parS_list {f : Nat → List (List UInt8) → List UInt8} {es : List StringV} (h : pgB es = true) : (parS f es).data.toList = f (len0 es) (dsOf es) := by unfold parS; rw [if_pos h]
set_option maxHeartbeats 2000000 in
theorem findDamaged_any (a : Option Addr) (c : Nat) (es : List StringV) (p q : ByteArray) (hm : es.length ≤ 1048576) (hs : ∀ e ∈ es, e.f0.size ≤ 1048576) (hp : p.size ≤ 1048576) (hq : q.size ≤ 1048576) (w : World) (h : SlS rowString w a es) :
    Calls Try.prog 31 #[.slice a es.length c, .string p, .string q] w fun e w' => e = .returned (.tuple #[.int .i64 (fdV es p q), .int .i64 (fdC es p q)]) ∧ Below w.heap.size w w' := by
  have CK := Lib.hid (checkParity_any a c es p q hm hs hp hq w h)
  rcases ckC_or es p q with hc | hc
  · obtain ⟨hg, z1, z2⟩ := ckC_facts hc
    have PO := Lib.hid (fun w' (hb : Below w.heap.size w w') => parityOf_any a c es w' hg (h.below hb (Nat.le_refl _)))
    obtain ⟨p1, p2, p3, p4, p5⟩ := pgB_facts hg
    have e1 : ckB es p q = (decide (p = parS hP es) && decide (q = parS hQ es)) := by unfold ckB; rw [if_pos hc]
    unfold fdV fdC
    rw [if_pos hc, if_pos hc]
    rw [hc, e1] at CK
    have lP := parS_list (f := hP) hg
    have lQ := parS_list (f := hQ) hg
    have zP := parS_size (f := hP) hg (hP_len (dsOf_len p5))
    have zQ := parS_size (f := hQ) hg (hQ_len (dsOf_len p5))
    rw [← lP, ← lQ]
    clear h hs hm p5 hc e1 hg lP lQ
    generalize parS hP es = UP at *
    generalize parS hQ es = UQ at *
    generalize len0 es = n at *
    generalize es.length = L at *
    by_cases hP1 : p = UP
    · by_cases hQ1 : q = UQ
      · subst hP1; subst hQ1
        rw [if_pos rfl, if_pos rfl, if_pos rfl, if_pos rfl]
        have CK2 : Hid (Calls Try.prog 29 #[.slice a L c, .string p, .string q] w fun e w' => e = .returned (.tuple #[.bool true, .int .i64 0]) ∧ Below w.heap.size w w') := by have h := CK; simp at h; exact h
        clear CK
        go_enter Try.func31, Try.ntmps31
        go_wp2_with fail
        refine CK2.out.mono ?_
        rintro e w1 ⟨rfl, hb1⟩
        go_wp2
        go_ret2
        exact ⟨rfl, hb1⟩
      · subst hP1
        rw [if_pos rfl, if_neg hQ1, if_pos rfl, if_neg hQ1]
        have hdq : decide (q = UQ) = false := by simpa using hQ1
        have hne := bytes_ne hQ1
        rw [hdq, Bool.and_false] at CK
        clear hdq hQ1
        go_enter Try.func31, Try.ntmps31
        go_wp2_with fail
        refine CK.out.mono ?_
        rintro e w1 ⟨rfl, hb1⟩
        go_wp2_with fail
        refine (PO.out _ hb1).mono ?_
        rintro e w2 ⟨rfl, hb2⟩
        go_wp2
        go_ret2
        exact ⟨rfl, gbel hb2 hb1⟩
    · rw [if_neg hP1, if_neg hP1]
      have hdp : decide (p = UP) = false := by simpa using hP1
      have hne := bytes_ne hP1
      rw [hdp, Bool.false_and] at CK
      clear hdp hP1
      by_cases hQ1 : q = UQ
      · subst hQ1
        rw [if_pos rfl, if_pos rfl]
        go_enter Try.func31, Try.ntmps31
        go_wp2_with fail
        refine CK.out.mono ?_
        rintro e w1 ⟨rfl, hb1⟩
        go_wp2_with fail
        refine (PO.out _ hb1).mono ?_
        rintro e w2 ⟨rfl, hb2⟩
        go_wp2
        go_ret2
        exact ⟨rfl, gbel hb2 hb1⟩
      · rw [if_neg hQ1, if_neg hQ1]
        have hne2 := bytes_ne hQ1
        clear hQ1
        have S1 := Lib.hid (fun w => sumss_any p UP n w z1 zP p3 p4)
        have S2 := Lib.hid (fun w => sumss_any q UQ n w z2 zQ p3 p4)
        have L1 := Lib.hid (xL_len (str_len p n z1) (str_len UP n zP))
        have L2 := Lib.hid (xL_len (str_len q n z2) (str_len UQ n zQ))
        have BC := Lib.hid (fun g1 g2 w t1 t2 => blockChangedBy_any g1 n g2 n n L (xL p.data.toList UP.data.toList) (xL q.data.toList UQ.data.toList) w L1.out L2.out t1 t2 p3 p4 p2)
        have hw64 : IntKind.i64.wrap (L : Int) = (L : Int) := IntWalk.i64_in _ (by omega)
        generalize xL p.data.toList UP.data.toList = X at *
        generalize xL q.data.toList UQ.data.toList = Y at *
        go_enter Try.func31, Try.ntmps31
        go_wp2_with fail
        refine CK.out.mono ?_
        rintro e w1 ⟨rfl, hb1⟩
        go_wp2_with fail
        refine (PO.out _ hb1).mono ?_
        rintro e w2 ⟨rfl, hb2⟩
        have HB2 := Lib.hid (gbel hb2 hb1)
        clear hb2 hb1
        go_wp2_with fail
        refine (S1.out _).mono ?_
        rintro e w3 ⟨rfl, t3, hb3, hs3⟩
        have T3 := Lib.hid t3
        have HB3 := Lib.hid (gbel hb3 HB2.out)
        clear t3 hb3
        go_wp2_with fail
        refine (S2.out _).mono ?_
        rintro e w4 ⟨rfl, t4, hb4, hs4⟩
        have T4 := Lib.hid t4
        have T34 := Lib.hid (TBk.on hb4 hs3 T3.out)
        have HB4 := Lib.hid (gbel hb4 HB3.out)
        clear t4 hb4
        go_wp2_with fail
        refine (BC.out _ _ _ T34.out T4.out).mono ?_
        rintro e w5 ⟨rfl, hb5⟩
        go_wp2
        go_ret2
        exact ⟨rfl, gbel hb5 HB4.out⟩
  · have e1 : ckB es p q = false := by unfold ckB; rw [hc]; rfl
    have e2 : fdV es p q = 0 := by unfold fdV; rw [hc]; rfl
    have e3 : fdC es p q = 1 := by unfold fdC; rw [hc]; rfl
    rw [e2, e3]
    rw [hc, e1] at CK
    clear h hs hm hc e1 e2 e3
    generalize es.length = L at *
    go_enter Try.func31, Try.ntmps31
    go_wp2_with fail
    refine CK.out.mono ?_
    rintro e w1 ⟨rfl, hb1⟩
    go_wp2
    go_ret2
    exact ⟨rfl, hb1⟩
end Go.Proofs.Ytpgcmgbflcdjiaa
