/- spec.l23Make, spec.MakeParity. -/
import Derived.Test.YtpgcmgbflcdjiaaGfMk
namespace Go.Proofs.Ytpgcmgbflcdjiaa
open Go.RowKit
open Gf
set_option linter.unusedVariables false
set_option maxRecDepth 20000
theorem dsOf_at {es : List StringV} {k : Nat} {x : StringV} (h : es[k]? = some x) : (dsOf es).take (k + 1) = (dsOf es).take k ++ [x.f0.data.toList] := by
  rw [List.take_add_one]
  unfold dsOf
  simp [h]
theorem dsOf_take {es : List StringV} {n : Nat} (h : ∀ e ∈ es, e.f0.size = n) (k : Nat) : ∀ d ∈ (dsOf es).take k, d.length = n := fun d hd => dsOf_len h d (List.mem_of_mem_take hd)
set_option maxHeartbeats 4000000 in
theorem l23Make_any (a : Option Addr) (c n : Nat) (es : List StringV) (w : World) (hL : es.length ≤ 128) (hn1 : 1 ≤ n) (hn2 : n ≤ 64) (hz : ∀ e ∈ es, e.f0.size = n) (h : SlS rowString w a es) :
    Calls Try.prog 45 #[.slice a es.length c, .int .i64 (n : Int)] w fun e w' => e = .returned (.tuple #[.slice (some ⟨w.heap.size, 0, none⟩) n n, .slice (some ⟨w.heap.size + 1, 0, none⟩) n n]) ∧ TBk w' w.heap.size (hP n (dsOf es)) ∧ TBk w' (w.heap.size + 1) (hQ n (dsOf es)) ∧ w.heap.size + 1 < w'.heap.size ∧ Below w.heap.size w w' := by
  have hmk := fun w => gfMake n (by omega) w
  have HZ := Lib.hid hz
  have HH := Lib.hid h
  clear hz h
  go_enter Try.func45, Try.ntmps45
  go_wp2
  clear hmk
  go_loopw [8] (fun i wr => ∃ k : Nat, k ≤ es.length ∧ i = .int .i64 k ∧ TBk wr w.heap.size (hP n ((dsOf es).take k)) ∧ TBk wr (w.heap.size + 1) (hQ n ((dsOf es).take k)) ∧ w.heap.size + 1 < wr.heap.size ∧ Below w.heap.size w wr) (fun i _ => es.length - (intOf i).toNat)
  case atStart =>
    refine ⟨0, Nat.zero_le _, rfl, ?_, ?_, by simp, ((Below.refl _ _).alloc (Nat.le_refl _) _).alloc (by simp) _⟩
    · exact (TBk.made w n _).kept (Below.heap_alloc _ _ _ (by simp))
    · have h := TBk.made (w.alloc (.cells (madeCells #[Value.int .u8 0] n) 5)) n 5
      rw [World.size_alloc] at h
      exact h
  case round =>
    obtain ⟨k, hk, rfl, tp, tq, hsz, hb⟩ := hrel
    by_cases hlt : k < es.length
    · obtain ⟨x, hx⟩ : ∃ x, es[k]? = some x := ⟨es[k], by simp [hlt]⟩
      obtain ⟨b, off, rfl, hbl, hcs⟩ := slCell HH.out (by omega)
      have hcx := hcs k x hx
      have hxs := HZ.out x (List.mem_of_getElem? hx)
      have kk : wr.cell? ⟨b, off + k, none⟩ = some (.string x.f0) := by rw [hb.cell (p := ⟨b, off + k, none⟩) hbl]; exact hcx
      have i2 : (k : Int) < (es.length : Int) := by omega
      have lp := hP_len (dsOf_take HZ.out k)
      have lq := hQ_len (dsOf_take HZ.out k)
      have SP := Lib.hid (hP_snoc (n := n) x.f0.data.toList (str_len x.f0 n hxs) ((dsOf es).take k))
      have SQ := Lib.hid (hQ_snoc (n := n) x.f0.data.toList (str_len x.f0 n hxs) ((dsOf es).take k))
      have TK := Lib.hid (dsOf_at hx)
      have hkl : ((dsOf es).take k).length = k := by simp [dsOf]; omega
      rw [hkl] at SQ
      have A1 := Lib.hid (l23Plus_any w.heap.size n _ n 1 x.f0 wr lp hxs tp (by omega) hn1 hn2)
      rw [mL_one] at A1
      have GP := Lib.hid (fun w => specGfPow_any (k : Int) w)
      rw [pwV_nat] at GP
      have hpl := pw_lt k
      have A2 := Lib.hid (fun w' t => l23Plus_any (w.heap.size + 1) n _ n (pw k) x.f0 w' lq hxs t hpl hn1 hn2)
      have TQ := Lib.hid tq
      have HX := Lib.hid hx
      have HB := Lib.hid hb
      have HSZ := Lib.hid hsz
      clear tp tq hx hcs hcx hxs lp lq hkl hb hsz
      go_wp2_with fail
      refine A1.out.mono ?_
      rintro e w1 ⟨rfl, t1, o1⟩
      have kk1 : w1.cell? ⟨b, off + k, none⟩ = some (.string x.f0) := by rw [o1.2.2.cell (p := ⟨b, off + k, none⟩) hbl]; exact kk
      have T1 := Lib.hid t1
      have T2 := Lib.hid (o1.keep (by omega) TQ.out)
      have HB1 := Lib.hid (HB.out.trans (o1.below (Nat.le_refl _)))
      have HS1 := Lib.hid (show w.heap.size + 1 < w1.heap.size by rw [o1.1]; exact HSZ.out)
      clear t1 o1 kk
      go_wp2
      go_region_with
        (first
          | (go_at_call 15; refine (GP.out _).mono ?_; rintro e wq ⟨rfl, rfl⟩)
          | (go_at_call 38; refine (A2.out _ (by first | exact T2.out | exact T2.out.drew)).mono ?_; rintro e w2 ⟨rfl, t2, o2⟩; have T22 := Lib.hid t2; have O2 := Lib.hid o2; clear t2 o2)
          | fail)
      all_goals
        go_wp2
        go_roundw
        case rel =>
          refine ⟨k + 1, by omega, by go_num, ?_, ?_, by rw [O2.out.1]; exact HS1.out, (by first | exact HB1.out.trans (O2.out.below (by omega)) | exact HB1.out.drew.trans (O2.out.below (by omega)))⟩
          · rw [TK.out, SP.out]; exact O2.out.keep (by omega) (by first | exact T1.out | exact T1.out.drew)
          · rw [TK.out, SQ.out]; exact T22.out
        case measure => simp [intOf]; omega
    · have et : (dsOf es).take k = dsOf es := List.take_of_length_le (by simp [dsOf]; omega)
      rw [et] at tp tq
      have HT := Lib.hid (And.intro tp (And.intro tq (And.intro hsz hb)))
      clear tp tq hsz hb et
      go_wp2
      go_ret2
      exact ⟨rfl, HT.out.1, HT.out.2.1, HT.out.2.2.1, HT.out.2.2.2⟩
set_option maxHeartbeats 2000000 in
theorem specMakeParity_any (a : Option Addr) (c : Nat) (es : List StringV) (hm : es.length ≤ 1048576) (hs : ∀ e ∈ es, e.f0.size ≤ 1048576) (w : World) (h : SlS rowString w a es) :
    Calls Try.prog 24 #[.slice a es.length c] w fun e w' => e = .returned (.tuple #[.string (parS hP es), .string (parS hQ es), .int .i64 (parC es)]) ∧ Below w.heap.size w w' := by
  have IG := Lib.hid (l23Group_any a c es hm hs w h)
  cases hg : pgB es with
  | false =>
    have e1 : parS hP es = ⟨#[]⟩ := by unfold parS; rw [hg]; rfl
    have e2 : parS hQ es = ⟨#[]⟩ := by unfold parS; rw [hg]; rfl
    have e3 : parC es = 1 := by unfold parC; rw [hg]; rfl
    rw [e1, e2, e3]
    rw [hg] at IG
    clear e1 e2 e3 h hs hm hg
    go_enter Try.func24, Try.ntmps24
    go_wp2_with fail
    refine IG.out.mono ?_
    rintro e w1 ⟨rfl, hb1⟩
    go_wp2
    go_ret3
    exact ⟨rfl, hb1⟩
  | true =>
    have e3 : parC es = 0 := by unfold parC; rw [hg]; rfl
    rw [e3]
    unfold parS
    rw [if_pos hg, if_pos hg]
    rw [hg] at IG
    obtain ⟨p1, p2, p3, p4, p5⟩ := pgB_facts hg
    obtain ⟨b, off, rfl, hbl, hcs⟩ := slCell h (by omega)
    obtain ⟨e0, he0⟩ : ∃ e0, es[0]? = some e0 := ⟨es[0]'(by omega), by simp⟩
    have hc0 : w.cell? ⟨b, off, none⟩ = some (.string e0.f0) := by have := hcs 0 e0 he0; simpa using this
    have hl0 : e0.f0.size = len0 es := by unfold len0; rw [he0]; rfl
    have i1 : (0 : Int) < (es.length : Int) := by omega
    have hsz0 := hs e0 (List.mem_of_getElem? he0)
    have MK := Lib.hid (fun w' (hb : Below w.heap.size w w') => l23Make_any (some ⟨b, off, none⟩) c (len0 es) es w' p2 p3 p4 p5 (h.below hb (Nat.le_refl _)))
    rw [← hl0] at MK
    have LP := Lib.hid (hP_len (dsOf_len p5))
    have LQ := Lib.hid (hQ_len (dsOf_len p5))
    rw [← hl0] at LP LQ ⊢
    have HC0 := Lib.hid hc0
    clear e3 h hs hm hg p3 p4 p5 hcs he0 hl0
    generalize hP e0.f0.size (dsOf es) = PL at *
    generalize hQ e0.f0.size (dsOf es) = QL at *
    generalize es.length = L at *
    go_enter Try.func24, Try.ntmps24
    go_wp2_with fail
    refine IG.out.mono ?_
    rintro e w1 ⟨rfl, hb1⟩
    have k1 : w1.cell? ⟨b, off, none⟩ = some (.string e0.f0) := by rw [hb1.cell (p := ⟨b, off, none⟩) hbl]; exact HC0.out
    clear hc0
    go_wp2_with fail
    refine (MK.out _ hb1).mono ?_
    rintro e w2 ⟨rfl, t1, t2, hs2, hb2⟩
    have cvP := TBk.conv (b := w1.heap.size) t1.drew e0.f0.size e0.f0.size LP.out
    have cvQ := TBk.conv (b := w1.heap.size + 1) t2.drew e0.f0.size e0.f0.size LQ.out
    have HB2 := Lib.hid (gbel hb2 hb1)
    clear t1 t2 hs2 hb2 hb1 LP LQ
    go_wp2
    go_region
    all_goals
      go_wp2
      go_ret3
      exact ⟨rfl, HB2.out.drew⟩
end Go.Proofs.Ytpgcmgbflcdjiaa
