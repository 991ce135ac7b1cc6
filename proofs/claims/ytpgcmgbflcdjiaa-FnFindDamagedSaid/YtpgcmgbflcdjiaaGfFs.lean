/- spec.FindDamaged. -/
import Derived.Test.YtpgcmgbflcdjiaaGfFd
namespace Go.Proofs.Ytpgcmgbflcdjiaa
open Go.RowKit
open Gf
set_option linter.unusedVariables false
set_option maxRecDepth 20000
theorem xL_self : ∀ (n : Nat) (a : List UInt8), a.length = n → xL a a = zrs n
  | 0, [], _ => rfl
  | n + 1, x :: a, h => by
    have ih := xL_self n a (by simpa using h)
    unfold xL zrs at *
    rw [List.zipWith_cons_cons, List.replicate_succ, ih]
    simp
  | 0, _ :: _, h => by simp at h
  | _ + 1, [], h => by simp at h
theorem xL_zero {n : Nat} {a b : List UInt8} (ha : a.length = n) (hb : b.length = n) (h : xL a b = zrs n) : a = b := by
  have h1 : xL (xL a b) b = b := by rw [h, zrs_xL n b hb]
  rw [xL_assoc, xL_self n b hb, xL_zrs ha] at h1
  exact h1
theorem bytes_eq {a b : ByteArray} (h : a.data.toList = b.data.toList) : a = b := by
  cases a; cases b
  simp at h
  rw [h]
theorem list_ne {a b : List UInt8} (h : a ≠ b) : (a == b) = false := by simpa using h
set_option maxHeartbeats 8000000 in
theorem specFindDamaged_any (a : Option Addr) (c : Nat) (es : List StringV) (p q : ByteArray) (hm : es.length ≤ 1048576) (hs : ∀ e ∈ es, e.f0.size ≤ 1048576) (hp : p.size ≤ 1048576) (hq : q.size ≤ 1048576) (w : World) (h : SlS rowString w a es) :
    Calls Try.prog 30 #[.slice a es.length c, .string p, .string q] w fun e w' => e = .returned (.tuple #[.int .i64 (fdV es p q), .int .i64 (fdC es p q)]) ∧ Below w.heap.size w w' := by
  have IG := Lib.hid (l23Group_any a c es hm hs w h)
  cases hg : pgB es with
  | false =>
    have hc : ckC es p q = 1 := by unfold ckC; rw [hg]; rfl
    have e2 : fdV es p q = 0 := by unfold fdV; rw [hc]; rfl
    have e3 : fdC es p q = 1 := by unfold fdC; rw [hc]; rfl
    rw [e2, e3]
    rw [hg] at IG
    clear h hs hm hc e2 e3 hg
    generalize es.length = L at *
    go_enter Try.func30, Try.ntmps30
    go_wp2_with fail
    refine IG.out.mono ?_
    rintro e w1 ⟨rfl, hb1⟩
    go_wp2
    go_ret2
    exact ⟨rfl, hb1⟩
  | true =>
    rw [hg] at IG
    obtain ⟨p1, p2, p3, p4, p5⟩ := pgB_facts hg
    obtain ⟨b, off, rfl, hbl, hcs⟩ := slCell h (by omega)
    obtain ⟨e0, he0⟩ : ∃ e0, es[0]? = some e0 := ⟨es[0]'(by omega), by simp⟩
    have hc0 : w.cell? ⟨b, off, none⟩ = some (.string e0.f0) := by have := hcs 0 e0 he0; simpa using this
    have hl0 : e0.f0.size = len0 es := by unfold len0; rw [he0]; rfl
    have i1 : (0 : Int) < (es.length : Int) := by omega
    have i10 : 0 < es.length := by omega
    have HC0 := Lib.hid hc0
    have KZ := Lib.hid (fun w1 (hb : Below w.heap.size w w1) => show w1.cell? ⟨b, off, none⟩ = some (.string e0.f0) from by rw [hb.cell (p := ⟨b, off, none⟩) hbl]; exact HC0.out)
    have hz0 := hs e0 (List.mem_of_getElem? he0)
    by_cases h1 : p.size = len0 es
    · have g1 : ((p.size : Int) != (e0.f0.size : Int)) = false := by simp; omega
      by_cases h2 : q.size = len0 es
      · have g2 : ((q.size : Int) != (p.size : Int)) = false := by simp; omega
        have hc : ckC es p q = 0 := by unfold ckC; rw [hg]; simp [h1, h2]
        have lP := parS_list (f := hP) hg
        have lQ := parS_list (f := hQ) hg
        have zP := parS_size (f := hP) hg (hP_len (dsOf_len p5))
        have zQ := parS_size (f := hQ) hg (hQ_len (dsOf_len p5))
        have MK := Lib.hid (fun w' (hb : Below w.heap.size w w') => l23Make_any (some ⟨b, off, none⟩) c (len0 es) es w' p2 p3 p4 p5 (h.below hb (Nat.le_refl _)))
        have LP := Lib.hid (hP_len (dsOf_len p5))
        have LQ := Lib.hid (hQ_len (dsOf_len p5))
        have sp := str_len p _ h1
        have sq := str_len q _ h2
        have hpz : p.size ≤ 64 := by omega
        have hp0 : 1 ≤ p.size := by omega
        unfold fdV fdC
        rw [if_pos hc, if_pos hc]
        have EP : xL (hP (len0 es) (dsOf es)) (mL 1 p.data.toList) = xL p.data.toList (hP (len0 es) (dsOf es)) := by rw [mL_one, xL_comm]
        have EQ : xL (hQ (len0 es) (dsOf es)) (mL 1 q.data.toList) = xL q.data.toList (hQ (len0 es) (dsOf es)) := by rw [mL_one, xL_comm]
        have A1 := Lib.hid (fun g w' t => l23Plus_any g (len0 es) _ (len0 es) 1 p w' LP.out h1 t (by omega) p3 p4)
        have A2 := Lib.hid (fun g w' t => l23Plus_any g (len0 es) _ (len0 es) 1 q w' LQ.out h2 t (by omega) p3 p4)
        rw [EP] at A1
        rw [EQ] at A2
        have LX := Lib.hid (xL_len sp LP.out)
        have LY := Lib.hid (xL_len sq LQ.out)
        have XP : xL p.data.toList (hP (len0 es) (dsOf es)) = zrs (len0 es) ↔ p = parS hP es := ⟨fun h => bytes_eq ((xL_zero sp LP.out h).trans lP.symm), fun h => by rw [h, lP]; exact xL_self _ _ LP.out⟩
        have XQ : xL q.data.toList (hQ (len0 es) (dsOf es)) = zrs (len0 es) ↔ q = parS hQ es := ⟨fun h => bytes_eq ((xL_zero sq LQ.out h).trans lQ.symm), fun h => by rw [h, lQ]; exact xL_self _ _ LQ.out⟩
        have CP := Lib.hid XP
        have CQ := Lib.hid XQ
        have hmk : ∀ w : World, (Instr.makeSlice 26 (.int .i64 (p.size : Int)) (.int .i64 (p.size : Int))).run Try.prog w = .ok (.slice (some ⟨w.heap.size, 0, none⟩) p.size p.size) (w.alloc (.cells (madeCells #[Value.int .u8 0] p.size) 5)) := fun w => gfMake p.size (by omega) w
        rw [← h1] at A1 A2 LX LY CP CQ MK LP LQ
        rw [show len0 es = p.size from h1.symm]
        generalize hP p.size (dsOf es) = PL at *
        generalize hQ p.size (dsOf es) = QL at *
        generalize parS hP es = UP at *
        generalize parS hQ es = UQ at *
        have HI := Lib.hid (fun n lo hi w => l00In_any n lo hi w)
        have A3 := Lib.hid (fun (k : Nat) g w' t => l23Plus_any g p.size (zrs p.size) p.size (pw k) ⟨(xL p.data.toList PL).toArray⟩ w' (zrs_len _) LX.out t (pw_lt k) hp0 hpz)
        have E3 := Lib.hid (fun k => show xL (zrs p.size) (mL (pw k) (xL p.data.toList PL)) = mL (pw k) (xL p.data.toList PL) from zrs_xL _ _ (mL_len _ LX.out))
        have hL128 : es.length ≤ 128 := p2
        clear h hs hm hc lP lQ zP zQ EP EQ XP XQ sp sq h1 h2 p1 p2 p3 p4 p5 hcs he0 hl0 hg hc0 i10
        generalize xL p.data.toList PL = X at *
        generalize xL q.data.toList QL = Y at *
        generalize es.length = L at *
        obtain ⟨Z, hZ⟩ : ∃ Z : ByteArray, (⟨(zrs p.size).toArray⟩ : ByteArray) = Z := ⟨_, rfl⟩
        have hZl : Z.toList = zrs p.size := by rw [← hZ, ByteArray.toList_eq]
        by_cases hX : X = zrs p.size
        · rw [if_pos (CP.out.1 hX), if_pos (CP.out.1 hX)]
          have hx1 : (X == Z.toList) = true := by rw [hZl, hX]; simp
          by_cases hY : Y = zrs p.size
          · rw [if_pos (CQ.out.1 hY), if_pos (CQ.out.1 hY)]
            have hy1 : (Y == Z.toList) = true := by rw [hZl, hY]; simp
            clear hX hY hZl
            go_enter Try.func30, Try.ntmps30
            go_wp2_with fail
            refine IG.out.mono ?_
            rintro e w1 ⟨rfl, hb1⟩
            have k1 := KZ.out w1 hb1
            go_wp2_with fail
            refine (MK.out _ hb1).mono ?_
            rintro e w2 ⟨rfl, t1, t2, hs2, hb2⟩
            have T1 := Lib.hid t1
            have T2 := Lib.hid t2
            have HB2 := Lib.hid (gbel hb2 hb1)
            have hle : w.heap.size ≤ w1.heap.size := hb1.size
            clear t1 t2 hb2 hb1 k1
            generalize w1.heap.size = g1 at *
            go_wp2_with fail
            refine (A1.out g1 _ T1.out).mono ?_
            rintro e w3 ⟨rfl, t3, o3⟩
            have T13 := Lib.hid t3
            have T23 := Lib.hid (o3.keep (by omega) T2.out)
            have HB3 := Lib.hid (HB2.out.trans (o3.below hle))
            have hs3 : g1 + 1 < w3.heap.size := by rw [o3.1]; exact hs2
            clear t3 o3 hs2
            go_wp2_with fail
            refine (A2.out (g1 + 1) _ T23.out).mono ?_
            rintro e w4 ⟨rfl, t4, o4⟩
            have hs4 : g1 + 1 < w4.heap.size := by rw [o4.1]; exact hs3
            have T15 := (o4.keep (by omega) T13.out).kept (w' := w4.alloc (.cells (madeCells #[Value.int .u8 0] p.size) 5)) (Below.heap_alloc _ _ _ (by omega))
            have T25 := t4.kept (w' := w4.alloc (.cells (madeCells #[Value.int .u8 0] p.size) 5)) (Below.heap_alloc _ _ _ (by omega))
            have TZ5 := TBk.made w4 p.size 5
            have HB5 := (HB3.out.trans (o4.below (by omega))).alloc (by omega) (.cells (madeCells #[Value.int .u8 0] p.size) 5)
            have cvZ := TBk.conv TZ5 p.size p.size (zrs_len _)
            rw [show (⟨(List.replicate p.size 0).toArray⟩ : ByteArray) = Z from hZ] at cvZ
            clear hZ
            have cvX := TBk.conv T15 p.size p.size LX.out
            have cvY := TBk.conv T25 p.size p.size LY.out
            have hs5 : g1 + 1 < (w4.alloc (.cells (madeCells #[Value.int .u8 0] p.size) 5)).heap.size := by simp; omega
            have HT5 := Lib.hid (And.intro T15 T25)
            have HB5h := Lib.hid HB5
            clear t4 o4 T15 T25 TZ5 HB5
            go_wp2
            go_ret2
            exact ⟨rfl, HB5h.out⟩
          · rw [if_neg (fun h => hY (CQ.out.2 h)), if_neg (fun h => hY (CQ.out.2 h))]
            have hy1 : (Y == Z.toList) = false := by rw [hZl]; exact list_ne hY
            clear hX hY hZl
            go_enter Try.func30, Try.ntmps30
            go_wp2_with fail
            refine IG.out.mono ?_
            rintro e w1 ⟨rfl, hb1⟩
            have k1 := KZ.out w1 hb1
            go_wp2_with fail
            refine (MK.out _ hb1).mono ?_
            rintro e w2 ⟨rfl, t1, t2, hs2, hb2⟩
            have T1 := Lib.hid t1
            have T2 := Lib.hid t2
            have HB2 := Lib.hid (gbel hb2 hb1)
            have hle : w.heap.size ≤ w1.heap.size := hb1.size
            clear t1 t2 hb2 hb1 k1
            generalize w1.heap.size = g1 at *
            go_wp2_with fail
            refine (A1.out g1 _ T1.out).mono ?_
            rintro e w3 ⟨rfl, t3, o3⟩
            have T13 := Lib.hid t3
            have T23 := Lib.hid (o3.keep (by omega) T2.out)
            have HB3 := Lib.hid (HB2.out.trans (o3.below hle))
            have hs3 : g1 + 1 < w3.heap.size := by rw [o3.1]; exact hs2
            clear t3 o3 hs2
            go_wp2_with fail
            refine (A2.out (g1 + 1) _ T23.out).mono ?_
            rintro e w4 ⟨rfl, t4, o4⟩
            have hs4 : g1 + 1 < w4.heap.size := by rw [o4.1]; exact hs3
            have T15 := (o4.keep (by omega) T13.out).kept (w' := w4.alloc (.cells (madeCells #[Value.int .u8 0] p.size) 5)) (Below.heap_alloc _ _ _ (by omega))
            have T25 := t4.kept (w' := w4.alloc (.cells (madeCells #[Value.int .u8 0] p.size) 5)) (Below.heap_alloc _ _ _ (by omega))
            have TZ5 := TBk.made w4 p.size 5
            have HB5 := (HB3.out.trans (o4.below (by omega))).alloc (by omega) (.cells (madeCells #[Value.int .u8 0] p.size) 5)
            have cvZ := TBk.conv TZ5 p.size p.size (zrs_len _)
            rw [show (⟨(List.replicate p.size 0).toArray⟩ : ByteArray) = Z from hZ] at cvZ
            clear hZ
            have cvX := TBk.conv T15 p.size p.size LX.out
            have cvY := TBk.conv T25 p.size p.size LY.out
            have hs5 : g1 + 1 < (w4.alloc (.cells (madeCells #[Value.int .u8 0] p.size) 5)).heap.size := by simp; omega
            have HT5 := Lib.hid (And.intro T15 T25)
            have HB5h := Lib.hid HB5
            clear t4 o4 T15 T25 TZ5 HB5
            go_wp2
            go_ret2
            exact ⟨rfl, HB5h.out⟩
        · rw [if_neg (fun h => hX (CP.out.2 h)), if_neg (fun h => hX (CP.out.2 h))]
          have hx1 : (X == Z.toList) = false := by rw [hZl]; exact list_ne hX
          by_cases hY : Y = zrs p.size
          · rw [if_pos (CQ.out.1 hY), if_pos (CQ.out.1 hY)]
            have hy1 : (Y == Z.toList) = true := by rw [hZl, hY]; simp
            clear hX hY hZl
            go_enter Try.func30, Try.ntmps30
            go_wp2_with fail
            refine IG.out.mono ?_
            rintro e w1 ⟨rfl, hb1⟩
            have k1 := KZ.out w1 hb1
            go_wp2_with fail
            refine (MK.out _ hb1).mono ?_
            rintro e w2 ⟨rfl, t1, t2, hs2, hb2⟩
            have T1 := Lib.hid t1
            have T2 := Lib.hid t2
            have HB2 := Lib.hid (gbel hb2 hb1)
            have hle : w.heap.size ≤ w1.heap.size := hb1.size
            clear t1 t2 hb2 hb1 k1
            generalize w1.heap.size = g1 at *
            go_wp2_with fail
            refine (A1.out g1 _ T1.out).mono ?_
            rintro e w3 ⟨rfl, t3, o3⟩
            have T13 := Lib.hid t3
            have T23 := Lib.hid (o3.keep (by omega) T2.out)
            have HB3 := Lib.hid (HB2.out.trans (o3.below hle))
            have hs3 : g1 + 1 < w3.heap.size := by rw [o3.1]; exact hs2
            clear t3 o3 hs2
            go_wp2_with fail
            refine (A2.out (g1 + 1) _ T23.out).mono ?_
            rintro e w4 ⟨rfl, t4, o4⟩
            have hs4 : g1 + 1 < w4.heap.size := by rw [o4.1]; exact hs3
            have T15 := (o4.keep (by omega) T13.out).kept (w' := w4.alloc (.cells (madeCells #[Value.int .u8 0] p.size) 5)) (Below.heap_alloc _ _ _ (by omega))
            have T25 := t4.kept (w' := w4.alloc (.cells (madeCells #[Value.int .u8 0] p.size) 5)) (Below.heap_alloc _ _ _ (by omega))
            have TZ5 := TBk.made w4 p.size 5
            have HB5 := (HB3.out.trans (o4.below (by omega))).alloc (by omega) (.cells (madeCells #[Value.int .u8 0] p.size) 5)
            have cvZ := TBk.conv TZ5 p.size p.size (zrs_len _)
            rw [show (⟨(List.replicate p.size 0).toArray⟩ : ByteArray) = Z from hZ] at cvZ
            clear hZ
            have cvX := TBk.conv T15 p.size p.size LX.out
            have cvY := TBk.conv T25 p.size p.size LY.out
            have hs5 : g1 + 1 < (w4.alloc (.cells (madeCells #[Value.int .u8 0] p.size) 5)).heap.size := by simp; omega
            have HT5 := Lib.hid (And.intro T15 T25)
            have HB5h := Lib.hid HB5
            clear t4 o4 T15 T25 TZ5 HB5
            go_wp2
            go_ret2
            exact ⟨rfl, HB5h.out⟩
          · rw [if_neg (fun h => hY (CQ.out.2 h)), if_neg (fun h => hY (CQ.out.2 h))]
            have hy1 : (Y == Z.toList) = false := by rw [hZl]; exact list_ne hY
            clear hX hY hZl
            go_enter Try.func30, Try.ntmps30
            go_wp2_with fail
            refine IG.out.mono ?_
            rintro e w1 ⟨rfl, hb1⟩
            have k1 := KZ.out w1 hb1
            go_wp2_with fail
            refine (MK.out _ hb1).mono ?_
            rintro e w2 ⟨rfl, t1, t2, hs2, hb2⟩
            have T1 := Lib.hid t1
            have T2 := Lib.hid t2
            have HB2 := Lib.hid (gbel hb2 hb1)
            have hle : w.heap.size ≤ w1.heap.size := hb1.size
            clear t1 t2 hb2 hb1 k1
            generalize w1.heap.size = g1 at *
            go_wp2_with fail
            refine (A1.out g1 _ T1.out).mono ?_
            rintro e w3 ⟨rfl, t3, o3⟩
            have T13 := Lib.hid t3
            have T23 := Lib.hid (o3.keep (by omega) T2.out)
            have HB3 := Lib.hid (HB2.out.trans (o3.below hle))
            have hs3 : g1 + 1 < w3.heap.size := by rw [o3.1]; exact hs2
            clear t3 o3 hs2
            go_wp2_with fail
            refine (A2.out (g1 + 1) _ T23.out).mono ?_
            rintro e w4 ⟨rfl, t4, o4⟩
            have hs4 : g1 + 1 < w4.heap.size := by rw [o4.1]; exact hs3
            have T15 := (o4.keep (by omega) T13.out).kept (w' := w4.alloc (.cells (madeCells #[Value.int .u8 0] p.size) 5)) (Below.heap_alloc _ _ _ (by omega))
            have T25 := t4.kept (w' := w4.alloc (.cells (madeCells #[Value.int .u8 0] p.size) 5)) (Below.heap_alloc _ _ _ (by omega))
            have TZ5 := TBk.made w4 p.size 5
            have HB5 := (HB3.out.trans (o4.below (by omega))).alloc (by omega) (.cells (madeCells #[Value.int .u8 0] p.size) 5)
            have cvZ := TBk.conv TZ5 p.size p.size (zrs_len _)
            rw [show (⟨(List.replicate p.size 0).toArray⟩ : ByteArray) = Z from hZ] at cvZ
            clear hZ
            have cvX := TBk.conv T15 p.size p.size LX.out
            have cvY := TBk.conv T25 p.size p.size LY.out
            have hs5 : g1 + 1 < (w4.alloc (.cells (madeCells #[Value.int .u8 0] p.size) 5)).heap.size := by simp; omega
            have HT5 := Lib.hid (And.intro T15 T25)
            have HB5h := Lib.hid HB5
            clear t4 o4 T15 T25 TZ5 HB5
            go_wp2
            clear cvZ cvX cvY
            generalize w4.alloc (.cells (madeCells #[Value.int .u8 0] p.size) 5) = W5 at *
            go_loopw [11, 12] (fun i _ wr => ∃ k : Nat, k ≤ L ∧ i = .int .i64 k ∧ Hid (∀ i, i < k → mL (pw i) X ≠ Y) ∧ TBk wr g1 X ∧ TBk wr (g1 + 1) Y ∧ Below w.heap.size w wr ∧ g1 + 1 < wr.heap.size) (fun i _ _ => L - (intOf i).toNat)
            case atStart => exact ⟨0, Nat.zero_le _, rfl, by unfold Hid; intro i hi; omega, HT5.out.1, HT5.out.2, HB5h.out, hs5⟩
            case round =>
              obtain ⟨k, hk, rfl, ha, tx, ty, hb, hsz⟩ := hrel
              by_cases hlt : k < L
              · have GP := Lib.hid (fun w => specGfPow_any (k : Int) w)
                rw [pwV_nat] at GP
                have hpl := pw_lt k
                have TX6 := Lib.hid (tx.kept (w' := wr.alloc (.cells (madeCells #[Value.int .u8 0] p.size) 5)) (Below.heap_alloc _ _ _ (by omega)))
                have TY6 := Lib.hid (ty.kept (w' := wr.alloc (.cells (madeCells #[Value.int .u8 0] p.size) 5)) (Below.heap_alloc _ _ _ (by omega)))
                have TZ6 := Lib.hid (TBk.made wr p.size 5)
                have HB6 := Lib.hid (hb.alloc hb.size (.cells (madeCells #[Value.int .u8 0] p.size) 5))
                have cv1 := TBk.conv TX6.out p.size p.size LX.out
                have cv2 := TBk.conv TX6.out.drew p.size p.size LX.out
                have HS6 := Lib.hid (show g1 + 1 < wr.heap.size ∧ w.heap.size ≤ wr.heap.size ∧ (wr.alloc (.cells (madeCells #[Value.int .u8 0] p.size) 5)).heap.size = wr.heap.size + 1 from ⟨hsz, hb.size, World.size_alloc _ _⟩)
                have A3k := Lib.hid (A3.out k)
                clear tx ty hb
                by_cases hq : mL (pw k) X = Y
                · have hq1 : (mL (pw k) X == Y) = true := by simpa using hq
                  have HF := Lib.hid (fdI_some hlt ha.out hq)
                  clear hq
                  go_wp2
                  go_region_with
                    (first
                      | (go_at_call 15; refine (GP.out _).mono ?_; rintro e wq ⟨rfl, rfl⟩)
                      | (go_at_call 38; refine (A3k.out _ _ (by first | exact TZ6.out | exact TZ6.out.drew)).mono ?_; rintro e w7 ⟨rfl, t7, o7⟩; have T7 := Lib.hid t7; have O7 := Lib.hid o7; clear t7 o7)
                      | fail)
                  all_goals
                    have TZ7 := T7.out
                    rw [E3.out] at TZ7
                    have TY7 := O7.out.keep (b := g1 + 1) (by have := HS6.out.1; show _ ≠ wr.heap.size; omega) (by first | exact TY6.out | exact TY6.out.drew)
                    have cv3 := TBk.conv (b := wr.heap.size) TZ7 p.size p.size (mL_len _ LX.out)
                    have cv4 := TBk.conv TY7 p.size p.size LY.out
                    clear TZ7 TY7
                    go_wp2
                    go_ret2
                    exact ⟨by unfold fdK fdE; rw [HF.out]; rfl, (by first | exact HB6.out.trans (O7.out.below (by have := HS6.out; show _ ≤ wr.heap.size; omega)) | exact HB6.out.drew.trans (O7.out.below (by have := HS6.out; show _ ≤ wr.heap.size; omega)))⟩
                · have hq1 : (mL (pw k) X == Y) = false := list_ne hq
                  have HQ := Lib.hid hq
                  clear hq
                  go_wp2
                  go_region_with
                    (first
                      | (go_at_call 15; refine (GP.out _).mono ?_; rintro e wq ⟨rfl, rfl⟩)
                      | (go_at_call 38; refine (A3k.out _ _ (by first | exact TZ6.out | exact TZ6.out.drew)).mono ?_; rintro e w7 ⟨rfl, t7, o7⟩; have T7 := Lib.hid t7; have O7 := Lib.hid o7; clear t7 o7)
                      | fail)
                  all_goals
                    have TZ7 := T7.out
                    rw [E3.out] at TZ7
                    have TY7 := O7.out.keep (b := g1 + 1) (by have := HS6.out.1; show _ ≠ wr.heap.size; omega) (by first | exact TY6.out | exact TY6.out.drew)
                    have TX7 := Lib.hid (O7.out.keep (b := g1) (by have := HS6.out.1; show _ ≠ wr.heap.size; omega) (by first | exact TX6.out | exact TX6.out.drew))
                    have cv3 := TBk.conv (b := wr.heap.size) TZ7 p.size p.size (mL_len _ LX.out)
                    have cv4 := TBk.conv TY7 p.size p.size LY.out
                    have TYH := Lib.hid TY7
                    clear TZ7 TY7
                    go_wp2
                    go_roundw
                    case rel =>
                      refine ⟨k + 1, by omega, by go_num, ?_, TX7.out, TYH.out, (by first | exact HB6.out.trans (O7.out.below (by have := HS6.out; show _ ≤ wr.heap.size; omega)) | exact HB6.out.drew.trans (O7.out.below (by have := HS6.out; show _ ≤ wr.heap.size; omega))), ?_⟩
                      · unfold Hid
                        intro i hi
                        by_cases hik : i < k
                        · exact ha.out i hik
                        · obtain rfl : i = k := by omega
                          exact HQ.out
                      · have h1 := O7.out.1
                        have h2 := HS6.out
                        have h3 : w7.heap.size = wr.heap.size + 1 := h1.trans h2.2.2
                        omega
                    case measure => simp [intOf]; omega
              · obtain rfl : k = L := by omega
                have HF := Lib.hid (fdI_none ha.out)
                go_wp2
                go_ret2
                exact ⟨by unfold fdK fdE; rw [HF.out]; rfl, hb⟩
      · have g2 : ((q.size : Int) != (p.size : Int)) = true := by simp; omega
        have hc : ckC es p q = 1 := by unfold ckC; rw [hg]; simp [h2]
        have e2 : fdV es p q = 0 := by unfold fdV; rw [hc]; rfl
        have e3 : fdC es p q = 1 := by unfold fdC; rw [hc]; rfl
        rw [e2, e3]
        clear h hs hm hc e2 e3 hg h1 h2 p5 hcs he0 hl0
        generalize es.length = L at *
        go_enter Try.func30, Try.ntmps30
        go_wp2_with fail
        refine IG.out.mono ?_
        rintro e w1 ⟨rfl, hb1⟩
        have k1 := KZ.out w1 hb1
        go_wp2
        go_ret2
        exact ⟨rfl, hb1⟩
    · have g1 : ((p.size : Int) != (e0.f0.size : Int)) = true := by simp; omega
      have hc : ckC es p q = 1 := by unfold ckC; rw [hg]; simp [h1]
      have e2 : fdV es p q = 0 := by unfold fdV; rw [hc]; rfl
      have e3 : fdC es p q = 1 := by unfold fdC; rw [hc]; rfl
      rw [e2, e3]
      clear h hs hm hc e2 e3 hg h1 p5 hcs he0 hl0
      generalize es.length = L at *
      go_enter Try.func30, Try.ntmps30
      go_wp2_with fail
      refine IG.out.mono ?_
      rintro e w1 ⟨rfl, hb1⟩
      have k1 := KZ.out w1 hb1
      go_wp2
      go_ret2
      exact ⟨rfl, hb1⟩
end Go.Proofs.Ytpgcmgbflcdjiaa
