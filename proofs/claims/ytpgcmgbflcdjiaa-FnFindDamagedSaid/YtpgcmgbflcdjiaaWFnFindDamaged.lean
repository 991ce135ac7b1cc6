/- FnFindDamaged: the law's walk. Made by mk_gflaw.py. -/
import Derived.Test.YtpgcmgbflcdjiaaGfLaw
import Derived.Test.YtpgcmgbflcdjiaaData05
namespace Go.Proofs.Ytpgcmgbflcdjiaa.fnFindDamaged
open Go.RowKit
open Gf
set_option linter.unusedVariables false
set_option maxRecDepth 20000
theorem set_ne {l : List UInt8} {j : Nat} {x y : UInt8} (hj : l[j]? = some x) (hne : x ≠ y) : l ≠ l.set j y := by
  intro h
  have hl := (List.getElem?_eq_some_iff.1 hj).1
  have h2 : (l.set j y)[j]? = some y := by rw [List.getElem?_set_self hl]
  rw [← h, hj] at h2
  exact hne (Option.some.inj h2)
set_option maxHeartbeats 8000000 in
theorem walk (a0 : Option Addr) (len0 cap0 : Nat) (z0 : List Int) (a1 : Option Addr) (len1 cap1 : Nat) (z1 : List Int) (w : World) (w0 : IsRow .u8 w a0 len0 cap0 z0) (w1 : IsRow .u8 w a1 len1 cap1 z1) :
    Calls Try.prog 12 #[.slice a0 len0 cap0, .slice a1 len1 cap1] w fun e w' => e = .returned (.bool true) ∧ Below w.heap.size w w' := by
  obtain ⟨hca, hcl⟩ := code_of w0
  obtain ⟨hcb, hcm⟩ := code_of w1
  have HL := Lib.hid (fun w => a2Long_any a0 a1 len0 len1 cap0 cap1 w)
  obtain ⟨lo, hlo⟩ : ∃ b, (decide (3000 < len0) || decide (3000 < len1)) = b := ⟨_, rfl⟩
  rw [hlo] at HL
  cases lo with
  | true =>
    clear hlo
    go_enter Try.func12, Try.ntmps12
    go_wp2_with fail
    refine (HL.out _).mono ?_
    rintro e w' ⟨rfl, rfl⟩
    go_wp2
    go_ret
    exact ⟨rfl, Below.refl _ _⟩
  | false =>
    have hl : len0 ≤ 3000 ∧ len1 ≤ 3000 := by simp at hlo; omega
    obtain ⟨hl0, hl1⟩ := hl
    have D0 := Lib.hid (a2Group_any a0 len0 cap0 w (by omega) hcl hca)
    have HC1 := Lib.hid (And.intro hcb hcm)
    clear hlo hca hcl hcb hcm w0 w1
    go_enter Try.func12, Try.ntmps12
    go_wp2_with fail
    refine (HL.out _).mono ?_
    rintro e w' ⟨rfl, rfl⟩
    clear HL
    go_wp2_with fail
    refine D0.out.mono ?_
    rintro e w1 ⟨es, x, c, z, rfl, n1, n2, y1, y2, hz, hsl, hb1⟩
    obtain ⟨gx, rfl, hox⟩ := OwnBS.of hsl n1
    have hgx := hox.lt
    have HX1 := Lib.hid hox
    have HB1 := Lib.hid hb1
    have HZ := Lib.hid hz
    clear D0 hsl hox hb1
    obtain ⟨hg, hl0⟩ := grp_pgB n1 n2 y1 y2 hz
    obtain ⟨q1, q2, q3, q4, q5, q6, q7⟩ := par_own hg hz hl0
    have hs20 : ∀ e ∈ es, e.f0.size ≤ 1048576 := fun e he => by have := hz e he; omega
    have MK := Lib.hid (fun w' (hb : Below w1.heap.size w1 w') => makeParity_any (some ⟨gx, 0, none⟩) c es (by omega) hs20 w' (SlSI.sl (HX1.out.below hb hgx).so))
    rw [q5] at MK
    have CK := Lib.hid (fun w' (hb : Below w1.heap.size w1 w') => findDamaged_any (some ⟨gx, 0, none⟩) c es (parS hP es) (parS hQ es) (by omega) hs20 (by omega) (by omega) w' (SlSI.sl (HX1.out.below hb hgx).so))
    have hfv : fdV es (parS hP es) (parS hQ es) = -1 := by unfold fdV; rw [if_pos q6, if_pos rfl, if_pos rfl]
    have hfc : fdC es (parS hP es) (parS hQ es) = 0 := by unfold fdC; rw [if_pos q6, if_pos rfl, if_pos rfl]
    rw [hfv, hfc] at CK
    have HUS := Lib.hid (fun k (s : StringV) (t : ByteArray) (hk : es[k]? = some s) (ht : t.size = z) => fd_set n1 n2 y1 y2 hz hk ht)
    have HN := Lib.hid (show 1 ≤ es.length ∧ es.length ≤ 128 ∧ 1 ≤ z ∧ z ≤ 64 from ⟨n1, n2, y1, y2⟩)
    have HSP := Lib.hid (And.intro q3 q4)
    have i1 : (0 : Int) < (es.length : Int) := by omega
    have hw64 : IntKind.i64.wrap (es.length : Int) = (es.length : Int) := IntWalk.i64_in _ (by omega)
    clear hz q1 q2 q3 q4 q5 q6 q7 hg hl0
    generalize parS hP es = UP at *
    generalize parS hQ es = UQ at *
    go_wp2_with fail
    refine (MK.out w1 (Below.refl _ _)).mono ?_
    rintro e w2 ⟨rfl, hb2⟩
    have HB2 := Lib.hid hb2
    clear hb2
    go_wp2_with fail
    refine (CK.out w2 HB2.out).mono ?_
    rintro e w3 ⟨rfl, hb3⟩
    have HB3 := Lib.hid (gbel hb3 HB2.out)
    have HBW3 := Lib.hid (HB1.out.trans (HB3.out.mono HB1.out.size))
    have hsz13 := HB3.out.size
    clear hb3 HB2 MK CK
    have B0 := Lib.hid (fun (m : Nat) (at_ : Nat) (h1 : 0 < m) (h2 : m ≤ 1000) (h3 : at_ ≤ 10) w' (hb : Below w.heap.size w w') => a2Byte_any a1 len1 cap1 at_ m w' (by omega) h1 (by omega) (by omega) (HC1.out.1.below HC1.out.2 hb))
    go_wp2_with fail
    refine (B0.out es.length 0 (by omega) (by omega) (by omega) w3 HBW3.out).mono ?_
    rintro e w' ⟨v, rfl, hv, rfl⟩
    obtain ⟨s, hs⟩ : ∃ s, es[v]? = some s := ⟨es[v], by simp [hv]⟩
    have hss := HZ.out s (List.mem_of_getElem? hs)
    have iv : (v : Int) < (es.length : Int) := by omega
    have HX3 := Lib.hid (HX1.out.below HB3.out hgx)
    have kx := HX3.out.cell hs
    obtain ⟨c4, w4, cv4, t4, b4, s4⟩ := toBytes_any w3 s.f0 s.f0.size rfl
    have HS := Lib.hid hs
    have HSS := Lib.hid hss
    have T4 := Lib.hid t4
    have HB4 := Lib.hid (HBW3.out.trans (b4.mono HBW3.out.size))
    have HX4 := Lib.hid (HX3.out.below b4 (by omega))
    have hgx4 : gx < w3.heap.size := by omega
    have HSL := Lib.hid (str_len s.f0 z hss)
    have hwg : w.heap.size ≤ w3.heap.size := HBW3.out.size
    clear t4 b4 hs hss HB3 HX3 hgx
    generalize w3.heap.size = g at *
    have hz1 : 1 ≤ s.f0.size := by have := HSS.out; have := HN.out; omega
    have B1 := Lib.hid (fun w' (hb : Below w.heap.size w w') => show Calls Try.prog 20 #[.slice a1 len1 cap1, .int .i64 1, .int .i64 (s.f0.size : Int)] w' (fun e w'' => ∃ v : Nat, e = .returned (.int .i64 (v : Int)) ∧ v < s.f0.size ∧ w' = w'') from B0.out s.f0.size 1 (by omega) (by have := HSS.out; have := HN.out; omega) (by omega) w' hb)
    have B2 := Lib.hid (fun w' (hb : Below w.heap.size w w') => show Calls Try.prog 20 #[.slice a1 len1 cap1, .int .i64 2, .int .i64 255] w' (fun e w'' => ∃ v : Nat, e = .returned (.int .i64 (v : Int)) ∧ v < 255 ∧ w' = w'') from B0.out 255 2 (by omega) (by omega) (by omega) w' hb)
    have hw65 : IntKind.i64.wrap (s.f0.size : Int) = (s.f0.size : Int) := IntWalk.i64_in _ (by have := HSS.out; have := HN.out; omega)
    have CX := Lib.hid (fun (j : Nat) (hj : j < s.f0.size) => show w4.cell? ⟨g, j, none⟩ = some (.int .u8 ((s.f0.data.toList[j]'(by have := HSL.out; have := HSS.out; omega)).toNat : Int)) ∧ w4.frozen? ⟨g, j, none⟩ = false from T4.out j (by have := HSL.out; have := HSS.out; omega))
    clear B0
    go_wp2
    clear kx
    go_region_law (first
      | (go_simp; go_at_call 20; first
          | ((with_reducible refine (B1.out _ (by first | exact HB4.out | exact HB4.out.drew)).mono ?_); rintro e wq ⟨j, rfl, hj, rfl⟩; have ij : (j : Int) < (s.f0.size : Int) := (by omega); obtain ⟨cc, cf⟩ := CX.out j hj; obtain ⟨x, hx⟩ : ∃ x, s.f0.data.toList[j]'(by have := HSL.out; have := HSS.out; omega) = x := ⟨_, rfl⟩; rw [hx] at cc; have HXJ := Lib.hid hx; have hx8 := x.toNat_lt; clear hx; go_wp2_with fail)
          | ((with_reducible refine (B2.out _ (by first | exact HB4.out | exact HB4.out.drew)).mono ?_); rintro e wq ⟨v2, rfl, hv2, rfl⟩; have hxx : bits .xor .u8 (x.toNat : Int) (IntKind.u8.wrap (IntKind.i64.wrap (1 + (v2 : Int)))) = ((x.toNat ^^^ (1 + v2) : Nat) : Int) := (by rw [IntWalk.i64_in (1 + (v2 : Int)) (by omega), IntKind.wrap_u8, ← u8_xor_nat _ _ (by omega) (by omega)]; congr 1; omega); go_wp2_with fail))
      | fail)
    all_goals
      have hy8 : x.toNat ^^^ (1 + v2) < 256 := xlt hx8 (by omega)
      have hjl : j < s.f0.data.toList.length := by have := HSL.out; have := HSS.out; omega
      have hynat : ((x.toNat ^^^ (1 + v2) : Nat) : Int) = (((x.toNat ^^^ (1 + v2)).toUInt8.toNat : Nat) : Int) := by rw [byteV9 _ hy8]
      have HNE := Lib.hid (set_ne (j := j) (x := x) (y := (x.toNat ^^^ (1 + v2)).toUInt8) (by rw [List.getElem?_eq_getElem hjl, HXJ.out]) (by
        intro h
        have h3 := congrArg UInt8.toNat h
        have h4 : (x.toNat ^^^ (1 + v2)).toUInt8.toNat = x.toNat ^^^ (1 + v2) := by have := hynat; omega
        rw [h4] at h3
        have h5 : x.toNat ^^^ (x.toNat ^^^ (1 + v2)) = x.toNat ^^^ x.toNat := by rw [← h3]
        rw [← Nat.xor_assoc, Nat.xor_self, Nat.zero_xor] at h5
        omega))
      have T5a := (T4.out.set j (x.toNat ^^^ (1 + v2)).toUInt8 _ hynat hjl).drew
      have HX5 := Lib.hid ((HX4.out.keep (w' := w4.setCell ⟨g, j, none⟩ (.int .u8 ((x.toNat ^^^ (1 + v2) : Nat) : Int))) (heap_setCell_ne _ _ _ _ _ (by omega))).below (C := (w4.setCell ⟨g, j, none⟩ (.int .u8 ((x.toNat ^^^ (1 + v2) : Nat) : Int))).heap.size) ((Below.refl _ _).drew) ((HX4.out.keep (w' := w4.setCell ⟨g, j, none⟩ (.int .u8 ((x.toNat ^^^ (1 + v2) : Nat) : Int))) (heap_setCell_ne _ _ _ _ _ (by omega))).lt))
      have HB5 := Lib.hid ((HB4.out.setCell (p := ⟨g, j, none⟩) hwg (.int .u8 ((x.toNat ^^^ (1 + v2) : Nat) : Int))).drew)
      have hg5 : g < (w4.setCell ⟨g, j, none⟩ (.int .u8 ((x.toNat ^^^ (1 + v2) : Nat) : Int))).drew.heap.size := by show g < (w4.setCell _ _).heap.size; simpa [World.setCell] using s4
      have T5 := Lib.hid T5a
      have L5z := Lib.hid (show (s.f0.data.toList.set j (x.toNat ^^^ (1 + v2)).toUInt8).length = z by rw [List.length_set]; exact HSL.out)
      have L5 := Lib.hid (L5z.out.trans HSS.out.symm)
      clear T5a hynat hjl hy8 hxx cc cf
      generalize s.f0.data.toList.set j (x.toNat ^^^ (1 + v2)).toUInt8 = l at *
      generalize (w4.setCell ⟨g, j, none⟩ (.int .u8 ((x.toNat ^^^ (1 + v2) : Nat) : Int))).drew = W5 at *
      have hgs5 : gx < W5.heap.size := HX5.out.lt
      clear HX4 HB4 T4 CX B1 B2
      have hlen128 := HN.out
      have hbz5 : w.heap.size ≤ W5.heap.size := HB5.out.size
      go_wp2_with (at_builtin; refine wpList_copyStrs rfl _ _ rfl rfl rfl rfl HX5.out HN.out.1 HN.out.2.1 ?_; intro gc cap6 w6 hgc6 hown6 hb6)
      have HO6 := Lib.hid (And.intro hgc6 hown6)
      have T6 := Lib.hid (TBk.on hb6 hg5 T5.out)
      have HX6 := Lib.hid (HX5.out.below hb6 HX5.out.lt)
      have HB6 := Lib.hid (HB5.out.trans (hb6.mono hbz5))
      have hs6 := hb6.size
      clear hown6 hgc6 hb6
      have hgcg : W5.heap.size ≤ gc := HO6.out.1
      have cvB := TBk.conv T6.out s.f0.size c4 L5.out
      have kc := HO6.out.2.cell HS.out
      have kf := HO6.out.2.free v
      have HT := Lib.hid (show (⟨l.toArray⟩ : ByteArray).size = z from L5z.out)
      have HO7 := Lib.hid (HO6.out.2.put v ⟨l.toArray⟩ hv)
      have HX7 := Lib.hid (HX6.out.keep (heap_setCell_ne w6 gc gx v (.string ⟨l.toArray⟩) (by have := HX5.out.lt; omega)))
      have HB7 := Lib.hid (HB6.out.setCell (p := ⟨gc, v, none⟩) (show w.heap.size ≤ gc by omega) (.string ⟨l.toArray⟩))
      have hz7 : (w6.setCell ⟨gc, v, none⟩ (.string ⟨l.toArray⟩)).heap.size = w6.heap.size := by simp [World.setCell]
      have hgc7 := HO7.out.lt
      have hgx7 := HX7.out.lt
      have kx7 := HX7.out.cell HS.out
      have kc7 := HO7.out.cell (k := v) (e := ⟨⟨l.toArray⟩⟩) (by simp [hv])
      obtain ⟨u1, u2⟩ := HUS.out v s ⟨l.toArray⟩ HS.out HT.out HNE.out
      have hs7 := set_sizes (k := v) HZ.out HT.out
      have FD2 := Lib.hid (findDamaged_any (some ⟨gc, 0, none⟩) cap6 (es.set v ⟨⟨l.toArray⟩⟩) UP UQ (by simp; omega) (fun e he => by have := hs7 e he; have := HN.out; omega) (by have := HSP.out; have := HN.out; omega) (by have := HSP.out; have := HN.out; omega) (w6.setCell ⟨gc, v, none⟩ (.string ⟨l.toArray⟩)) (SlSI.sl HO7.out.so))
      rw [u1, u2, List.length_set] at FD2
      clear u1 u2 hs7 HUS hlen128
      go_wp2_with fail
      refine FD2.out.mono ?_
      rintro e w9 ⟨rfl, hb9⟩
      go_wp2
      go_ret
      exact ⟨rfl, HB7.out.trans (hb9.mono (by have := HB7.out.size; omega))⟩
end Go.Proofs.Ytpgcmgbflcdjiaa.fnFindDamaged
