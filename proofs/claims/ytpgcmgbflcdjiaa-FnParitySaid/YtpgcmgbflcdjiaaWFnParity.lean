/- FnParity: the law's walk. Made by mk_gflaw.py. -/
import Derived.Test.YtpgcmgbflcdjiaaGfLaw
import Derived.Test.YtpgcmgbflcdjiaaData05
namespace Go.Proofs.Ytpgcmgbflcdjiaa.fnParity
open Go.RowKit
open Gf
set_option linter.unusedVariables false
set_option maxRecDepth 20000
set_option maxHeartbeats 8000000 in
theorem walk (a0 : Option Addr) (len0 cap0 : Nat) (z0 : List Int) (a1 : Option Addr) (len1 cap1 : Nat) (z1 : List Int) (w : World) (w0 : IsRow .u8 w a0 len0 cap0 z0) (w1 : IsRow .u8 w a1 len1 cap1 z1) :
    Calls Try.prog 11 #[.slice a0 len0 cap0, .slice a1 len1 cap1] w fun e w' => e = .returned (.bool true) ∧ Below w.heap.size w w' := by
  obtain ⟨hca, hcl⟩ := code_of w0
  obtain ⟨hcb, hcm⟩ := code_of w1
  have HL := Lib.hid (fun w => a2Long_any a0 a1 len0 len1 cap0 cap1 w)
  obtain ⟨lo, hlo⟩ : ∃ b, (decide (3000 < len0) || decide (3000 < len1)) = b := ⟨_, rfl⟩
  rw [hlo] at HL
  cases lo with
  | true =>
    clear hlo
    go_enter Try.func11, Try.ntmps11
    go_wp2_with fail
    refine (HL.out _).mono ?_
    rintro e w' ⟨rfl, rfl⟩
    go_wp2
    go_ret
    exact ⟨rfl, Below.refl _ _⟩
  | false =>
    have hl : len0 ≤ 3000 ∧ len1 ≤ 3000 := by simp at hlo; omega
    obtain ⟨hl0, hl1⟩ := hl
    have D0 := Lib.hid (a2Group_any a0 len0 cap0 w (by omega) hcl hca)
    have HC1 := Lib.hid (And.intro hcb hcm)
    clear hlo hca hcl hcb hcm w0 w1
    go_enter Try.func11, Try.ntmps11
    go_wp2_with fail
    refine (HL.out _).mono ?_
    rintro e w' ⟨rfl, rfl⟩
    clear HL
    go_wp2_with fail
    refine D0.out.mono ?_
    rintro e w1 ⟨es, x, c, z, rfl, n1, n2, y1, y2, hz, hsl, hb1⟩
    obtain ⟨gx, rfl, hox⟩ := OwnBS.of hsl n1
    have hgx := hox.lt
    have HX1 := Lib.hid hox
    have HB1 := Lib.hid hb1
    have HZ := Lib.hid hz
    clear D0 hsl hox hb1
    obtain ⟨hg, hl0⟩ := grp_pgB n1 n2 y1 y2 hz
    obtain ⟨q1, q2, q3, q4, q5, q6, q7⟩ := par_own hg hz hl0
    have hs20 : ∀ e ∈ es, e.f0.size ≤ 1048576 := fun e he => by have := hz e he; omega
    have MK := Lib.hid (fun w' (hb : Below w1.heap.size w1 w') => makeParity_any (some ⟨gx, 0, none⟩) c es (by omega) hs20 w' (SlSI.sl (HX1.out.below hb hgx).so))
    rw [q5] at MK
    have CK := Lib.hid (fun w' (hb : Below w1.heap.size w1 w') => checkParity_any (some ⟨gx, 0, none⟩) c es (parS hP es) (parS hQ es) (by omega) hs20 (by omega) (by omega) w' (SlSI.sl (HX1.out.below hb hgx).so))
    rw [q6, q7] at CK
    have HUS := Lib.hid (fun k (s : StringV) (t : ByteArray) (hk : es[k]? = some s) (ht : t.size = z) => up_set n1 n2 y1 y2 hz hk ht)
    have HN := Lib.hid (show 1 ≤ es.length ∧ es.length ≤ 128 ∧ 1 ≤ z ∧ z ≤ 64 from ⟨n1, n2, y1, y2⟩)
    have HSP := Lib.hid (And.intro q3 q4)
    have i1 : (0 : Int) < (es.length : Int) := by omega
    have hw64 : IntKind.i64.wrap (es.length : Int) = (es.length : Int) := IntWalk.i64_in _ (by omega)
    clear hz q1 q2 q3 q4 q5 q6 q7 hg hl0
    generalize parS hP es = UP at *
    generalize parS hQ es = UQ at *
    go_wp2_with fail
    refine (MK.out w1 (Below.refl _ _)).mono ?_
    rintro e w2 ⟨rfl, hb2⟩
    have HB2 := Lib.hid hb2
    clear hb2
    go_wp2_with fail
    refine (CK.out w2 HB2.out).mono ?_
    rintro e w3 ⟨rfl, hb3⟩
    have HB3 := Lib.hid (gbel hb3 HB2.out)
    have HBW3 := Lib.hid (HB1.out.trans (HB3.out.mono HB1.out.size))
    have hsz13 := HB3.out.size
    clear hb3 HB2 MK CK
    have B0 := Lib.hid (fun (m : Nat) (at_ : Nat) (h1 : 0 < m) (h2 : m ≤ 1000) (h3 : at_ ≤ 10) w' (hb : Below w.heap.size w w') => a2Byte_any a1 len1 cap1 at_ m w' (by omega) h1 (by omega) (by omega) (HC1.out.1.below HC1.out.2 hb))
    go_wp2_with fail
    refine (B0.out es.length 0 (by omega) (by omega) (by omega) w3 HBW3.out).mono ?_
    rintro e w' ⟨v, rfl, hv, rfl⟩
    obtain ⟨s, hs⟩ : ∃ s, es[v]? = some s := ⟨es[v], by simp [hv]⟩
    have hss := HZ.out s (List.mem_of_getElem? hs)
    have iv : (v : Int) < (es.length : Int) := by omega
    have HX3 := Lib.hid (HX1.out.below HB3.out hgx)
    have kx := HX3.out.cell hs
    obtain ⟨c4, w4, cv4, t4, b4, s4⟩ := toBytes_any w3 s.f0 s.f0.size rfl
    have HS := Lib.hid hs
    have HSS := Lib.hid hss
    have T4 := Lib.hid t4
    have HB4 := Lib.hid (HBW3.out.trans (b4.mono HBW3.out.size))
    have HX4 := Lib.hid (HX3.out.below b4 (by omega))
    have hgx4 : gx < w3.heap.size := by omega
    have HSL := Lib.hid (str_len s.f0 z hss)
    have hwg : w.heap.size ≤ w3.heap.size := HBW3.out.size
    clear t4 b4 hs hss HB3 HX3 hgx
    generalize w3.heap.size = g at *
    go_wp2
    clear kx
    go_loopw [13] (fun i wr => ∃ (j : Nat) (l : List UInt8), i = .int .i64 (j : Int) ∧ j ≤ z ∧ l.length = z ∧ TBk wr g l ∧ OnlyB g w4 wr) (fun i _ => z - (intOf i).toNat)
    case atStart => exact ⟨0, s.f0.data.toList, rfl, Nat.zero_le _, HSL.out, T4.out, rfl, fun _ _ => rfl, Below.refl _ _⟩
    case round =>
      obtain ⟨j, l, rfl, hj, hll, ht, ho⟩ := hrel
      by_cases hc : j < z ∧ j < len1
      · obtain ⟨hc1, hc2⟩ := hc
        have hc1i : (j : Int) < (s.f0.size : Int) := by have := HSS.out; omega
        have hc2i : (j : Int) < (len1 : Int) := by omega
        have HB5 := HB4.out.trans (ho.below hwg)
        obtain ⟨xa, rfl, hxa⟩ : ∃ x : Addr, a1 = some x ∧ ∃ v : Nat, v < 256 ∧ wr.cell? (x.add j) = some (.int .u8 (v : Int)) := by
          rcases HC1.out.1.below HC1.out.2 HB5 with h | ⟨x, h, h2⟩
          · omega
          · exact ⟨x, h, h2 j hc2⟩
        obtain ⟨vv, hvv, hcell⟩ := hxa
        have hcf := ht j (by omega)
        have hfz := hcf.2
        have HT := Lib.hid ht
        have HO := Lib.hid ho
        have HLL := Lib.hid hll
        have HV := Lib.hid (show (vv : Int) = ((vv.toUInt8).toNat : Int) by rw [byteV9 vv hvv])
        obtain ⟨zz, hzz⟩ : ∃ z, Value.int .u8 ((l[j]'(by omega)).toNat : Int) = z := ⟨_, rfl⟩
        have hcc := hcf.1
        rw [hzz] at hcc
        clear ht ho hll hcf hzz HB5
        go_wp2
        go_roundw
        case rel =>
          refine ⟨j + 1, l.set j vv.toUInt8, by go_num, by omega, by simpa using HLL.out, HT.out.set j _ _ HV.out (by have := HLL.out; omega), ?_⟩
          exact ⟨by rw [← HO.out.1]; simp [World.setCell], fun p hp => (heap_setCell_ne _ _ _ _ _ hp).trans (HO.out.2.1 p hp), HO.out.2.2.setCell (p := ⟨g, j, none⟩) (Nat.le_refl _) _⟩
        case measure => simp [intOf]; omega
      · have T5 := Lib.hid ht
        have HX5 := Lib.hid (HX4.out.keep (ho.2.1 gx (by omega)))
        have HB5 := Lib.hid (HB4.out.trans (ho.below hwg))
        have hg5 : g < wr.heap.size := by rw [ho.1]; exact s4
        have L5 := Lib.hid (show l.length = s.f0.size by rw [hll, HSS.out])
        have L5z := Lib.hid hll
        have hgs5 : gx < wr.heap.size := HX5.out.lt
        clear ht ho HX4 HB4 hll
        by_cases hc1 : j < z
        · have hc1i : (j : Int) < (s.f0.size : Int) := by have := HSS.out; omega
          have hc2i : ¬ (j : Int) < (len1 : Int) := by omega
          clear hc hc1
          have hlen128 := HN.out
          have hbz5 : w.heap.size ≤ wr.heap.size := HB5.out.size
          go_wp2_with (at_builtin; refine wpList_copyStrs rfl _ _ rfl rfl rfl rfl HX5.out HN.out.1 HN.out.2.1 ?_; intro gc cap6 w6 hgc6 hown6 hb6)
          have HO6 := Lib.hid (And.intro hgc6 hown6)
          have T6 := Lib.hid (TBk.on hb6 hg5 T5.out)
          have HX6 := Lib.hid (HX5.out.below hb6 HX5.out.lt)
          have HB6 := Lib.hid (HB5.out.trans (hb6.mono hbz5))
          have hs6 := hb6.size
          clear hown6 hgc6 hb6
          have hgcg : wr.heap.size ≤ gc := HO6.out.1
          have cvB := TBk.conv T6.out s.f0.size c4 L5.out
          have kc := HO6.out.2.cell HS.out
          have kf := HO6.out.2.free v
          have HT := Lib.hid (show (⟨l.toArray⟩ : ByteArray).size = z from L5z.out)
          have HO7 := Lib.hid (HO6.out.2.put v ⟨l.toArray⟩ hv)
          have HX7 := Lib.hid (HX6.out.keep (heap_setCell_ne w6 gc gx v (.string ⟨l.toArray⟩) (by have := HX5.out.lt; omega)))
          have HB7 := Lib.hid (HB6.out.setCell (p := ⟨gc, v, none⟩) (show w.heap.size ≤ gc by omega) (.string ⟨l.toArray⟩))
          have hz7 : (w6.setCell ⟨gc, v, none⟩ (.string ⟨l.toArray⟩)).heap.size = w6.heap.size := by simp [World.setCell]
          have hgc7 := HO7.out.lt
          have hgx7 := HX7.out.lt
          have kx7 := HX7.out.cell HS.out
          have kc7 := HO7.out.cell (k := v) (e := ⟨⟨l.toArray⟩⟩) (by simp [hv])
          obtain ⟨u1, u2, u3, u4⟩ := HUS.out v s ⟨l.toArray⟩ HS.out HT.out
          have UPD := Lib.hid (fun w => updateParity_g UP UQ (v : Int) s.f0 ⟨l.toArray⟩ (by have := HSP.out; have := HN.out; omega) (by have := HSP.out; have := HN.out; omega) (by have := HSS.out; have := HN.out; omega) (by have := HT.out; have := HN.out; omega) w)
          rw [u1, u2, u3] at UPD
          have hs7 := set_sizes (k := v) HZ.out HT.out
          have MK2 := Lib.hid (fun w' (hb : Below (w6.setCell ⟨gc, v, none⟩ (.string ⟨l.toArray⟩)).heap.size (w6.setCell ⟨gc, v, none⟩ (.string ⟨l.toArray⟩)) w') => makeParity_any (some ⟨gc, 0, none⟩) cap6 (es.set v ⟨⟨l.toArray⟩⟩) (by simp; omega) (fun e he => by have := hs7 e he; have := HN.out; omega) w' (SlSI.sl (HO7.out.below hb hgc7).so))
          rw [u4, List.length_set] at MK2
          clear u1 u2 u3 u4 hs7 HUS hlen128
          generalize parS hP (es.set v ⟨⟨l.toArray⟩⟩) = NP at *
          generalize parS hQ (es.set v ⟨⟨l.toArray⟩⟩) = NQ at *
          go_wp2
          generalize w6.setCell ⟨gc, v, none⟩ (.string ⟨l.toArray⟩) = W7 at *
          go_region_with
            (first
              | (go_at_call 22; refine (UPD.out _).mono ?_; rintro e w8 ⟨rfl, hb8⟩; have HB8 := Lib.hid (show Below W7.heap.size W7 w8 from by first | exact hb8 | exact ((Below.refl _ _).drew).trans hb8); clear hb8)
              | fail)
          all_goals
            go_wp2_with fail
            refine (MK2.out _ HB8.out).mono ?_
            rintro e w9 ⟨rfl, hb9⟩
            go_wp2
            go_ret
            exact ⟨rfl, (HB7.out.trans (HB8.out.mono (by have := HB7.out.size; omega))).trans (hb9.mono (by have := HB7.out.size; have := HB8.out.size; omega))⟩
        · have hc1i : ¬ (j : Int) < (s.f0.size : Int) := by have := HSS.out; omega
          clear hc hc1
          have hlen128 := HN.out
          have hbz5 : w.heap.size ≤ wr.heap.size := HB5.out.size
          go_wp2_with (at_builtin; refine wpList_copyStrs rfl _ _ rfl rfl rfl rfl HX5.out HN.out.1 HN.out.2.1 ?_; intro gc cap6 w6 hgc6 hown6 hb6)
          have HO6 := Lib.hid (And.intro hgc6 hown6)
          have T6 := Lib.hid (TBk.on hb6 hg5 T5.out)
          have HX6 := Lib.hid (HX5.out.below hb6 HX5.out.lt)
          have HB6 := Lib.hid (HB5.out.trans (hb6.mono hbz5))
          have hs6 := hb6.size
          clear hown6 hgc6 hb6
          have hgcg : wr.heap.size ≤ gc := HO6.out.1
          have cvB := TBk.conv T6.out s.f0.size c4 L5.out
          have kc := HO6.out.2.cell HS.out
          have kf := HO6.out.2.free v
          have HT := Lib.hid (show (⟨l.toArray⟩ : ByteArray).size = z from L5z.out)
          have HO7 := Lib.hid (HO6.out.2.put v ⟨l.toArray⟩ hv)
          have HX7 := Lib.hid (HX6.out.keep (heap_setCell_ne w6 gc gx v (.string ⟨l.toArray⟩) (by have := HX5.out.lt; omega)))
          have HB7 := Lib.hid (HB6.out.setCell (p := ⟨gc, v, none⟩) (show w.heap.size ≤ gc by omega) (.string ⟨l.toArray⟩))
          have hz7 : (w6.setCell ⟨gc, v, none⟩ (.string ⟨l.toArray⟩)).heap.size = w6.heap.size := by simp [World.setCell]
          have hgc7 := HO7.out.lt
          have hgx7 := HX7.out.lt
          have kx7 := HX7.out.cell HS.out
          have kc7 := HO7.out.cell (k := v) (e := ⟨⟨l.toArray⟩⟩) (by simp [hv])
          obtain ⟨u1, u2, u3, u4⟩ := HUS.out v s ⟨l.toArray⟩ HS.out HT.out
          have UPD := Lib.hid (fun w => updateParity_g UP UQ (v : Int) s.f0 ⟨l.toArray⟩ (by have := HSP.out; have := HN.out; omega) (by have := HSP.out; have := HN.out; omega) (by have := HSS.out; have := HN.out; omega) (by have := HT.out; have := HN.out; omega) w)
          rw [u1, u2, u3] at UPD
          have hs7 := set_sizes (k := v) HZ.out HT.out
          have MK2 := Lib.hid (fun w' (hb : Below (w6.setCell ⟨gc, v, none⟩ (.string ⟨l.toArray⟩)).heap.size (w6.setCell ⟨gc, v, none⟩ (.string ⟨l.toArray⟩)) w') => makeParity_any (some ⟨gc, 0, none⟩) cap6 (es.set v ⟨⟨l.toArray⟩⟩) (by simp; omega) (fun e he => by have := hs7 e he; have := HN.out; omega) w' (SlSI.sl (HO7.out.below hb hgc7).so))
          rw [u4, List.length_set] at MK2
          clear u1 u2 u3 u4 hs7 HUS hlen128
          generalize parS hP (es.set v ⟨⟨l.toArray⟩⟩) = NP at *
          generalize parS hQ (es.set v ⟨⟨l.toArray⟩⟩) = NQ at *
          go_wp2
          generalize w6.setCell ⟨gc, v, none⟩ (.string ⟨l.toArray⟩) = W7 at *
          go_region_with
            (first
              | (go_at_call 22; refine (UPD.out _).mono ?_; rintro e w8 ⟨rfl, hb8⟩; have HB8 := Lib.hid (show Below W7.heap.size W7 w8 from by first | exact hb8 | exact ((Below.refl _ _).drew).trans hb8); clear hb8)
              | fail)
          all_goals
            go_wp2_with fail
            refine (MK2.out _ HB8.out).mono ?_
            rintro e w9 ⟨rfl, hb9⟩
            go_wp2
            go_ret
            exact ⟨rfl, (HB7.out.trans (HB8.out.mono (by have := HB7.out.size; omega))).trans (hb9.mono (by have := HB7.out.size; have := HB8.out.size; omega))⟩
end Go.Proofs.Ytpgcmgbflcdjiaa.fnParity
