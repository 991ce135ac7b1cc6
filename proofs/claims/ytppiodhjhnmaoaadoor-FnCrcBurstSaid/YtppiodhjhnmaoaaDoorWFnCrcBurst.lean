/- FnCrcBurst: the law's walk. -/
import Derived.Test.YtppiodhjhnmaoaaDoorWFnCrcLinear
import Derived.Test.YtppiodhjhnmaoaaDoorBurst
import Derived.Test.YtppiodhjhnmaoaaDoorDrawCrc
import Derived.BigRegion
namespace Go.Proofs.YtppiodhjhnmaoaaDoor.fnCrcBurst
open Go.RowKit
set_option maxRecDepth 20000
set_option linter.unusedVariables false
/-- The row of the changed bytes. -/
def BRow (s : ByteArray) (D : Nat → Nat) (cap : Nat) (C : Array Value) : Prop :=
  C.size = cap ∧ s.size ≤ cap ∧ ∀ j (h : j < s.size), C[j]? = some (.int .u8 ((s[j].toNat ^^^ D j : Nat) : Int))
theorem BRow.next {s : ByteArray} {D : Nat → Nat} {cap : Nat} {C : Array Value} (h : BRow s D cap C) (p x : Nat) (hp : p < s.size) :
    BRow s (fun j => if true = true ∧ j = p then D j ^^^ x else D j) cap (C.setIfInBounds p (.int .u8 ((s[p].toNat ^^^ D p ^^^ x : Nat) : Int))) := by
  obtain ⟨h1, h2, h3⟩ := h
  refine ⟨by simpa using h1, h2, ?_⟩
  intro j hj
  rw [Array.getElem?_setIfInBounds]
  by_cases e : p = j
  · subst e
    rw [if_pos rfl, if_pos (by omega)]
    show _ = some (Value.int .u8 ((s[p].toNat ^^^ (if true = true ∧ p = p then D p ^^^ x else D p) : Nat) : Int))
    rw [if_pos ⟨rfl, rfl⟩, Nat.xor_assoc]
  · rw [if_neg e, h3 j hj]
    show _ = some (Value.int .u8 ((s[j].toNat ^^^ (if true = true ∧ j = p then D j ^^^ x else D j) : Nat) : Int))
    rw [if_neg (by omega)]
/-- The changed bytes themselves. -/
def tOf (s : ByteArray) (D : Nat → Nat) : List UInt8 := (List.range s.size).map fun j => UInt8.ofNat ((s[j]?.getD 0).toNat ^^^ D j)
theorem tOf_length (s : ByteArray) (D : Nat → Nat) : (tOf s D).length = s.size := by simp [tOf]
theorem tOf_at (s : ByteArray) (D : Nat → Nat) (j : Nat) (h : j < s.size) (h' : j < (tOf s D).length) (hD : D j < 256) : (tOf s D)[j].toNat = s[j].toNat ^^^ D j := by
  have hx := s[j].toNat_lt
  have hb : s[j].toNat ^^^ D j < 2 ^ 8 := Nat.xor_lt_two_pow (by omega) (by omega)
  have e : (tOf s D)[j] = UInt8.ofNat (s[j].toNat ^^^ D j) := by
    simp [tOf, h]
  rw [e]
  show (UInt8.ofNat (s[j].toNat ^^^ D j)).toNat = _
  rw [UInt8.toNat_ofNat']
  exact Nat.mod_eq_of_lt (by omega)
theorem row_conv {s : ByteArray} {D : Nat → Nat} {cap g fr : Nat} {C : Array Value} {W : World} (hC : W.heap[g]? = some (.cells C 5 (cap, fr))) (h : BRow s D cap C) (hD : ∀ j, D j < 256) :
    (convert 22 9 (.slice (some ⟨g, 0, none⟩) s.size cap)).run Tryd.prog W = .ok (.string ⟨(tOf s D).toArray⟩) W := by
  have hl := tOf_length s D
  rw [← hl]
  refine conv_of _ _ _ _ ?_
  intro j hj
  rw [add0]
  have h1 : j < s.size := by omega
  rw [tOf_at s D j h1 hj (hD j)]
  simp [World.cell?, hC, h.2.2 j h1]
set_option maxHeartbeats 8000000 in
theorem walk (a0 : Option Addr) (len0 cap0 : Nat) (z0 : List Int) (a1 : Option Addr) (len1 cap1 : Nat) (z1 : List Int) (w : World) (w0 : IsRow .u8 w a0 len0 cap0 z0) (w1 : IsRow .u8 w a1 len1 cap1 z1) :
    Calls Tryd.prog 4 #[.slice a0 len0 cap0, .slice a1 len1 cap1] w fun e w' => e = .returned (.bool true) ∧ Below w.heap.size w w' := by
  obtain ⟨hca, hcl⟩ := code_of w0
  obtain ⟨hcb, hcm⟩ := code_of w1
  have HL0 := Lib.hid (fun w => fnCrcLinear.b10Long_any a0 len0 cap0 w)
  have HL1 := Lib.hid (fun w => fnCrcLinear.b10Long_any a1 len1 cap1 w)
  by_cases hlo : 1048576 < len0
  · rw [decide_eq_true hlo] at HL0
    clear hlo hca hcl hcb hcm w0 w1
    go_enter Tryd.func4, Tryd.ntmps4
    go_wp2_with fail
    refine (HL0.out _).mono ?_
    rintro e w' ⟨rfl, rfl⟩
    go_wp2
    go_ret
    exact ⟨rfl, Below.refl _ _⟩
  rw [decide_eq_false hlo] at HL0
  by_cases hlo1 : 1048576 < len1
  · rw [decide_eq_true hlo1] at HL1
    clear hlo hlo1 hca hcl hcb hcm w0 w1
    go_enter Tryd.func4, Tryd.ntmps4
    go_wp2_with fail
    refine (HL0.out _).mono ?_
    rintro e w' ⟨rfl, rfl⟩
    go_wp2_with fail
    refine (HL1.out _).mono ?_
    rintro e w' ⟨rfl, rfl⟩
    go_wp2
    go_ret
    exact ⟨rfl, Below.refl _ _⟩
  rw [decide_eq_false hlo1] at HL1
  have D0 := Lib.hid (drawCrc16_any a0 len0 cap0 w (by omega) hcl hca)
  have B0 := Lib.hid (fun w2 (hb : Below w.heap.size w w2) (i n : Nat) (hi : i ≤ 100) (hn : 2 ≤ n) (hn2 : n ≤ 1000000) => b10At_any a1 len1 cap1 i n hi hn hn2 w2 (by omega) (hcb.below hcm hb))
  clear hlo hlo1 hca hcl hcb hcm w0 w1
  go_enter Tryd.func4, Tryd.ntmps4
  go_wp2_with fail
  refine (HL0.out _).mono ?_
  rintro e w' ⟨rfl, rfl⟩
  go_wp2_with fail
  refine (HL1.out _).mono ?_
  rintro e w' ⟨rfl, rfl⟩
  go_wp2_with fail
  refine D0.out.mono ?_
  rintro e w2 ⟨s, v0, rfl, hs, hv0, hv1, hb2⟩
  have HB2 := Lib.hid hb2; clear hb2 D0 HL0 HL1
  by_cases hneg : v0 < 0
  · go_wp2
    go_ret
    exact ⟨rfl, HB2.out⟩
  by_cases hgt : 65535 < v0
  · go_wp2
    go_ret
    exact ⟨rfl, HB2.out⟩
  by_cases hsh : s.size < 3
  · have hsh2 : (s.size : Int) < 3 := by omega
    go_wp2
    go_ret
    exact ⟨rfl, HB2.out⟩
  have hsh2 : ¬ (s.size : Int) < 3 := by omega
  obtain ⟨v, rfl⟩ : ∃ v : Nat, v0 = v := ⟨v0.toNat, by omega⟩
  have hv : v < 65536 := by omega
  have hgt2 : ¬ (65535 : Int) < (v : Int) := by omega
  obtain ⟨n, hn⟩ : ∃ n, 8 * s.size = n + 15 := ⟨8 * s.size - 15, by omega⟩
  have hn2 : 8 * (s.size : Int) - 15 = (n : Int) := by omega
  have B1 := Lib.hid (B0.out w2 HB2.out 0 n (by omega) (by omega) (by omega))
  have HN := Lib.hid hn
  clear hn hneg hgt hsh hv0 hv1
  go_wp2_with fail
  refine (B1.out).mono ?_
  rintro e w3 ⟨⟨i, hi, rfl⟩, rfl⟩
  clear B1
  have hcv2 := fun w s => run_bytes_of_string (P := Tryd.prog) w 9 22 5 s Tryd.underlying9 Tryd.underlying22 Tryd.underlying5
  go_wp2
  clear hcv2
  have hcap1 := Lib.hid (show s.size ≤ grownCap w2 s.size 0 5 ∧ (bytesRow s (grownCap w2 s.size 0 5)).size = grownCap w2 s.size 0 5 by
    have h1 : s.size ≤ grownCap w2 s.size 0 5 := grownCap_ge _ _ _ _
    refine ⟨h1, ?_⟩
    have : s.data.size = s.size := rfl
    simp [bytesRow]; omega)
  obtain ⟨cap, hcap⟩ : ∃ cap, grownCap w2 s.size 0 5 = cap := ⟨_, rfl⟩
  rw [hcap] at hcap1 ⊢
  clear hcap
  go_loopw [9, 10] (fun ch i2 wr => ∃ (k : Nat) (wb : Nat → Bool) (D : Nat → Nat) (b : Bool), k ≤ 16 ∧ i2 = .int .i64 k ∧ ch = .bool b ∧ (b = true ↔ ∃ m, m < k ∧ wb m = true) ∧ Diff i wb k D ∧ (∃ C, wr.heap[w2.heap.size]? = some (.cells C 5 (cap, cap + 1)) ∧ BRow s D cap C) ∧ Below w.heap.size w wr) (fun _ i2 _ => 16 - (intOf i2).toNat)
  case atStart =>
    refine ⟨0, fun _ => false, fun _ => 0, false, by omega, rfl, rfl, by simp, Diff.zero _ _, ⟨bytesRow s cap, ?_, hcap1.out.2, hcap1.out.1, fun j h => by rw [Nat.xor_zero]; exact bytesRow_at s cap j h⟩, (HB2.out.alloc HB2.out.size _).drew⟩
    rw [hcap1.out.2]
    show (w2.heap.push _)[w2.heap.size]? = _
    simp
  case round =>
    obtain ⟨k, wb, D, b, hk, rfl, rfl, hbk, hDf, ⟨C, hC, hX⟩, hb⟩ := hrel
    by_cases hlt : k < 16
    · have hlt2 : (k : Int) < 16 := by omega
      have hk8 : (k : Int) / 8 = ((k / 8 : Nat) : Int) := by omega
      have B2 := B0.out wr hb (1 + k / 8) 256 (by omega) (by omega) (by omega)
      rw [show ((1 + k / 8 : Nat) : Int) = 1 + (k : Int) / 8 by omega] at B2
      have BB := Lib.hid B2; clear B2 hk8
      obtain ⟨q, hq⟩ : ∃ q : Nat, k % 8 = q := ⟨_, rfl⟩
      have hq2 : (k : Int) % 8 = (q : Int) := by omega
      have hq3 : q < 8 := by omega
      have HK := Lib.hid (And.intro hbk (And.intro hDf (And.intro hC (And.intro hX hb)))); clear hbk hDf hC hX hb
      go_wp2_with fail
      refine BB.out.mono ?_
      rintro e w4 ⟨⟨v1, hv1, rfl⟩, rfl⟩
      clear BB
      have x1 : bits .and .i64 ((v1 : Int) / 2 ^ q) 1 = ((v1 / 2 ^ q % 2 : Nat) : Int) := by
        have h8 : ((v1 : Int) / 2 ^ q) = ((v1 / 2 ^ q : Nat) : Int) := by simp
        have h9 : v1 / 2 ^ q ≤ v1 := Nat.div_le_self _ _
        rw [h8]
        generalize v1 / 2 ^ q = x at h9 ⊢
        rw [i64_and1 _ (by omega) (by omega)]; omega
      have hy : v1 / 2 ^ q % 2 = 0 ∨ v1 / 2 ^ q % 2 = 1 := by omega
      generalize v1 / 2 ^ q % 2 = y at *
      rcases hy with rfl | rfl
      · have hne : ((0 : Int) == 1) = false := by decide
        have x2 : (bits .and .i64 ((v1 : Int) / 2 ^ q) 1 == 1) = false := by rw [x1]; rfl
        go_wp2
        go_roundw
        case rel =>
          obtain ⟨hbk, hDf, hC, hX, hb⟩ := HK.out
          have hst := hDf.step false
          refine ⟨k + 1, _, _, b, by omega, by go_num, rfl, ?_, hst, ⟨C, hC, hX.1, hX.2.1, fun j hj => ?_⟩, hb⟩
          · rw [hbk]
            constructor
            · rintro ⟨m, hm, hw⟩
              exact ⟨m, by omega, by show (if m = k then false else wb m) = true; rw [if_neg (by omega)]; exact hw⟩
            · rintro ⟨m, hm, hw⟩
              have hw2 : (if m = k then false else wb m) = true := hw
              by_cases e : m = k
              · rw [if_pos e] at hw2; cases hw2
              · rw [if_neg e] at hw2; exact ⟨m, by omega, hw2⟩
          · show _ = some (Value.int .u8 ((s[j].toNat ^^^ (if false = true ∧ j = (i + k) / 8 then D j ^^^ 2 ^ (7 - (i + k) % 8) else D j) : Nat) : Int))
            rw [if_neg (by simp)]
            exact hX.2.2 j hj
        case measure => simp [intOf]; omega
      · have x2 : (bits .and .i64 ((v1 : Int) / 2 ^ q) 1 == 1) = true := by rw [x1]; rfl
        obtain ⟨r, hr⟩ : ∃ r : Nat, (i + k) % 8 = r := ⟨_, rfl⟩
        have hr2 : ((i : Int) + (k : Int)) % 8 = (r : Int) := by omega
        have hr8 : r < 8 := by omega
        have hps : (i + k) / 8 < s.size := by have := HN.out; omega
        have hcell : wr.cell? ⟨w2.heap.size, (i + k) / 8, none⟩ = some (.int .u8 ((s[(i + k) / 8].toNat ^^^ D ((i + k) / 8) : Nat) : Int)) := by
          obtain ⟨hbk, hDf, hC, hX, hb⟩ := HK.out
          simp [World.cell?, hC, hX.2.2 _ hps]
        have hfz : wr.frozen? ⟨w2.heap.size, (i + k) / 8, none⟩ = false := by
          obtain ⟨hbk, hDf, hC, hX, hb⟩ := HK.out
          have := hX.1; have := hX.2.1
          simp [World.frozen?, hC]; omega
        have hXb : s[(i + k) / 8].toNat ^^^ D ((i + k) / 8) < 2 ^ 8 := Nat.xor_lt_two_pow (by have := s[(i + k) / 8].toNat_lt; omega) (by have := (HK.out.2.1 ((i + k) / 8)).1; omega)
        have hps2 : ((i : Int) + (k : Int)) / 8 < (s.size : Int) := by omega
        obtain ⟨X, hXe⟩ : ∃ X : Nat, s[(i + k) / 8].toNat ^^^ D ((i + k) / 8) = X := ⟨_, rfl⟩
        rw [hXe] at hcell hXb
        have HXe := Lib.hid hXe; clear hXe
        have hpw : 2 ^ (7 - r) < 2 ^ 8 := Nat.pow_lt_pow_right (by decide) (by omega)
        have h128 : (128 : Int) / 2 ^ r = ((2 ^ (7 - r) : Nat) : Int) := by
          have : r = 0 ∨ r = 1 ∨ r = 2 ∨ r = 3 ∨ r = 4 ∨ r = 5 ∨ r = 6 ∨ r = 7 := by omega
          rcases this with rfl | rfl | rfl | rfl | rfl | rfl | rfl | rfl <;> decide
        have x3 : bits .xor .u8 (X : Int) ((128 : Int) / 2 ^ r) = ((X ^^^ 2 ^ (7 - r) : Nat) : Int) := by
          rw [h128]; exact u8_xor_nat _ _ (by omega) (by omega)
        have HR := Lib.hid (And.intro hr h128); clear hr h128 hpw
        go_wp2
        go_roundw
        case rel =>
          obtain ⟨hbk, hDf, hC, hX, hb⟩ := HK.out
          have hst := hDf.step true
          have hnx := hX.next ((i + k) / 8) (2 ^ (7 - r)) hps
          rw [HXe.out] at hnx
          rw [HR.out.1] at hst
          exact ⟨k + 1, _, _, true, by omega, by go_num, rfl, ⟨fun _ => ⟨k, by omega, by show (if k = k then true else wb k) = true; rw [if_pos rfl]⟩, fun _ => rfl⟩, hst, ⟨_, heap_set_marked wr w2.heap.size ((i + k) / 8) C _ _ _ hC, hnx⟩, hb.setCell HB2.out.size _⟩
        case measure => simp [intOf]; omega
    · have hlt2 : ¬ (k : Int) < 16 := by omega
      obtain rfl : k = 16 := by omega
      have hcv := row_conv hC hX (fun j => (hDf j).1)
      have htl := tOf_length s D
      obtain ⟨t, ht⟩ : ∃ t : ByteArray, (⟨(tOf s D).toArray⟩ : ByteArray) = t := ⟨_, rfl⟩
      have hts : t.size = s.size := by rw [← ht]; show (tOf s D).toArray.size = s.size; rw [List.size_toArray]; exact htl
      have hend := burst_end s t i v wb D hv hts (by have := HN.out; omega) hDf (by
        intro p hp hp'
        subst ht
        show ((tOf s D).toArray[p]'(by rw [List.size_toArray]; omega)).toNat = _
        rw [List.getElem_toArray]
        exact tOf_at s D p hp (by omega) (hDf p).1)
      rw [ht] at hcv
      have CT := Lib.hid (fun w => fnCrcLinear.crc16_nat t v hv (by omega) w)
      rw [hts] at CT
      have CS := Lib.hid (fun w => fnCrcLinear.crc16_nat s v hv (by omega) w)
      generalize crcT t v s.size = X at *
      generalize crcT s v s.size = Y at *
      have hfin : ((((X : Int) != (Y : Int))) == b) = true := by
        by_cases he : X = Y
        · have h0 := hend.1 he
          have hbf : b = false := by
            cases b with
            | false => rfl
            | true =>
              obtain ⟨m, hm, hw⟩ := hbk.1 rfl
              rw [h0 m hm] at hw
              cases hw
          rw [he, hbf]
          simp
        · have hbt : b = true := by
            cases b with
            | true => rfl
            | false =>
              exfalso
              refine he (hend.2 ?_)
              intro m hm
              cases hw : wb m with
              | false => rfl
              | true => exact absurd (hbk.2 ⟨m, hm, hw⟩) (by simp)
          rw [hbt]
          have hne : ((X : Int) != (Y : Int)) = true := by simp; omega
          rw [hne]
          rfl
      have HF := Lib.hid hfin
      have HB3 := Lib.hid hb
      clear hfin hb hbk hDf hC hX hend ht hts htl
      go_wp2_with fail
      refine (CT.out _).mono ?_
      rintro e w5 ⟨rfl, hb5⟩
      have HB5 := Lib.hid (HB3.out.trans (hb5.mono HB3.out.size)); clear hb5
      go_wp2_with fail
      refine (CS.out _).mono ?_
      rintro e w6 ⟨rfl, hb6⟩
      have HB6 := Lib.hid (HB5.out.trans (hb6.mono HB5.out.size)); clear hb6
      go_wp2
      go_ret
      exact ⟨ret_bool (by first | exact HF.out | (simpa using HF.out)), HB6.out⟩
end Go.Proofs.YtppiodhjhnmaoaaDoor.fnCrcBurst
