/- Slices of a circle of cells: plain facts. -/
import Derived.Test.YthcbekfgkbhpeaaDoorPkFormatChainsC
import Derived.Test.YthcbekfgkbhpeaaDoorPkFormatChainsA
import Derived.Lib.OthersKept
import Derived.Deep.QuietTactic
import Derived.BigQuiet
import Derived.Laws.BitsLemmas
import Derived.Laws.IdiomStrings
import Derived.OwnWalk
import Derived.Maps.AppendAt
import Derived.Lib.UnsafeStr
import Derived.Lib.BufferWrite
import Derived.Deep.AppendLies
import Derived.Deep.RegionHeld3
section
set_option linter.unusedVariables false
namespace Go.Proofs.YthcbekfgkbhpeaaDoor
open Go.RowKit
set_option maxRecDepth 20000
/-- The cell at place k of a circle. -/
def cycB (s : ByteArray) (k : Nat) : UInt8 := s[k % s.size]?.getD 0
/-- The first k cells from place a on. -/
def arcL (s : ByteArray) (a k : Nat) : List UInt8 := ((s.data.toList ++ s.data.toList).drop a).take k
theorem cyc_at (s : ByteArray) (k q : Nat) (hq : k % s.size = q) (h : q < s.size) : cycB s k = s[q] := by
  subst hq
  unfold cycB
  simp [h]
theorem cyc_toList (s : ByteArray) (k : Nat) (h : 0 < s.size) : s.data.toList[k % s.size]? = some (cycB s k) := by
  have hlt : k % s.size < s.size := Nat.mod_lt _ h
  rw [cyc_at s k _ rfl hlt]
  rw [List.getElem?_eq_getElem (by simpa using hlt)]
  rfl
theorem arcL_nil (s : ByteArray) (a : Nat) : arcL s a 0 = [] := by simp [arcL]
theorem arcL_succ (s : ByteArray) (a k : Nat) (ha : a < s.size) (hk : k < s.size) : arcL s a (k + 1) = arcL s a k ++ [cycB s (a + k)] := by
  have hl : s.data.toList.length = s.size := by simp
  have h1 : (s.data.toList ++ s.data.toList)[a + k]? = some (cycB s (a + k)) := by
    rw [← cyc_toList s (a + k) (by omega)]
    by_cases h : a + k < s.size
    · rw [List.getElem?_append_left (by omega), Nat.mod_eq_of_lt h]
    · rw [List.getElem?_append_right (by omega), hl]
      congr 1
      rw [Nat.mod_eq_sub_mod (by omega), Nat.mod_eq_of_lt (by omega)]
  unfold arcL
  rw [List.take_add_one, List.getElem?_drop, h1]
  rfl
theorem arcL_length (s : ByteArray) (a k : Nat) (ha : a < s.size) (hk : k ≤ s.size) : (arcL s a k).length = k := by
  have hl : s.data.toList.length = s.size := by simp
  simp [arcL]; omega
def arcS (s : ByteArray) (a n : Nat) : ByteArray := (s ++ s).extract a (a + n)
theorem arc_eq (s : ByteArray) (a n : Nat) : arcS s a n = ⟨(arcL s a n).toArray⟩ := by
  unfold arcS arcL
  rw [show ∀ x y : ByteArray, x = y ↔ x.data = y.data from fun x y => ⟨fun h => by rw [h], fun h => by cases x; cases y; simp at h; rw [h]⟩]
  apply Array.ext'
  rw [ByteArray.data_extract, Array.toList_extract]
  show List.take (a + n - a) (List.drop a (s ++ s).data.toList) = _
  rw [show (s ++ s).data.toList = s.data.toList ++ s.data.toList by simp, show a + n - a = n by omega]
def sliceOk (s : ByteArray) (a n : Int) : Bool := validCells s && inB 0 ((s.size : Int) - 1) a && inB 0 s.size n
def sliceV (s : ByteArray) (a n : Int) : ByteArray := if sliceOk s a n = true then arcS s a.toNat n.toNat else ⟨#[]⟩
end Go.Proofs.YthcbekfgkbhpeaaDoor
end
section
set_option linter.unusedVariables false
namespace Go.Proofs.YthcbekfgkbhpeaaDoor
open Go.RowKit
set_option maxRecDepth 20000
set_option maxHeartbeats 400000 in
theorem isPlace_any (n total : Int) (w : World) (h0 : -9223372036854775808 < total) (h1 : total ≤ 9223372036854775807) :
    Calls Tryd.prog 48 #[.int .i64 n, .int .i64 total] w fun e w' => e = .returned (.bool (inB 0 (total - 1) n)) ∧ Below w.heap.size w w' := by
  go_enter Tryd.func48, Tryd.ntmps48
  go_wp2_with (go_at_call 37; refine (within_at _ _ _ _ _ _ (by simp)).mono ?_; rintro e w' ⟨rfl, rfl⟩)
  go_ret
  exact ⟨rfl, (Below.refl _ _).alloc (Nat.le_refl _) _⟩
theorem within_b (lo hi n : Int) (w : World) (T : TypeId) (b : Nat) (hb : w.heap.size = b) :
    Calls Tryd.prog 37 #[.int .i64 lo, .int .i64 hi, .slice (some ⟨b, 0, none⟩) 1 1] (w.alloc (.cells #[.int .i64 n] T)) fun e w' => e = .returned (.bool (inB lo hi n)) ∧ Below w.heap.size w w' :=
  (within_at lo hi n w T b hb).mono fun e w' ⟨he, hw⟩ => ⟨he, by rw [← hw]; exact (Below.refl _ _).alloc (Nat.le_refl _) _⟩
end Go.Proofs.YthcbekfgkbhpeaaDoor
end
section
set_option linter.unusedVariables false
namespace Go.Proofs.YthcbekfgkbhpeaaDoor
open Go.RowKit
set_option maxRecDepth 20000
def SlRes (l : List Int) (w : World) (e : Ending) (w' : World) : Prop :=
  ∃ a cap, e = .returned (.slice a l.length cap) ∧ SlO w' w.heap.size a l ∧ Below w.heap.size w w'
theorem below_drewN {B : Nat} {a w : World} (h : Below B a w) (n : Nat) : Below B a (w.drewN n) := ⟨h.os, h.tape, h.output, h.size, h.block⟩
theorem OwnI.below' {w w' : World} {B : Nat} {v : Value} {l : List Int} (h : OwnI w B v l) (hb : Below w.heap.size w w') : OwnI w' B v l := by
  refine ⟨h.1, ?_⟩
  rcases h.2 with h2 | ⟨g, cap, cur, rfl, hg, hh, r⟩
  · exact .inl h2
  · exact .inr ⟨g, cap, cur, rfl, hg, by rw [hb.block g (Array.getElem?_eq_some_iff.1 hh).1]; exact hh, r⟩
theorem SlRes.of {l : List Int} {w w' : World} {v : Value} (h : OwnI w' w.heap.size v l) (hb : Below w.heap.size w w') : SlRes l w (.returned v) w' := by
  obtain ⟨a, c, rfl, hs⟩ := h.slO
  exact ⟨a, c, rfl, hs, hb⟩
theorem OwnI.mono {w : World} {B B' : Nat} {v : Value} {l : List Int} (h : OwnI w B v l) (hB : B' ≤ B) : OwnI w B' v l := by
  refine ⟨h.1, ?_⟩
  rcases h.2 with h2 | ⟨g, cap, cur, rfl, hg, r⟩
  · exact .inl h2
  · exact .inr ⟨g, cap, cur, rfl, Nat.le_trans hB hg, r⟩
theorem OwnI.iterAt {w : World} {B : Nat} {v : Value} {l : List Int} (h : OwnI w B v l) {k : Nat} (hk : k < B) (s : ByteArray) (pos : Nat) : OwnI (w.iterAt k s pos) B v l := by
  refine ⟨h.1, ?_⟩
  rcases h.2 with h2 | ⟨g, cap, cur, rfl, hg, hh, r⟩
  · exact .inl h2
  · exact .inr ⟨g, cap, cur, rfl, hg, by rw [Lib.iterAt_other w k g s pos (by omega)]; exact hh, r⟩
end Go.Proofs.YthcbekfgkbhpeaaDoor
end
section
set_option linter.unusedVariables false
namespace Go.Proofs.YthcbekfgkbhpeaaDoor
open Go.RowKit
set_option maxRecDepth 20000
def nibS (v n : Nat) : Nat := (16 * v % 65536) ^^^ ((v / 4096 ^^^ n) * 4129)
def bitS (v b : Nat) : Nat := if v / 32768 % 2 = b then 2 * v % 65536 else (2 * v % 65536) ^^^ 4129
def bits4 (v n : Nat) : Nat := bitS (bitS (bitS (bitS v (n / 8 % 2)) (n / 4 % 2)) (n / 2 % 2)) (n % 2)
theorem dbl_xor (a b : Nat) : 2 * (a ^^^ b) = 2 * a ^^^ 2 * b := by
  have h := @Nat.shiftLeft_xor_distrib 1 a b
  simpa [Nat.shiftLeft_eq, Nat.mul_comm] using h
theorem mod_xor (a b : Nat) : (a ^^^ b) % 65536 = a % 65536 ^^^ b % 65536 := by
  have h := @Nat.xor_mod_two_pow a b 16
  simpa using h
theorem bitS_lin (u x b : Nat) (hx : x < 32768) (hd : (u ^^^ x) / 32768 % 2 = u / 32768 % 2) : bitS (u ^^^ x) b = bitS u b ^^^ 2 * x := by
  have h2 : 2 * (u ^^^ x) % 65536 = (2 * u % 65536) ^^^ 2 * x := by rw [dbl_xor, mod_xor, Nat.mod_eq_of_lt (show 2 * x < 65536 by omega)]
  unfold bitS
  rw [hd, h2]
  split
  · rfl
  · rw [Nat.xor_assoc, Nat.xor_assoc, Nat.xor_comm (2 * x) 4129]
theorem bit15_xor (u x : Nat) (hx : x < 32768) : (u ^^^ x) / 32768 % 2 = u / 32768 % 2 := by
  have h := @Nat.testBit_xor u x 15
  have hx2 : x.testBit 15 = false := Nat.testBit_lt_two_pow (by omega)
  rw [hx2, Bool.xor_false] at h
  simp only [Nat.testBit_eq_decide_div_mod_eq] at h
  have e : (2 : Nat) ^ 15 = 32768 := by decide
  rw [e] at h
  have := decide_eq_decide.1 h
  omega
theorem bits4_hi : ∀ h, h < 16 → ∀ n, n < 16 → bits4 (h * 4096) n = (h ^^^ n) * 4129 := by decide +kernel
theorem split16 (v : Nat) : v = (v / 4096 * 4096) ^^^ (v % 4096) := by
  have h := Nat.two_pow_add_eq_or_of_lt (i := 12) (b := v % 4096) (by omega) (v / 4096)
  have hx : (v / 4096 * 4096) ^^^ (v % 4096) = (v / 4096 * 4096) ||| (v % 4096) := by
    apply Nat.eq_of_testBit_eq
    intro i
    rw [Nat.testBit_xor, Nat.testBit_or]
    by_cases hi : i < 12
    · have h1 : (v / 4096 * 4096).testBit i = false := by
        rw [show v / 4096 * 4096 = 2 ^ 12 * (v / 4096) by omega, Nat.testBit_two_pow_mul]
        simp; omega
      rw [h1]; simp
    · have h1 : (v % 4096).testBit i = false := Nat.testBit_lt_two_pow (Nat.lt_of_lt_of_le (show v % 4096 < 2 ^ 12 by omega) (Nat.pow_le_pow_right (by decide) (by omega)))
      rw [h1]; simp
  rw [hx, show v / 4096 * 4096 = 2 ^ 12 * (v / 4096) by omega, ← h]
  omega
theorem bits4_lin (u x n : Nat) (hx : x < 4096) : bits4 (u ^^^ x) n = bits4 u n ^^^ 2 * (2 * (2 * (2 * x))) := by
  unfold bits4
  rw [bitS_lin u x _ (by omega) (bit15_xor u x (by omega)), bitS_lin _ (2 * x) _ (by omega) (bit15_xor _ _ (by omega)), bitS_lin _ (2 * (2 * x)) _ (by omega) (bit15_xor _ _ (by omega)), bitS_lin _ (2 * (2 * (2 * x))) _ (by omega) (bit15_xor _ _ (by omega))]
theorem bits4_nib (v n : Nat) (hv : v < 65536) (hn : n < 16) : bits4 v n = nibS v n := by
  have hs := congrArg (fun y => bits4 y n) (split16 v)
  have hb := bits4_hi (v / 4096) (by omega) n hn
  have e1 : 16 * v % 65536 = 2 * (2 * (2 * (2 * (v % 4096)))) := by omega
  have h2 := bits4_lin (v / 4096 * 4096) (v % 4096) n (by omega)
  have h3 : bits4 v n = bits4 (v / 4096 * 4096) n ^^^ 2 * (2 * (2 * (2 * (v % 4096)))) := Eq.trans hs h2
  rw [h3, hb]
  unfold nibS
  rw [e1]
  exact Nat.xor_comm _ _
theorem nibS_bd (v n : Nat) (hv : v < 65536) (hn : n < 16) : nibS v n < 65536 := by
  have h1 : (v / 4096 ^^^ n) < 2 ^ 4 := Nat.xor_lt_two_pow (by omega) (by omega)
  have h2 : nibS v n < 2 ^ 16 := Nat.xor_lt_two_pow (by omega) (by omega)
  omega
/-- The check value behind k bytes. -/
def crcT (s : ByteArray) (v : Nat) : Nat → Nat
  | 0 => v
  | k + 1 => nibS (nibS (crcT s v k) ((s[k]?.getD 0).toNat / 16)) ((s[k]?.getD 0).toNat % 16)
theorem crcT_succ (s : ByteArray) (v k : Nat) (h : k < s.size) : crcT s v (k + 1) = nibS (nibS (crcT s v k) (s[k].toNat / 16)) (s[k].toNat % 16) := by
  have e : s[k]?.getD 0 = s[k] := by rw [getElem?_pos s k h]; rfl
  show nibS (nibS (crcT s v k) ((s[k]?.getD 0).toNat / 16)) ((s[k]?.getD 0).toNat % 16) = _
  rw [e]
theorem crcT_bd (s : ByteArray) (v k : Nat) (hv : v < 65536) : crcT s v k < 65536 := by
  induction k with
  | zero => exact hv
  | succ k ih =>
    have hx := (s[k]?.getD 0).toNat_lt
    exact nibS_bd _ _ (nibS_bd _ _ ih (by omega)) (by omega)
def crcV (s : ByteArray) (n : Int) : Int := if inB 0 65535 n = true then (crcT s n.toNat s.size : Int) else -1
theorem i64_small (n : Int) (h0 : 0 ≤ n) (h1 : n < 2 ^ 40) : IntKind.i64.wrap n = n := by rw [IntKind.wrap_i64]; omega
theorem i64_xor (a b : Nat) (ha : a < 4294967296) (hb : b < 4294967296) : bits .xor .i64 (a : Int) (b : Int) = ((a ^^^ b : Nat) : Int) := by
  have hx : a ^^^ b < 2 ^ 32 := Nat.xor_lt_two_pow (by omega) (by omega)
  have h1 : (BitVec.ofInt 64 (a : Int)).toNat = a := by
    rw [BitVec.ofInt_natCast, BitVec.toNat_ofNat]; exact Nat.mod_eq_of_lt (by omega)
  have h2 : (BitVec.ofInt 64 (b : Int)).toNat = b := by
    rw [BitVec.ofInt_natCast, BitVec.toNat_ofNat]; exact Nat.mod_eq_of_lt (by omega)
  show IntKind.i64.wrap ((BitVec.ofInt 64 (a : Int) ^^^ BitVec.ofInt 64 (b : Int)).toNat : Int) = _
  rw [BitVec.toNat_xor, h1, h2]
  exact i64_small _ (by omega) (by omega)
theorem i64_and16 (x : Int) (h0 : 0 ≤ x) (h1 : x < 1099511627776) : bits .and .i64 x 65535 = x % 65536 := bits_mask .i64 40 (by decide) i64_small 16 (by decide) x h0 h1
theorem i64_and1 (x : Int) (h0 : 0 ≤ x) (h1 : x < 1099511627776) : bits .and .i64 x 1 = x % 2 := bits_mask .i64 40 (by decide) i64_small 1 (by decide) x h0 h1
theorem checkOfBits_any (n C : Nat) (h : n < 16) (hC : n * 4129 = C) (w : World) : Calls Tryd.prog 83 #[.int .i64 (n : Int)] w fun e w' => e = .returned (.int .i64 (C : Int)) ∧ w = w' := by
  have h2 : (n : Int) < 16 := by omega
  have e : (n : Int) * 4129 = (C : Int) := by omega
  have e2 : C < 70000 := by omega
  clear hC
  go_enter Tryd.func83, Tryd.ntmps83
  go_wp2
  go_ret
  exact ⟨by first | rfl | rw [e], rfl⟩
/-- What one step of four bits reckons. -/
theorem nib_facts (cur n : Nat) (hc : cur < 65536) (hn : n < 16) : ∃ A B C : Nat, bits .and .i64 ((cur : Int) * 16) 65535 = (A : Int) ∧ bits .xor .i64 ((cur : Int) / 4096) (n : Int) = (B : Int) ∧ B < 16 ∧ B * 4129 = C ∧ bits .xor .i64 (A : Int) (C : Int) = (nibS cur n : Int) := by
  refine ⟨16 * cur % 65536, cur / 4096 ^^^ n, (cur / 4096 ^^^ n) * 4129, ?_, ?_, ?_, rfl, ?_⟩
  · rw [i64_and16 _ (by omega) (by omega)]; omega
  · have h := i64_xor (cur / 4096) n (by omega) (by omega)
    simpa using h
  · have h1 : (cur / 4096 ^^^ n) < 2 ^ 4 := Nat.xor_lt_two_pow (by omega) (by omega)
    omega
  · have h1 : (cur / 4096 ^^^ n) < 2 ^ 4 := Nat.xor_lt_two_pow (by omega) (by omega)
    exact i64_xor _ _ (by omega) (by omega)
set_option maxHeartbeats 4000000 in
theorem continueCheck_any (s : ByteArray) (v : Nat) (hv : v < 65536) (hs : s.size ≤ 4096) (w : World) :
    Calls Tryd.prog 81 #[.string s, .int .i64 (v : Int), .func (.func 83) #[] #[]] w fun e w' => e = .returned (.int .i64 (crcT s v s.size : Int)) ∧ Below w.heap.size w w' := by
  have CH := Lib.hid (fun n C h hC w => checkOfBits_any n C h hC w)
  go_enter Tryd.func81, Tryd.ntmps81
  go_wp2
  go_loopw [1, 7, 9, 12, 24] (fun q _ _ i _ wr => ∃ k : Nat, k ≤ s.size ∧ i = .int .i64 k ∧ q = .int .i64 (crcT s v k : Int) ∧ Below w.heap.size w wr) (fun _ _ _ i _ _ => s.size - (intOf i).toNat)
  case atStart => exact ⟨0, Nat.zero_le _, rfl, rfl, Below.refl _ _⟩
  case round =>
    obtain ⟨k, hk, rfl, rfl, hb⟩ := hrel
    by_cases hlt : k < s.size
    · have e0 : (k : Int) < s.size := by omega
      have hx := s[k].toNat_lt
      have HST := Lib.hid (crcT_succ s v k hlt)
      have hcb := crcT_bd s v k hv
      generalize crcT s v k = cur at *
      obtain ⟨n0, hn0⟩ : ∃ n, s[k].toNat / 16 = n := ⟨_, rfl⟩
      obtain ⟨n1, hn1⟩ : ∃ n, s[k].toNat % 16 = n := ⟨_, rfl⟩
      rw [hn0, hn1] at HST
      have hb0 : n0 < 16 := by omega
      have hb1 : n1 < 16 := by omega
      have hbi0 : (n0 : Int) < 16 := by omega
      have hbi1 : (n1 : Int) < 16 := by omega
      have hq0 : (s[k].toNat : Int) / 16 = (n0 : Int) := by omega
      have hq1 : bits .and .u8 (s[k].toNat : Int) 15 = (n1 : Int) := by rw [u8_and15 _ (by omega) (by omega)]; omega
      clear hn0 hn1
      have hv2 : (cur : Int) < 65536 := by omega
      have i0 : ∀ w, (Instr.index 130 (.agg #[.int .u8 (n0 : Int), .int .u8 (n1 : Int)]) (.int .i64 0)).run Tryd.prog w = .ok (.int .u8 (n0 : Int)) w := fun _ => rfl
      have i1 : ∀ w, (Instr.index 130 (.agg #[.int .u8 (n0 : Int), .int .u8 (n1 : Int)]) (.int .i64 1)).run Tryd.prog w = .ok (.int .u8 (n1 : Int)) w := fun _ => rfl
      have hc1 := nibS_bd cur n0 hcb hb0
      obtain ⟨A0, B0, C0, x1, x2, x3, x4, x5⟩ := nib_facts cur n0 hcb hb0
      generalize nibS cur n0 = c1 at *
      obtain ⟨A1, B1, C1, y1, y2, y3, y4, y5⟩ := nib_facts c1 n1 hc1 hb1
      have hc2 := nibS_bd c1 n1 hc1 hb1
      generalize nibS c1 n1 = c2 at *
      have CH0 := Lib.hid (fun w => CH.out B0 C0 x3 x4 w)
      have CH1 := Lib.hid (fun w => CH.out B1 C1 y3 y4 w)
      have z1 : (c1 : Int) < 65536 := by omega
      have z2 : (c2 : Int) < 65536 := by omega
      clear x3 x4 y3 y4
      go_wp2
      go_quiet (fail)
      rename_i nq
      have hbq := below_drewN hb nq
      generalize wr.drewN nq = wq at hbq ⊢
      clear hb
      go_wp2
      refine wp_loop_rounds 3 ?_
      rw [rounds_succ]
      go_wp2_with (go_at_call 83; refine (CH0.out _).mono ?_; rintro e w2 ⟨rfl, rfl⟩)
      rw [rounds_succ]
      go_wp2_with (go_at_call 83; refine (CH1.out _).mono ?_; rintro e w3 ⟨rfl, rfl⟩)
      rw [rounds_succ]
      go_wp2
      go_roundw
      case rel => exact ⟨k + 1, by omega, by go_num, by rw [HST.out], hbq⟩
      case measure => simp [intOf]; omega
    · obtain rfl : k = s.size := by omega
      go_wp2
      go_ret
      exact ⟨rfl, hb⟩
set_option maxHeartbeats 1000000 in
theorem crc16_any (s : ByteArray) (n : Int) (hs : s.size ≤ 4096) (w : World) :
    Calls Tryd.prog 64 #[.string s, .int .i64 n] w fun e w' => e = .returned (.int .i64 (crcV s n)) ∧ Below w.heap.size w w' := by
  have HT := Lib.hid (fun w b hb => within_b 0 65535 n w 2 b hb)
  by_cases h : inB 0 65535 n = true
  · obtain ⟨n0, n1⟩ := inB_iff.1 h
    obtain ⟨v, rfl⟩ : ∃ v : Nat, n = v := ⟨n.toNat, by omega⟩
    have e : crcV s v = (crcT s v s.size : Int) := by unfold crcV; rw [if_pos h, Int.toNat_natCast]
    rw [e]
    rw [h] at HT
    have HC := Lib.hid (fun w => continueCheck_any s v (by omega) hs w)
    generalize crcT s v s.size = r at *
    clear e h
    go_enter Tryd.func64, Tryd.ntmps64
    go_wp2_with (first | (go_at_call 37; refine (HT.out _ _ (by simp)).mono ?_; rintro e w1 ⟨rfl, hb1⟩) | (go_at_call 81; refine (HC.out _).mono ?_; rintro e w2 ⟨rfl, hb2⟩))
    go_ret
    exact ⟨rfl, hb1.trans (hb2.mono hb1.size)⟩
  · have h0 : inB 0 65535 n = false := by simpa using h
    have e : crcV s n = -1 := by unfold crcV; rw [if_neg h]
    rw [e]
    rw [h0] at HT
    clear e h h0
    go_enter Tryd.func64, Tryd.ntmps64
    go_wp2_with (go_at_call 37; refine (HT.out _ _ (by simp)).mono ?_; rintro e w1 ⟨rfl, hb1⟩)
    go_ret
    exact ⟨rfl, hb1⟩
/-- t bits of a byte. -/
def bitT (v c : Nat) : Nat → Nat
  | 0 => v
  | t + 1 => bitS (bitT v c t) (c / 2 ^ (7 - t) % 2)
theorem bitS_bd (v b : Nat) : bitS v b < 65536 := by
  unfold bitS
  split
  · omega
  · have h : (2 * v % 65536) ^^^ 4129 < 2 ^ 16 := Nat.xor_lt_two_pow (by omega) (by omega)
    omega
theorem bitT_bd (v c t : Nat) (hv : v < 65536) : bitT v c t < 65536 := by
  cases t with
  | zero => exact hv
  | succ t => exact bitS_bd _ _
theorem bitT_8 (v c : Nat) (hv : v < 65536) (hc : c < 256) : bitT v c 8 = nibS (nibS v (c / 16)) (c % 16) := by
  have h1 : bitT v c 4 = bits4 v (c / 16) := by
    show bitS (bitS (bitS (bitS v (c / 128 % 2)) (c / 64 % 2)) (c / 32 % 2)) (c / 16 % 2) = bits4 v (c / 16)
    unfold bits4
    rw [show c / 16 / 8 % 2 = c / 128 % 2 by omega, show c / 16 / 4 % 2 = c / 64 % 2 by omega, show c / 16 / 2 % 2 = c / 32 % 2 by omega]
  have h2 : bitT v c 8 = bits4 (bitT v c 4) (c % 16) := by
    show bitS (bitS (bitS (bitS (bitT v c 4) (c / 8 % 2)) (c / 4 % 2)) (c / 2 % 2)) (c / 1 % 2) = bits4 (bitT v c 4) (c % 16)
    unfold bits4
    rw [show c % 16 / 8 % 2 = c / 8 % 2 by omega, show c % 16 / 4 % 2 = c / 4 % 2 by omega, show c % 16 / 2 % 2 = c / 2 % 2 by omega, show c % 16 % 2 = c / 1 % 2 by omega]
  rw [h2, h1, bits4_nib v _ hv (by omega), bits4_nib _ _ (nibS_bd _ _ hv (by omega)) (by omega)]
/-- What one step of one bit reckons. -/
theorem bit_facts (cur c q : Nat) (hc : cur < 65536) (hx : c < 256) : ∃ L B D X : Nat, bits .and .i64 ((cur : Int) / 32768) 1 = (L : Int) ∧ bits .and .i64 (wrap64 ((c : Int) / 2 ^ q)) 1 = (B : Int) ∧ bits .and .i64 ((cur : Int) * 2) 65535 = (D : Int) ∧ bits .xor .i64 (D : Int) 4129 = (X : Int) ∧ D < 65536 ∧ X < 65536 ∧ (L = B → bitS cur (c / 2 ^ q % 2) = D) ∧ (¬ L = B → bitS cur (c / 2 ^ q % 2) = X) := by
  refine ⟨cur / 32768 % 2, c / 2 ^ q % 2, 2 * cur % 65536, (2 * cur % 65536) ^^^ 4129, ?_, ?_, ?_, ?_, by omega, ?_, ?_, ?_⟩
  · rw [i64_and1 _ (by omega) (by omega)]; omega
  · have h8 : ((c : Int) / 2 ^ q) = ((c / 2 ^ q : Nat) : Int) := by simp
    have h9 : c / 2 ^ q ≤ c := Nat.div_le_self _ _
    rw [h8]
    generalize c / 2 ^ q = x at h9 ⊢
    rw [show wrap64 (x : Int) = (x : Int) by unfold wrap64; omega, i64_and1 _ (by omega) (by omega)]; omega
  · rw [i64_and16 _ (by omega) (by omega)]; omega
  · exact i64_xor _ 4129 (by omega) (by omega)
  · have h : (2 * cur % 65536) ^^^ 4129 < 2 ^ 16 := Nat.xor_lt_two_pow (by omega) (by omega)
    omega
  · intro h; unfold bitS; rw [if_pos h]
  · intro h; unfold bitS; rw [if_neg h]
set_option maxHeartbeats 8000000 in
theorem l01Crc_any (s : ByteArray) (v : Nat) (hv : v < 65536) (hs : s.size ≤ 1048576) (w : World) :
    Calls Tryd.prog 93 #[.string s, .int .i64 (v : Int)] w fun e w' => e = .returned (.int .i64 (crcT s v s.size : Int)) ∧ w = w' := by
  go_enter Tryd.func93, Tryd.ntmps93
  go_wp2
  go_loopw [5, 6, 7, 8, 9] (fun q i _ _ _ wr => ∃ k : Nat, k ≤ s.size ∧ i = .int .i64 k ∧ q = .int .i64 (crcT s v k : Int) ∧ wr = w) (fun _ i _ _ _ _ => s.size - (intOf i).toNat)
  case atStart => exact ⟨0, Nat.zero_le _, rfl, rfl, rfl⟩
  case round =>
    obtain ⟨k, hk, rfl, rfl, rfl⟩ := hrel
    by_cases hlt : k < s.size
    · have e0 : (k : Int) < s.size := by omega
      have hx := s[k].toNat_lt
      have hcb := crcT_bd s v k hv
      have HST := Lib.hid ((crcT_succ s v k hlt).trans (bitT_8 (crcT s v k) s[k].toNat hcb hx).symm)
      generalize crcT s v k = cur at *
      have HTB := Lib.hid (fun t => bitT_bd cur s[k].toNat t hcb)
      go_wp2
      go_hide hQ
      obtain ⟨wo, rfl⟩ : ∃ wo : World, wo = wr := ⟨_, rfl⟩
      go_loopw [5, 7, 8, 9] (fun q k2 _ _ wr2 => ∃ t : Nat, t ≤ 8 ∧ k2 = .int .i64 (7 - (t : Int)) ∧ q = .int .i64 (bitT cur s[k].toNat t : Int) ∧ wr2 = wo) (fun _ k2 _ _ _ => (intOf k2 + 1).toNat)
      case atStart => exact ⟨0, Nat.zero_le _, rfl, rfl, rfl⟩
      case round =>
        obtain ⟨t, ht, rfl, rfl, rfl⟩ := hrel
        by_cases ht8 : t < 8
        · obtain ⟨q, hq⟩ : ∃ q : Nat, q + t = 7 := ⟨7 - t, by omega⟩
          have eq : (7 - (t : Int)) = (q : Int) := by omega
          rw [eq]
          have hq0 : (0 : Int) ≤ (q : Int) := by omega
          have hq1 : q < 8 := by omega
          have hbt := HTB.out t
          have HSS := Lib.hid (show bitT cur s[k].toNat (t + 1) = bitS (bitT cur s[k].toNat t) (s[k].toNat / 2 ^ (7 - t) % 2) from rfl)
          have e7 : 7 - t = q := by omega
          rw [e7] at HSS
          generalize bitT cur s[k].toNat t = c1 at *
          obtain ⟨L, B, D, X, x1, x2, x3, x4, x5, x6, x7, x8⟩ := bit_facts c1 s[k].toNat q hbt hx
          have HQ := Lib.hid (And.intro hq eq); clear hq eq e7
          by_cases hLB : L = B
          · have r := x7 hLB
            have HR := Lib.hid (HSS.out.trans r)
            have hne : ((L : Int) != (B : Int)) = false := by simp [hLB]
            clear x7 x8 r
            have HLB := Lib.hid hLB; clear hLB
            go_wp2
            go_roundw
            case rel =>
              have hq2 := HQ.out
              exact ⟨t + 1, by omega, by rw [show (7 - ((t + 1 : Nat) : Int)) = (q : Int) - 1 by omega], by rw [HR.out], trivial⟩
            case measure => simp [intOf] <;> omega
          · have r := x8 hLB
            have HR := Lib.hid (HSS.out.trans r)
            have hne : ((L : Int) != (B : Int)) = true := by simp; omega
            clear x7 x8 r
            have HLB := Lib.hid hLB; clear hLB
            go_wp2
            go_roundw
            case rel =>
              have hq2 := HQ.out
              exact ⟨t + 1, by omega, by rw [show (7 - ((t + 1 : Nat) : Int)) = (q : Int) - 1 by omega], by rw [HR.out], trivial⟩
            case measure => simp [intOf] <;> omega
        · obtain rfl : t = 8 := by omega
          subst hQ
          go_wp2
          go_roundw
          case rel => exact ⟨k + 1, by omega, by go_num, by rw [HST.out], trivial⟩
          case measure => simp [intOf]; omega
    · obtain rfl : k = s.size := by omega
      go_wp2
      go_ret
      exact ⟨rfl, rfl⟩
set_option maxHeartbeats 1000000 in
theorem specCrc16_any (s : ByteArray) (n : Int) (hs : s.size ≤ 1048576) (w : World) :
    Calls Tryd.prog 76 #[.string s, .int .i64 n] w fun e w' => e = .returned (.int .i64 (crcV s n)) ∧ w = w' := by
  have HT := Lib.hid (fun w => l00In_any n 0 65535 w)
  by_cases h : inB 0 65535 n = true
  · obtain ⟨n0, n1⟩ := inB_iff.1 h
    obtain ⟨v, rfl⟩ : ∃ v : Nat, n = v := ⟨n.toNat, by omega⟩
    have e : crcV s v = (crcT s v s.size : Int) := by unfold crcV; rw [if_pos h, Int.toNat_natCast]
    rw [e]
    rw [h] at HT
    have HC := Lib.hid (fun w => l01Crc_any s v (by omega) hs w)
    generalize crcT s v s.size = r at *
    clear e h
    go_enter Tryd.func76, Tryd.ntmps76
    go_wp2_with (first | (go_at_call 45; refine (HT.out _).mono ?_; rintro e w1 ⟨rfl, rfl⟩) | (go_at_call 93; refine (HC.out _).mono ?_; rintro e w2 ⟨rfl, rfl⟩))
    go_ret
    exact ⟨rfl, rfl⟩
  · have h0 : inB 0 65535 n = false := by simpa using h
    have e : crcV s n = -1 := by unfold crcV; rw [if_neg h]
    rw [e]
    rw [h0] at HT
    clear e h h0
    go_enter Tryd.func76, Tryd.ntmps76
    go_wp2_with (go_at_call 45; refine (HT.out _).mono ?_; rintro e w1 ⟨rfl, rfl⟩)
    go_ret
    exact ⟨rfl, rfl⟩
end Go.Proofs.YthcbekfgkbhpeaaDoor
end
section
set_option linter.unusedVariables false
namespace Go.Proofs.YthcbekfgkbhpeaaDoor
open Go.RowKit
set_option maxRecDepth 20000

theorem u8info : (Tryd.prog.info? 5).map (fun i => (i.zero, i.size, i.bytes)) = some (some (.int .u8 0), 1, 1) := by kernel_rfl

/-- 'string(b)' of a slice of bytes whose cells are l. -/
theorem conv_of (W : World) (a : Addr) (cap : Nat) (l : List UInt8) (hc : ∀ j (hj : j < l.length), W.cell? (a.add j) = some (.int .u8 (l[j].toNat : Int))) :
    (convert 49 9 (.slice (some a) l.length cap)).run Tryd.prog W = .ok (.string ⟨l.toArray⟩) W :=
  run_convert_bytes_back W 49 9 5 a cap l Tryd.underlying49 Tryd.underlying5 Tryd.underlying9 hc

theorem heap_set_marked (w : World) (g i : Nat) (cs : Array Value) (t : TypeId) (fr : Nat × Nat) (v : Value) (hg : w.heap[g]? = some (.cells cs t fr)) :
    (w.setCell ⟨g, i, none⟩ v).heap[g]? = some (.cells (cs.setIfInBounds i v) t fr) := by
  simp [World.setCell, Array.getElem?_modify, hg]
theorem add0 (b j : Nat) : ((⟨b, 0, none⟩ : Addr).add j) = ⟨b, j, none⟩ := by
  simp [Addr.add]
  intro h; exact h.symm

theorem conv_new2 (W : World) (x y : Int) (h1 : 0 ≤ x) (h2 : x < 256) (h3 : 0 ≤ y) (h4 : y < 256) :
    (convert 49 9 (.slice (some ⟨W.heap.size, 0, none⟩) 2 2)).run Tryd.prog (W.alloc (.cells #[.int .u8 x, .int .u8 y] 5)) = .ok (.string ⟨#[x.toNat.toUInt8, y.toNat.toUInt8]⟩) (W.alloc (.cells #[.int .u8 x, .int .u8 y] 5)) := by
  refine conv_of _ _ 2 [x.toNat.toUInt8, y.toNat.toUInt8] ?_
  intro j hj
  have e := add0 W.heap.size j
  have hx : x.toNat % 256 = x.toNat := Nat.mod_eq_of_lt (by omega)
  have hy : y.toNat % 256 = y.toNat := Nat.mod_eq_of_lt (by omega)
  match j, hj with
  | 0, _ => rw [e]; simp [go_sem, hx]; omega
  | 1, _ => rw [e]; simp [go_sem, hy]; omega
  | j + 2, hj => simp at hj; omega

/-- v is a slice of bytes of the call's own, with the bytes l. -/
def OwnB (w : World) (B : Nat) (v : Value) (l : List UInt8) : Prop := w.ownsRow B 5 1 v l.length (Lib.byteCells l)

theorem conv_own {w : World} {B : Nat} {v : Value} {l : List UInt8} (h : OwnB w B v l) : (convert 49 9 v).run Tryd.prog w = .ok (.string ⟨l.toArray⟩) w := by
  obtain ⟨h1, h2⟩ := h
  rcases h2 with ⟨rfl, hl⟩ | ⟨g, cap, cur, rfl, hg, hh, hn, hm, hs, ht⟩
  · have e : l = [] := List.length_eq_zero_iff.1 hl
    subst e
    rw [run_convert_bytes_string w _ _ _ none 0 0 Tryd.underlying49 Tryd.underlying5 Tryd.underlying9]
    rfl
  · refine conv_of _ _ cap l ?_
    intro j hj
    have e := add0 g j
    have hc : cur[j]? = some (.int .u8 (l[j].toNat : Int)) := by
      have h3 : (cur.toList.take (l.length * 1))[j]? = (Lib.byteCells l)[j]? := by rw [ht]
      rw [List.getElem?_take_of_lt (by omega)] at h3
      simpa [Lib.byteCells, hj] using h3
    rw [e]
    simp [World.cell?, hh, hc]

theorem OwnB.nil (w : World) (B : Nat) (hB : B ≤ w.heap.size) : OwnB (w.alloc (.cells #[] 5)) B (.slice (some ⟨w.heap.size, 0, none⟩) 0 0) [] := by
  refine ⟨rfl, .inr ⟨w.heap.size, 0, #[], rfl, hB, ?_, Nat.le_refl _, by simp [maxLen], rfl, rfl⟩⟩
  show (w.heap.push _)[w.heap.size]? = _
  simp

theorem OwnB.snoc {w : World} {B : Nat} {v : Value} {l : List UInt8} {x : Int} (h1 : 0 ≤ x) (h2 : x < 256)
    (h : w.ownsRow B 5 1 v (l.length + 1) (Lib.byteCells l ++ [.int .u8 x])) : OwnB w B v (l ++ [x.toNat.toUInt8]) := by
  have e : Lib.byteCells (l ++ [x.toNat.toUInt8]) = Lib.byteCells l ++ [.int .u8 x] := by
    rw [Lib.byteCells_append]
    have hx : x.toNat % 256 = x.toNat := Nat.mod_eq_of_lt (by omega)
    simp [Lib.byteCells, hx]; omega
  unfold OwnB
  rw [e]
  simpa using h

theorem below_of_grown {B : Nat} {w w' : World} {v : Value} {l : List UInt8} (h : OwnB w B v l) (hB : B ≤ w.heap.size) (hg : w.grownBy w' v.ownBlock) : Below B w w' := by
  refine (Below.refl B w).grown hg hB ?_
  intro k hk
  rcases h.2 with ⟨rfl, _⟩ | ⟨g, cap, cur, rfl, hg, _⟩
  · cases hk
  · cases hk; exact hg

section
variable {ops : Array Oper} {o : Oper} {a : Act} {Q : Exit → Act → World → Prop} {w : World}
/-- 'append(out, x)' of one byte to bytes of the call's own, in a plain region. -/
theorem wpList_appendB {rest : List Oper} (hgd : o.guard = none) (s x : Operand) (ho : o.op = .call { callee := .builtin .append, args := #[s, x], argTypes := #[49, 49] })
    {B : Nat} {v : Value} {l : List UInt8} (hs : a.eval s = v) (hown : OwnB w B v l) (x8 : Int) (h0 : 0 ≤ x8) (h1 : x8 < 256) (ad : Addr) (c : Nat) (hx : a.eval x = .slice (some ad) 1 c)
    (hc : ∀ j u, [Value.int .u8 x8][j]? = some u → w.cell? (ad.add j) = some u) (hl : l.length < 2147483648) (hB : B ≤ w.heap.size)
    (h : ∀ g cap w', OwnB w' B (.slice (some ⟨g, 0, none⟩) (l.length + 1) cap) (l ++ [x8.toNat.toUInt8]) → w.grownBy w' v.ownBlock → Below B w w' → (v.ownBlock = some g ∨ g = w.heap.size) → wpList Tryd.prog ops Q rest (a.put o.dst (.slice (some ⟨g, 0, none⟩) (l.length + 1) cap)) w') : wpList Tryd.prog ops Q (o :: rest) a w := by
  obtain ⟨i0, hi, hz0, hz1, hz2⟩ := info_parts u8info
  refine wpList_append_lies w hgd s x 49 ho B 5 i0 (.int .u8 0) 1 1 Tryd.underlying49 hi hz0 hz1 hz2 rfl (by decide) v l.length (Lib.byteCells l) hs hown ad 1 c [.int .u8 x8] hx rfl hc (by simp [Value.oneCell']) (by decide) (by unfold maxLen; omega) (by omega) hB _ rfl ?_
  intro g cap w' h2 h3 h4 _
  refine h g cap w' ?_ h3 (below_of_grown hown hB h3) h4
  have h5 := OwnB.snoc h0 h1 h2
  exact h5
/-- The same, in a region that draws its order. -/
theorem step_appendB {K : Act → World → Prop} {E : Prop} (hgd : o.guard = none) (s x : Operand) (ho : o.op = .call { callee := .builtin .append, args := #[s, x], argTypes := #[49, 49] })
    {B : Nat} {v : Value} {l : List UInt8} (hs : a.eval s = v) (hown : OwnB w B v l) (x8 : Int) (h0 : 0 ≤ x8) (h1 : x8 < 256) (ad : Addr) (c : Nat) (hx : a.eval x = .slice (some ad) 1 c)
    (hc : ∀ j u, [Value.int .u8 x8][j]? = some u → w.cell? (ad.add j) = some u) (hl : l.length < 2147483648) (hB : B ≤ w.heap.size)
    (h : ∀ g cap w', OwnB w' B (.slice (some ⟨g, 0, none⟩) (l.length + 1) cap) (l ++ [x8.toNat.toUInt8]) → w.grownBy w' v.ownBlock → Below B w w' → (v.ownBlock = some g ∨ g = w.heap.size) → K (a.put o.dst (.slice (some ⟨g, 0, none⟩) (l.length + 1) cap)) w') :
    if Region.wanted o (yielded ops a.tmps) = true then Oper.wp Tryd.prog o a w K Q else E := by
  obtain ⟨i0, hi, hz0, hz1, hz2⟩ := info_parts u8info
  refine step_append_lies w hgd s x 49 ho B 5 i0 (.int .u8 0) 1 1 Tryd.underlying49 hi hz0 hz1 hz2 rfl (by decide) v l.length (Lib.byteCells l) hs hown ad 1 c [.int .u8 x8] hx rfl hc (by simp [Value.oneCell']) (by decide) (by unfold maxLen; omega) (by omega) hB _ rfl ?_
  intro g cap w' h2 h3 h4 _
  exact h g cap w' (OwnB.snoc h0 h1 h2) h3 (below_of_grown hown hB h3) h4
/-- The same, of several bytes. -/
theorem step_appendBs {K : Act → World → Prop} {E : Prop} (hgd : o.guard = none) (s x : Operand) (ho : o.op = .call { callee := .builtin .append, args := #[s, x], argTypes := #[49, 49] })
    {B : Nat} {v : Value} {l : List UInt8} (hs : a.eval s = v) (hown : OwnB w B v l) (cs : List UInt8) (hcs : 0 < cs.length) (ad : Addr) (c : Nat) (hx : a.eval x = .slice (some ad) cs.length c)
    (hc : ∀ j u, (Lib.byteCells cs)[j]? = some u → w.cell? (ad.add j) = some u) (hl : l.length + cs.length < 2147483648) (hB : B ≤ w.heap.size)
    (h : ∀ g cap w', OwnB w' B (.slice (some ⟨g, 0, none⟩) (l.length + cs.length) cap) (l ++ cs) → w.grownBy w' v.ownBlock → Below B w w' → (v.ownBlock = some g ∨ g = w.heap.size) → K (a.put o.dst (.slice (some ⟨g, 0, none⟩) (l.length + cs.length) cap)) w') :
    if Region.wanted o (yielded ops a.tmps) = true then Oper.wp Tryd.prog o a w K Q else E := by
  obtain ⟨i0, hi, hz0, hz1, hz2⟩ := info_parts u8info
  refine step_append_lies w hgd s x 49 ho B 5 i0 (.int .u8 0) 1 1 Tryd.underlying49 hi hz0 hz1 hz2 rfl (by decide) v l.length (Lib.byteCells l) hs hown ad cs.length c (Lib.byteCells cs) hx (by rw [Lib.byteCells_length]; omega) hc (Lib.byteCells_one cs) hcs (by unfold maxLen; omega) (by omega) hB _ rfl ?_
  intro g cap w' h2 h3 h4 _
  refine h g cap w' ?_ h3 (below_of_grown hown hB h3) h4
  unfold OwnB
  rw [Lib.byteCells_append, List.length_append]
  exact h2
end
theorem OwnB.below {w w' : World} {B : Nat} {v : Value} {l : List UInt8} (h : OwnB w B v l) (hb : Below w.heap.size w w') : OwnB w' B v l := by
  refine ⟨h.1, ?_⟩
  rcases h.2 with h2 | ⟨g, cap, cur, rfl, hg, hh, r⟩
  · exact .inl h2
  · exact .inr ⟨g, cap, cur, rfl, hg, by rw [hb.block g (Array.getElem?_eq_some_iff.1 hh).1]; exact hh, r⟩
theorem OwnB.alloc {w : World} {B : Nat} {v : Value} {l : List UInt8} (h : OwnB w B v l) (o : Obj) : OwnB (w.alloc o) B v l := World.ownsRow.alloc h o
theorem OwnB.drew {w : World} {B : Nat} {v : Value} {l : List UInt8} (h : OwnB w B v l) : OwnB w.drew B v l := h
end Go.Proofs.YthcbekfgkbhpeaaDoor
end
section
set_option linter.unusedVariables false
namespace Go.Proofs.YthcbekfgkbhpeaaDoor
open Go.RowKit
set_option maxRecDepth 20000
def wordBytes (n : Int) : ByteArray := ⟨#[(n / 256).toNat.toUInt8, (n % 256).toNat.toUInt8]⟩
set_option maxHeartbeats 400000 in
theorem putWord_yes (n : Int) (w : World) (h0 : 0 ≤ n) (h1 : n ≤ 65535) :
    Calls Tryd.prog 63 #[.int .i64 n] w fun e w' => e = .returned (.string (wordBytes n)) ∧ Below w.heap.size w w' := by
  have hin : inB 0 65535 n = true := by rw [inB_iff]; omega
  have hcv := conv_new2 (w.alloc (.cells #[.int .i64 n] 2)) (n / 256) (n % 256) (by omega) (by omega) (by omega) (by omega)
  simp only [World.size_alloc] at hcv
  go_enter Tryd.func63, Tryd.ntmps63
  go_wp2_with (go_at_call 37; refine (within_new _ _ _ _ _).mono ?_; rintro e w' ⟨rfl, rfl⟩)
  go_ret
  exact ⟨rfl, ((Below.refl _ _).alloc (Nat.le_refl _) _).alloc (by simp) _⟩
set_option maxHeartbeats 400000 in
theorem putWord_no (n : Int) (w : World) (h : inB 0 65535 n = false) :
    Calls Tryd.prog 63 #[.int .i64 n] w fun e w' => e = .returned (.string ⟨#[]⟩) ∧ Below w.heap.size w w' := by
  go_enter Tryd.func63, Tryd.ntmps63
  go_wp2_with (go_at_call 37; refine (within_new _ _ _ _ _).mono ?_; rintro e w' ⟨rfl, rfl⟩)
  go_ret
  exact ⟨rfl, (Below.refl _ _).alloc (Nat.le_refl _) _⟩
end Go.Proofs.YthcbekfgkbhpeaaDoor
end
section
set_option linter.unusedVariables false
namespace Go.Proofs.YthcbekfgkbhpeaaDoor
open Go.RowKit
set_option maxRecDepth 20000
set_option linter.unusedVariables false
def chDir (n z : Nat) : Nat := 1 + (n + z - 1) / z
def chData (n z : Nat) : Nat := chDir n z + (n / 8 * 12 + z - 1) / z
def chStart (n : Nat) : ByteArray := ⟨#[67, 72, n.toUInt8, (n / 8).toUInt8]⟩
def chTop (n : Nat) : ByteArray := chStart n ++ wordBytes (crcV (chStart n) 65535)
def chHead (n z : Nat) : ByteArray := padB (chTop n) z 0
theorem chCrc_bd (s : ByteArray) : 0 ≤ crcV s 65535 ∧ crcV s 65535 ≤ 65535 := by
  have h := crcT_bd s 65535 s.size (by omega)
  unfold crcV
  rw [if_pos (inB_iff.2 (by omega))]
  have e : (65535 : Int).toNat = 65535 := rfl
  rw [e]
  omega
theorem chTop_size (n : Nat) : (chTop n).size = 6 := by
  unfold chTop
  rw [ByteArray.size_append]
  rfl
theorem chHead_size {n z : Nat} (h : z = 8 ∨ z = 16 ∨ z = 32) : (chHead n z).size = z := by
  unfold chHead
  apply padB_size
  rw [chTop_size]
  omega
def chCode (es : List StringV) : Int := if diskB es = true then (if blkAt es 0 = chHead es.length (len0 es) then 0 else 7) else 1
def chLay (n z : Nat) : ChainLayoutV := ⟨(n : Int), (z : Int), ((n / 8 : Nat) : Int), (chDir n z : Int), (chData n z : Int)⟩
def chL (es : List StringV) : ChainLayoutV := if chCode es = 0 then chLay es.length (len0 es) else ⟨0, 0, 0, 0, 0⟩
theorem chCode_facts {es : List StringV} (h : chCode es = 0) : diskB es = true ∧ blkAt es 0 = chHead es.length (len0 es) := by
  unfold chCode at h
  split at h
  case isFalse => omega
  rename_i h1
  split at h
  case isFalse => omega
  rename_i h2
  exact ⟨h1, h2⟩
theorem chDir_bd {n z : Nat} (hn : n ≤ 128) (hz : z = 8 ∨ z = 16 ∨ z = 32) : chDir n z ≤ 17 ∧ 1 ≤ chDir n z ∧ chDir n z ≤ chData n z ∧ chData n z ≤ 41 := by
  unfold chData chDir
  rcases hz with rfl | rfl | rfl <;> omega
end Go.Proofs.YthcbekfgkbhpeaaDoor
end
section
set_option linter.unusedVariables false
namespace Go.Proofs.YthcbekfgkbhpeaaDoor
open Go.RowKit
set_option maxRecDepth 20000
set_option linter.unusedVariables false
/-- Is the number among them? -/
def hasB (ys : List Int) (t : Int) : Bool := ys.contains t
theorem hasB_yes {ys : List Int} {t : Int} {k : Nat} (h : ys[k]? = some t) : hasB ys t = true := by
  unfold hasB; simpa using List.mem_of_getElem? h
theorem hasB_no {ys : List Int} {t : Int} (h : (ys.take ys.length).contains t = false) : hasB ys t = false := by
  unfold hasB; rw [List.take_length] at h; exact h
set_option maxHeartbeats 400000 in
theorem l00Has_any (a : Option Addr) (zs : List Int) (d : Nat) (t : Int) (w : World) (hl : zs.length ≤ 1048576) (h : SlA w a zs) :
    Calls Tryd.prog 65 #[.slice a zs.length d, .int .i64 t] w fun e w' => e = .returned (.bool (hasB zs t)) ∧ w = w' := by
  have H := Lib.hid h; clear h
  go_enter Tryd.func65, Tryd.ntmps65
  go_wp2
  go_loop [5] (fun i => ∃ k : Nat, k ≤ zs.length ∧ i = .int .i64 k ∧ Hid ((zs.take k).contains t = false)) (fun i => zs.length - (intOf i).toNat)
  case atStart => exact ⟨0, Nat.zero_le _, rfl, Lib.hid (by simp)⟩
  case round =>
    obtain ⟨k, hk, rfl, hn⟩ := hrel
    by_cases hlt : k < zs.length
    · obtain ⟨x, hx⟩ := getOf hlt
      obtain ⟨b, off, rfl, hcx⟩ := H.out.cell hx
      have HX := Lib.hid hx; clear hx
      by_cases hxt : x = t
      · subst hxt
        have HE := Lib.hid (hasB_yes HX.out)
        go_wp2
        go_ret
        exact ⟨ret_bool HE.out.symm, rfl⟩
      · have he : (x == t) = false := by simpa using hxt
        clear hxt
        go_wp2
        go_round
        case rel => exact ⟨k + 1, by omega, by go_num, Lib.hid (by rw [List.take_add_one, HX.out]; have := hn.out; simp at this he ⊢; exact ⟨this, fun h => he h.symm⟩)⟩
        case measure => simp [intOf]; omega
    · obtain rfl : k = zs.length := by omega
      clear H
      go_wp2
      go_ret
      exact ⟨ret_bool (hasB_no hn.out).symm, rfl⟩
end Go.Proofs.YthcbekfgkbhpeaaDoor
end
