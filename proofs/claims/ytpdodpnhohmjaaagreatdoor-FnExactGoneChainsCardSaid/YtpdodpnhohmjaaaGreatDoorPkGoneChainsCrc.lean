/- The check value: four bits at a time and bit by bit; impl.checkOfBits, impl.continueCheck, impl.Crc16 (strings up to MaxBytes), spec.l01Crc, spec.Crc16 -/
import Derived.Test.YtpdodpnhohmjaaaGreatDoorPkGoneChainsA
import Derived.Test.YtpdodpnhohmjaaaGreatDoorPkGoneChainsE
import Derived.Deep.QuietTactic
import Derived.BigQuiet
import Derived.Laws.BitsLemmas
import Derived.Test.YtpdodpnhohmjaaaGreatDoorPkGoneChainsD
namespace Go.Proofs.YtpdodpnhohmjaaaGreatDoor
open Go.RowKit
set_option maxRecDepth 20000
set_option linter.unusedVariables false
def nibS (v n : Nat) : Nat := (16 * v % 65536) ^^^ ((v / 4096 ^^^ n) * 4129)
def bitS (v b : Nat) : Nat := if v / 32768 % 2 = b then 2 * v % 65536 else (2 * v % 65536) ^^^ 4129
def bits4 (v n : Nat) : Nat := bitS (bitS (bitS (bitS v (n / 8 % 2)) (n / 4 % 2)) (n / 2 % 2)) (n % 2)
theorem dbl_xor (a b : Nat) : 2 * (a ^^^ b) = 2 * a ^^^ 2 * b := by
  have h := @Nat.shiftLeft_xor_distrib 1 a b
  simpa [Nat.shiftLeft_eq, Nat.mul_comm] using h
theorem mod_xor (a b : Nat) : (a ^^^ b) % 65536 = a % 65536 ^^^ b % 65536 := by
  have h := @Nat.xor_mod_two_pow a b 16
  simpa using h
theorem bitS_lin (u x b : Nat) (hx : x < 32768) (hd : (u ^^^ x) / 32768 % 2 = u / 32768 % 2) : bitS (u ^^^ x) b = bitS u b ^^^ 2 * x := by
  have h2 : 2 * (u ^^^ x) % 65536 = (2 * u % 65536) ^^^ 2 * x := by rw [dbl_xor, mod_xor, Nat.mod_eq_of_lt (show 2 * x < 65536 by omega)]
  unfold bitS
  rw [hd, h2]
  split
  · rfl
  · rw [Nat.xor_assoc, Nat.xor_assoc, Nat.xor_comm (2 * x) 4129]
theorem bit15_xor (u x : Nat) (hx : x < 32768) : (u ^^^ x) / 32768 % 2 = u / 32768 % 2 := by
  have h := @Nat.testBit_xor u x 15
  have hx2 : x.testBit 15 = false := Nat.testBit_lt_two_pow (by omega)
  rw [hx2, Bool.xor_false] at h
  simp only [Nat.testBit_eq_decide_div_mod_eq] at h
  have e : (2 : Nat) ^ 15 = 32768 := by decide
  rw [e] at h
  have := decide_eq_decide.1 h
  omega
theorem bits4_hi : ∀ h, h < 16 → ∀ n, n < 16 → bits4 (h * 4096) n = (h ^^^ n) * 4129 := by decide +kernel
theorem split16 (v : Nat) : v = (v / 4096 * 4096) ^^^ (v % 4096) := by
  have h := Nat.two_pow_add_eq_or_of_lt (i := 12) (b := v % 4096) (by omega) (v / 4096)
  have hx : (v / 4096 * 4096) ^^^ (v % 4096) = (v / 4096 * 4096) ||| (v % 4096) := by
    apply Nat.eq_of_testBit_eq
    intro i
    rw [Nat.testBit_xor, Nat.testBit_or]
    by_cases hi : i < 12
    · have h1 : (v / 4096 * 4096).testBit i = false := by
        rw [show v / 4096 * 4096 = 2 ^ 12 * (v / 4096) by omega, Nat.testBit_two_pow_mul]
        simp; omega
      rw [h1]; simp
    · have h1 : (v % 4096).testBit i = false := Nat.testBit_lt_two_pow (Nat.lt_of_lt_of_le (show v % 4096 < 2 ^ 12 by omega) (Nat.pow_le_pow_right (by decide) (by omega)))
      rw [h1]; simp
  rw [hx, show v / 4096 * 4096 = 2 ^ 12 * (v / 4096) by omega, ← h]
  omega
theorem bits4_lin (u x n : Nat) (hx : x < 4096) : bits4 (u ^^^ x) n = bits4 u n ^^^ 2 * (2 * (2 * (2 * x))) := by
  unfold bits4
  rw [bitS_lin u x _ (by omega) (bit15_xor u x (by omega)), bitS_lin _ (2 * x) _ (by omega) (bit15_xor _ _ (by omega)), bitS_lin _ (2 * (2 * x)) _ (by omega) (bit15_xor _ _ (by omega)), bitS_lin _ (2 * (2 * (2 * x))) _ (by omega) (bit15_xor _ _ (by omega))]
theorem bits4_nib (v n : Nat) (hv : v < 65536) (hn : n < 16) : bits4 v n = nibS v n := by
  have hs := congrArg (fun y => bits4 y n) (split16 v)
  have hb := bits4_hi (v / 4096) (by omega) n hn
  have e1 : 16 * v % 65536 = 2 * (2 * (2 * (2 * (v % 4096)))) := by omega
  have h2 := bits4_lin (v / 4096 * 4096) (v % 4096) n (by omega)
  have h3 : bits4 v n = bits4 (v / 4096 * 4096) n ^^^ 2 * (2 * (2 * (2 * (v % 4096)))) := Eq.trans hs h2
  rw [h3, hb]
  unfold nibS
  rw [e1]
  exact Nat.xor_comm _ _
theorem nibS_bd (v n : Nat) (hv : v < 65536) (hn : n < 16) : nibS v n < 65536 := by
  have h1 : (v / 4096 ^^^ n) < 2 ^ 4 := Nat.xor_lt_two_pow (by omega) (by omega)
  have h2 : nibS v n < 2 ^ 16 := Nat.xor_lt_two_pow (by omega) (by omega)
  omega
/-- The check value behind k bytes. -/
def crcT (s : ByteArray) (v : Nat) : Nat → Nat
  | 0 => v
  | k + 1 => nibS (nibS (crcT s v k) ((s[k]?.getD 0).toNat / 16)) ((s[k]?.getD 0).toNat % 16)
theorem crcT_succ (s : ByteArray) (v k : Nat) (h : k < s.size) : crcT s v (k + 1) = nibS (nibS (crcT s v k) (s[k].toNat / 16)) (s[k].toNat % 16) := by
  have e : s[k]?.getD 0 = s[k] := by rw [getElem?_pos s k h]; rfl
  show nibS (nibS (crcT s v k) ((s[k]?.getD 0).toNat / 16)) ((s[k]?.getD 0).toNat % 16) = _
  rw [e]
theorem crcT_bd (s : ByteArray) (v k : Nat) (hv : v < 65536) : crcT s v k < 65536 := by
  induction k with
  | zero => exact hv
  | succ k ih =>
    have hx := (s[k]?.getD 0).toNat_lt
    exact nibS_bd _ _ (nibS_bd _ _ ih (by omega)) (by omega)
def crcV (s : ByteArray) (n : Int) : Int := if inB 0 65535 n = true then (crcT s n.toNat s.size : Int) else -1
theorem i64_small (n : Int) (h0 : 0 ≤ n) (h1 : n < 2 ^ 40) : IntKind.i64.wrap n = n := by rw [IntKind.wrap_i64]; omega
theorem i64_xor (a b : Nat) (ha : a < 4294967296) (hb : b < 4294967296) : bits .xor .i64 (a : Int) (b : Int) = ((a ^^^ b : Nat) : Int) := by
  have hx : a ^^^ b < 2 ^ 32 := Nat.xor_lt_two_pow (by omega) (by omega)
  have h1 : (BitVec.ofInt 64 (a : Int)).toNat = a := by
    rw [BitVec.ofInt_natCast, BitVec.toNat_ofNat]; exact Nat.mod_eq_of_lt (by omega)
  have h2 : (BitVec.ofInt 64 (b : Int)).toNat = b := by
    rw [BitVec.ofInt_natCast, BitVec.toNat_ofNat]; exact Nat.mod_eq_of_lt (by omega)
  show IntKind.i64.wrap ((BitVec.ofInt 64 (a : Int) ^^^ BitVec.ofInt 64 (b : Int)).toNat : Int) = _
  rw [BitVec.toNat_xor, h1, h2]
  exact i64_small _ (by omega) (by omega)
theorem i64_and16 (x : Int) (h0 : 0 ≤ x) (h1 : x < 1099511627776) : bits .and .i64 x 65535 = x % 65536 := bits_mask .i64 40 (by decide) i64_small 16 (by decide) x h0 h1
theorem i64_and1 (x : Int) (h0 : 0 ≤ x) (h1 : x < 1099511627776) : bits .and .i64 x 1 = x % 2 := bits_mask .i64 40 (by decide) i64_small 1 (by decide) x h0 h1
theorem checkOfBits_any (n C : Nat) (h : n < 16) (hC : n * 4129 = C) (w : World) : Calls Tryz.prog 111 #[.int .i64 (n : Int)] w fun e w' => e = .returned (.int .i64 (C : Int)) ∧ w = w' := by
  have h2 : (n : Int) < 16 := by omega
  have e : (n : Int) * 4129 = (C : Int) := by omega
  have e2 : C < 70000 := by omega
  clear hC
  go_enter Tryz.func111, Tryz.ntmps111
  go_wp2
  go_ret
  exact ⟨by first | rfl | rw [e], rfl⟩
/-- What one step of four bits reckons. -/
theorem nib_facts (cur n : Nat) (hc : cur < 65536) (hn : n < 16) : ∃ A B C : Nat, bits .and .i64 ((cur : Int) * 16) 65535 = (A : Int) ∧ bits .xor .i64 ((cur : Int) / 4096) (n : Int) = (B : Int) ∧ B < 16 ∧ B * 4129 = C ∧ bits .xor .i64 (A : Int) (C : Int) = (nibS cur n : Int) := by
  refine ⟨16 * cur % 65536, cur / 4096 ^^^ n, (cur / 4096 ^^^ n) * 4129, ?_, ?_, ?_, rfl, ?_⟩
  · rw [i64_and16 _ (by omega) (by omega)]; omega
  · have h := i64_xor (cur / 4096) n (by omega) (by omega)
    simpa using h
  · have h1 : (cur / 4096 ^^^ n) < 2 ^ 4 := Nat.xor_lt_two_pow (by omega) (by omega)
    omega
  · have h1 : (cur / 4096 ^^^ n) < 2 ^ 4 := Nat.xor_lt_two_pow (by omega) (by omega)
    exact i64_xor _ _ (by omega) (by omega)
set_option maxHeartbeats 4000000 in
theorem continueCheck_any (s : ByteArray) (v : Nat) (hv : v < 65536) (hs : s.size ≤ 4096) (w : World) :
    Calls Tryz.prog 109 #[.string s, .int .i64 (v : Int), .func (.func 111) #[] #[]] w fun e w' => e = .returned (.int .i64 (crcT s v s.size : Int)) ∧ Below w.heap.size w w' := by
  have CH := Lib.hid (fun n C h hC w => checkOfBits_any n C h hC w)
  go_enter Tryz.func109, Tryz.ntmps109
  go_wp2
  go_loopw [1, 7, 9, 12, 24] (fun q _ _ i _ wr => ∃ k : Nat, k ≤ s.size ∧ i = .int .i64 k ∧ q = .int .i64 (crcT s v k : Int) ∧ Below w.heap.size w wr) (fun _ _ _ i _ _ => s.size - (intOf i).toNat)
  case atStart => exact ⟨0, Nat.zero_le _, rfl, rfl, Below.refl _ _⟩
  case round =>
    obtain ⟨k, hk, rfl, rfl, hb⟩ := hrel
    by_cases hlt : k < s.size
    · have e0 : (k : Int) < s.size := by omega
      have hx := s[k].toNat_lt
      have HST := Lib.hid (crcT_succ s v k hlt)
      have hcb := crcT_bd s v k hv
      generalize crcT s v k = cur at *
      obtain ⟨n0, hn0⟩ : ∃ n, s[k].toNat / 16 = n := ⟨_, rfl⟩
      obtain ⟨n1, hn1⟩ : ∃ n, s[k].toNat % 16 = n := ⟨_, rfl⟩
      rw [hn0, hn1] at HST
      have hb0 : n0 < 16 := by omega
      have hb1 : n1 < 16 := by omega
      have hbi0 : (n0 : Int) < 16 := by omega
      have hbi1 : (n1 : Int) < 16 := by omega
      have hq0 : (s[k].toNat : Int) / 16 = (n0 : Int) := by omega
      have hq1 : bits .and .u8 (s[k].toNat : Int) 15 = (n1 : Int) := by rw [u8_and15 _ (by omega) (by omega)]; omega
      clear hn0 hn1
      have hv2 : (cur : Int) < 65536 := by omega
      have i0 : ∀ w, (Instr.index 171 (.agg #[.int .u8 (n0 : Int), .int .u8 (n1 : Int)]) (.int .i64 0)).run Tryz.prog w = .ok (.int .u8 (n0 : Int)) w := fun _ => rfl
      have i1 : ∀ w, (Instr.index 171 (.agg #[.int .u8 (n0 : Int), .int .u8 (n1 : Int)]) (.int .i64 1)).run Tryz.prog w = .ok (.int .u8 (n1 : Int)) w := fun _ => rfl
      have hc1 := nibS_bd cur n0 hcb hb0
      obtain ⟨A0, B0, C0, x1, x2, x3, x4, x5⟩ := nib_facts cur n0 hcb hb0
      generalize nibS cur n0 = c1 at *
      obtain ⟨A1, B1, C1, y1, y2, y3, y4, y5⟩ := nib_facts c1 n1 hc1 hb1
      have hc2 := nibS_bd c1 n1 hc1 hb1
      generalize nibS c1 n1 = c2 at *
      have CH0 := Lib.hid (fun w => CH.out B0 C0 x3 x4 w)
      have CH1 := Lib.hid (fun w => CH.out B1 C1 y3 y4 w)
      have z1 : (c1 : Int) < 65536 := by omega
      have z2 : (c2 : Int) < 65536 := by omega
      clear x3 x4 y3 y4
      go_wp2
      go_quiet (fail)
      rename_i nq
      have hbq := below_drewN hb nq
      generalize wr.drewN nq = wq at hbq ⊢
      clear hb
      go_wp2
      refine wp_loop_rounds 3 ?_
      rw [rounds_succ]
      go_wp2_with (go_at_call 111; refine (CH0.out _).mono ?_; rintro e w2 ⟨rfl, rfl⟩)
      rw [rounds_succ]
      go_wp2_with (go_at_call 111; refine (CH1.out _).mono ?_; rintro e w3 ⟨rfl, rfl⟩)
      rw [rounds_succ]
      go_wp2
      go_roundw
      case rel => exact ⟨k + 1, by omega, by go_num, by rw [HST.out], hbq⟩
      case measure => simp [intOf]; omega
    · obtain rfl : k = s.size := by omega
      go_wp2
      go_ret
      exact ⟨rfl, hb⟩
set_option maxHeartbeats 1000000 in
theorem crc16_any (s : ByteArray) (n : Int) (hs : s.size ≤ 4096) (w : World) :
    Calls Tryz.prog 87 #[.string s, .int .i64 n] w fun e w' => e = .returned (.int .i64 (crcV s n)) ∧ Below w.heap.size w w' := by
  have HT := Lib.hid (fun w b hb => within_b 0 65535 n w 2 b hb)
  by_cases h : inB 0 65535 n = true
  · obtain ⟨n0, n1⟩ := inB_iff.1 h
    obtain ⟨v, rfl⟩ : ∃ v : Nat, n = v := ⟨n.toNat, by omega⟩
    have e : crcV s v = (crcT s v s.size : Int) := by unfold crcV; rw [if_pos h, Int.toNat_natCast]
    rw [e]
    rw [h] at HT
    have HC := Lib.hid (fun w => continueCheck_any s v (by omega) hs w)
    generalize crcT s v s.size = r at *
    clear e h
    go_enter Tryz.func87, Tryz.ntmps87
    go_wp2_with (first | (go_at_call 57; refine (HT.out _ _ (by simp)).mono ?_; rintro e w1 ⟨rfl, hb1⟩) | (go_at_call 109; refine (HC.out _).mono ?_; rintro e w2 ⟨rfl, hb2⟩))
    go_ret
    exact ⟨rfl, hb1.trans (hb2.mono hb1.size)⟩
  · have h0 : inB 0 65535 n = false := by simpa using h
    have e : crcV s n = -1 := by unfold crcV; rw [if_neg h]
    rw [e]
    rw [h0] at HT
    clear e h h0
    go_enter Tryz.func87, Tryz.ntmps87
    go_wp2_with (go_at_call 57; refine (HT.out _ _ (by simp)).mono ?_; rintro e w1 ⟨rfl, hb1⟩)
    go_ret
    exact ⟨rfl, hb1⟩
/-- t bits of a byte. -/
def bitT (v c : Nat) : Nat → Nat
  | 0 => v
  | t + 1 => bitS (bitT v c t) (c / 2 ^ (7 - t) % 2)
theorem bitS_bd (v b : Nat) : bitS v b < 65536 := by
  unfold bitS
  split
  · omega
  · have h : (2 * v % 65536) ^^^ 4129 < 2 ^ 16 := Nat.xor_lt_two_pow (by omega) (by omega)
    omega
theorem bitT_bd (v c t : Nat) (hv : v < 65536) : bitT v c t < 65536 := by
  cases t with
  | zero => exact hv
  | succ t => exact bitS_bd _ _
theorem bitT_8 (v c : Nat) (hv : v < 65536) (hc : c < 256) : bitT v c 8 = nibS (nibS v (c / 16)) (c % 16) := by
  have h1 : bitT v c 4 = bits4 v (c / 16) := by
    show bitS (bitS (bitS (bitS v (c / 128 % 2)) (c / 64 % 2)) (c / 32 % 2)) (c / 16 % 2) = bits4 v (c / 16)
    unfold bits4
    rw [show c / 16 / 8 % 2 = c / 128 % 2 by omega, show c / 16 / 4 % 2 = c / 64 % 2 by omega, show c / 16 / 2 % 2 = c / 32 % 2 by omega]
  have h2 : bitT v c 8 = bits4 (bitT v c 4) (c % 16) := by
    show bitS (bitS (bitS (bitS (bitT v c 4) (c / 8 % 2)) (c / 4 % 2)) (c / 2 % 2)) (c / 1 % 2) = bits4 (bitT v c 4) (c % 16)
    unfold bits4
    rw [show c % 16 / 8 % 2 = c / 8 % 2 by omega, show c % 16 / 4 % 2 = c / 4 % 2 by omega, show c % 16 / 2 % 2 = c / 2 % 2 by omega, show c % 16 % 2 = c / 1 % 2 by omega]
  rw [h2, h1, bits4_nib v _ hv (by omega), bits4_nib _ _ (nibS_bd _ _ hv (by omega)) (by omega)]
/-- What one step of one bit reckons. -/
theorem bit_facts (cur c q : Nat) (hc : cur < 65536) (hx : c < 256) : ∃ L B D X : Nat, bits .and .i64 ((cur : Int) / 32768) 1 = (L : Int) ∧ bits .and .i64 (wrap64 ((c : Int) / 2 ^ q)) 1 = (B : Int) ∧ bits .and .i64 ((cur : Int) * 2) 65535 = (D : Int) ∧ bits .xor .i64 (D : Int) 4129 = (X : Int) ∧ D < 65536 ∧ X < 65536 ∧ (L = B → bitS cur (c / 2 ^ q % 2) = D) ∧ (¬ L = B → bitS cur (c / 2 ^ q % 2) = X) := by
  refine ⟨cur / 32768 % 2, c / 2 ^ q % 2, 2 * cur % 65536, (2 * cur % 65536) ^^^ 4129, ?_, ?_, ?_, ?_, by omega, ?_, ?_, ?_⟩
  · rw [i64_and1 _ (by omega) (by omega)]; omega
  · have h8 : ((c : Int) / 2 ^ q) = ((c / 2 ^ q : Nat) : Int) := by simp
    have h9 : c / 2 ^ q ≤ c := Nat.div_le_self _ _
    rw [h8]
    generalize c / 2 ^ q = x at h9 ⊢
    rw [show wrap64 (x : Int) = (x : Int) by unfold wrap64; omega, i64_and1 _ (by omega) (by omega)]; omega
  · rw [i64_and16 _ (by omega) (by omega)]; omega
  · exact i64_xor _ 4129 (by omega) (by omega)
  · have h : (2 * cur % 65536) ^^^ 4129 < 2 ^ 16 := Nat.xor_lt_two_pow (by omega) (by omega)
    omega
  · intro h; unfold bitS; rw [if_pos h]
  · intro h; unfold bitS; rw [if_neg h]
set_option maxHeartbeats 8000000 in
theorem l01Crc_any (s : ByteArray) (v : Nat) (hv : v < 65536) (hs : s.size ≤ 1048576) (w : World) :
    Calls Tryz.prog 79 #[.string s, .int .i64 (v : Int)] w fun e w' => e = .returned (.int .i64 (crcT s v s.size : Int)) ∧ w = w' := by
  go_enter Tryz.func79, Tryz.ntmps79
  go_wp2
  go_loopw [5, 6, 7, 8, 9] (fun q i _ _ _ wr => ∃ k : Nat, k ≤ s.size ∧ i = .int .i64 k ∧ q = .int .i64 (crcT s v k : Int) ∧ wr = w) (fun _ i _ _ _ _ => s.size - (intOf i).toNat)
  case atStart => exact ⟨0, Nat.zero_le _, rfl, rfl, rfl⟩
  case round =>
    obtain ⟨k, hk, rfl, rfl, rfl⟩ := hrel
    by_cases hlt : k < s.size
    · have e0 : (k : Int) < s.size := by omega
      have hx := s[k].toNat_lt
      have hcb := crcT_bd s v k hv
      have HST := Lib.hid ((crcT_succ s v k hlt).trans (bitT_8 (crcT s v k) s[k].toNat hcb hx).symm)
      generalize crcT s v k = cur at *
      have HTB := Lib.hid (fun t => bitT_bd cur s[k].toNat t hcb)
      go_wp2
      go_hide hQ
      obtain ⟨wo, rfl⟩ : ∃ wo : World, wo = wr := ⟨_, rfl⟩
      go_loopw [5, 7, 8, 9] (fun q k2 _ _ wr2 => ∃ t : Nat, t ≤ 8 ∧ k2 = .int .i64 (7 - (t : Int)) ∧ q = .int .i64 (bitT cur s[k].toNat t : Int) ∧ wr2 = wo) (fun _ k2 _ _ _ => (intOf k2 + 1).toNat)
      case atStart => exact ⟨0, Nat.zero_le _, rfl, rfl, rfl⟩
      case round =>
        obtain ⟨t, ht, rfl, rfl, rfl⟩ := hrel
        by_cases ht8 : t < 8
        · obtain ⟨q, hq⟩ : ∃ q : Nat, q + t = 7 := ⟨7 - t, by omega⟩
          have eq : (7 - (t : Int)) = (q : Int) := by omega
          rw [eq]
          have hq0 : (0 : Int) ≤ (q : Int) := by omega
          have hq1 : q < 8 := by omega
          have hbt := HTB.out t
          have HSS := Lib.hid (show bitT cur s[k].toNat (t + 1) = bitS (bitT cur s[k].toNat t) (s[k].toNat / 2 ^ (7 - t) % 2) from rfl)
          have e7 : 7 - t = q := by omega
          rw [e7] at HSS
          generalize bitT cur s[k].toNat t = c1 at *
          obtain ⟨L, B, D, X, x1, x2, x3, x4, x5, x6, x7, x8⟩ := bit_facts c1 s[k].toNat q hbt hx
          have HQ := Lib.hid (And.intro hq eq); clear hq eq e7
          by_cases hLB : L = B
          · have r := x7 hLB
            have HR := Lib.hid (HSS.out.trans r)
            have hne : ((L : Int) != (B : Int)) = false := by simp [hLB]
            clear x7 x8 r
            have HLB := Lib.hid hLB; clear hLB
            go_wp2
            go_roundw
            case rel =>
              have hq2 := HQ.out
              exact ⟨t + 1, by omega, by rw [show (7 - ((t + 1 : Nat) : Int)) = (q : Int) - 1 by omega], by rw [HR.out], trivial⟩
            case measure => simp [intOf] <;> omega
          · have r := x8 hLB
            have HR := Lib.hid (HSS.out.trans r)
            have hne : ((L : Int) != (B : Int)) = true := by simp; omega
            clear x7 x8 r
            have HLB := Lib.hid hLB; clear hLB
            go_wp2
            go_roundw
            case rel =>
              have hq2 := HQ.out
              exact ⟨t + 1, by omega, by rw [show (7 - ((t + 1 : Nat) : Int)) = (q : Int) - 1 by omega], by rw [HR.out], trivial⟩
            case measure => simp [intOf] <;> omega
        · obtain rfl : t = 8 := by omega
          subst hQ
          go_wp2
          go_roundw
          case rel => exact ⟨k + 1, by omega, by go_num, by rw [HST.out], trivial⟩
          case measure => simp [intOf]; omega
    · obtain rfl : k = s.size := by omega
      go_wp2
      go_ret
      exact ⟨rfl, rfl⟩
set_option maxHeartbeats 1000000 in
theorem specCrc16_any (s : ByteArray) (n : Int) (hs : s.size ≤ 1048576) (w : World) :
    Calls Tryz.prog 52 #[.string s, .int .i64 n] w fun e w' => e = .returned (.int .i64 (crcV s n)) ∧ w = w' := by
  have HT := Lib.hid (fun w => l00In_any n 0 65535 w)
  by_cases h : inB 0 65535 n = true
  · obtain ⟨n0, n1⟩ := inB_iff.1 h
    obtain ⟨v, rfl⟩ : ∃ v : Nat, n = v := ⟨n.toNat, by omega⟩
    have e : crcV s v = (crcT s v s.size : Int) := by unfold crcV; rw [if_pos h, Int.toNat_natCast]
    rw [e]
    rw [h] at HT
    have HC := Lib.hid (fun w => l01Crc_any s v (by omega) hs w)
    generalize crcT s v s.size = r at *
    clear e h
    go_enter Tryz.func52, Tryz.ntmps52
    go_wp2_with (first | (go_at_call 38; refine (HT.out _).mono ?_; rintro e w1 ⟨rfl, rfl⟩) | (go_at_call 79; refine (HC.out _).mono ?_; rintro e w2 ⟨rfl, rfl⟩))
    go_ret
    exact ⟨rfl, rfl⟩
  · have h0 : inB 0 65535 n = false := by simpa using h
    have e : crcV s n = -1 := by unfold crcV; rw [if_neg h]
    rw [e]
    rw [h0] at HT
    clear e h h0
    go_enter Tryz.func52, Tryz.ntmps52
    go_wp2_with (go_at_call 38; refine (HT.out _).mono ?_; rintro e w1 ⟨rfl, rfl⟩)
    go_ret
    exact ⟨rfl, rfl⟩
end Go.Proofs.YtpdodpnhohmjaaaGreatDoor
