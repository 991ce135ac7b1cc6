/- impl.digitsOf, by wip/tools/gen_digits.py -/
import Derived.Test.YtlgpkmgfcnhigaaBuilder
namespace Go.Proofs.Ytlgpkmgfcnhigaa
open Go.RowKit
set_option linter.unusedVariables false
set_option maxRecDepth 20000
def hexd (n : Nat) : UInt8 := (⟨#[48, 49, 50, 51, 52, 53, 54, 55, 56, 57, 97, 98, 99, 100, 101, 102]⟩ : ByteArray)[n]?.getD 0
theorem hexd_at {n : Nat} (h : n < 16) : (⟨#[48, 49, 50, 51, 52, 53, 54, 55, 56, 57, 97, 98, 99, 100, 101, 102]⟩ : ByteArray)[n]'h = hexd n := by
  have e : (⟨#[48, 49, 50, 51, 52, 53, 54, 55, 56, 57, 97, 98, 99, 100, 101, 102]⟩ : ByteArray)[n]? = some ((⟨#[48, 49, 50, 51, 52, 53, 54, 55, 56, 57, 97, 98, 99, 100, 101, 102]⟩ : ByteArray)[n]'h) := getElem?_pos _ _ _
  unfold hexd
  rw [e]
  rfl
theorem byte_back (c : UInt8) : ((c.toNat : Int)).toNat.toUInt8 = c := by simp
theorem byte_bd (c : UInt8) : (0 : Int) ≤ (c.toNat : Int) ∧ (c.toNat : Int) < 256 := by have := c.toNat_lt; omega
/-- The digits of one byte. -/
def digs4 (c : UInt8) : List UInt8 := [hexd (c.toNat / 16 % 16), hexd (c.toNat / 1 % 16)]
def digs1 (c : UInt8) : List UInt8 := [hexd (c.toNat / 128 % 2), hexd (c.toNat / 64 % 2), hexd (c.toNat / 32 % 2), hexd (c.toNat / 16 % 2), hexd (c.toNat / 8 % 2), hexd (c.toNat / 4 % 2), hexd (c.toNat / 2 % 2), hexd (c.toNat / 1 % 2)]
def digits4 (l : List UInt8) : List UInt8 := l.flatMap digs4
def digits1 (l : List UInt8) : List UInt8 := l.flatMap digs1
theorem digits4_snoc (l : List UInt8) (c : UInt8) : digits4 (l ++ [c]) = digits4 l ++ digs4 c := by simp [digits4]
theorem digits1_snoc (l : List UInt8) (c : UInt8) : digits1 (l ++ [c]) = digits1 l ++ digs1 c := by simp [digits1]
theorem digits4_length (l : List UInt8) : (digits4 l).length = 2 * l.length := by
  induction l with
  | nil => rfl
  | cons x l ih => simp only [digits4, List.flatMap_cons, List.length_append] at ih ⊢; rw [ih]; simp [digs4]; omega
theorem digits1_length (l : List UInt8) : (digits1 l).length = 8 * l.length := by
  induction l with
  | nil => rfl
  | cons x l ih => simp only [digits1, List.flatMap_cons, List.length_append] at ih ⊢; rw [ih]; simp [digs1]; omega
theorem take_snocB (s : ByteArray) (k : Nat) (h : k < s.size) : s.data.toList.take (k + 1) = s.data.toList.take k ++ [s[k]] := by
  rw [List.take_succ_eq_append_getElem (by simpa using h)]; rfl
theorem take_geB (s : ByteArray) (k : Nat) (h : s.size ≤ k) : s.data.toList.take k = s.data.toList := by
  refine List.take_of_length_le ?_
  have : s.data.toList.length = s.size := by simp
  omega
theorem and_1 (x : Int) (h0 : 0 ≤ x) (h1 : x < 256) : bits .and .u8 x 1 = x % 2 := bits_mask .u8 8 (by decide) wraps_u8 1 (by decide) x h0 h1
theorem Bld.fresh (w : World) : Bld w.heap.size w.heap.size [] (w.alloc (.cells #[.pointer none, .slice none 0 0] 53)) := Lib.fresh_isBuilder 53 5 w

set_option maxHeartbeats 4000000 in
theorem digitsOf4 (s : ByteArray) (w : World) (h : s.size ≤ 4096) :
    Calls Try.prog 55 #[.string s, .int .i64 4] w fun e w' => e = .returned (.string ⟨(digits4 s.data.toList).toArray⟩) ∧ Below w.heap.size w w' := by
  have h4 : ¬ 4096 < s.size := by omega
  have hm1 : IntKind.u8.wrap 16 = 16 := by decide
  have hm2 : IntKind.u8.wrap (16 - 1) = 15 := by decide
  have hm3 : IntKind.u8.wrap 15 = 15 := by decide
  go_enter Try.func55, Try.ntmps55
  go_wp2
  go_loopw [6, 7, 13] (fun _ _ i wr => ∃ k : Nat, k ≤ s.size ∧ i = .int .i64 k ∧ (∃ l : List UInt8, Hid (l = digits4 (s.data.toList.take k)) ∧ l.length = 2 * k ∧ Bld w.heap.size w.heap.size l wr) ∧ Below w.heap.size w wr) (fun _ _ i _ => s.size - (intOf i).toNat)
  case atStart => exact ⟨0, Nat.zero_le _, rfl, ⟨[], by unfold Hid; rfl, rfl, Bld.fresh w⟩, (Below.refl _ _).alloc (Nat.le_refl _) _⟩
  case round =>
    obtain ⟨k, hk, rfl, ⟨l, hL, hl, hB0⟩, hb0⟩ := hrel
    have HL := Lib.hid hl; clear hl
    have hsz0 := hb0.size
    by_cases hlt : k < s.size
    · have hx := s[k].toNat_lt
      have e1 : (k : Int) < s.size := by omega
      have HTS := Lib.hid (take_snocB s k hlt)
      have hl0 : l.length < 1000000 := by have := HL.out; omega
      obtain ⟨n0, hn0⟩ : ∃ n, s[k].toNat / 16 % 16 = n := ⟨_, rfl⟩
      have hb100 : n0 < 16 := by omega
      have ha0 : bits .and .u8 ((s[k].toNat : Int) / 16) 15 = (n0 : Int) := by rw [u8_and15 _ (by omega) (by omega)]; omega
      have hbi0 : (n0 : Int) < 16 := by omega
      have hd0 := hexd_at hb100
      have HN0 := Lib.hid hn0; clear hn0
      have bd0 := byte_bd (hexd n0)
      obtain ⟨n1, hn1⟩ : ∃ n, s[k].toNat / 1 % 16 = n := ⟨_, rfl⟩
      have hb101 : n1 < 16 := by omega
      have ha1 : bits .and .u8 ((s[k].toNat : Int)) 15 = (n1 : Int) := by rw [u8_and15 _ (by omega) (by omega)]; omega
      have ha1b : bits .and .u8 ((s[k].toNat : Int) / 1) 15 = (n1 : Int) := by rw [u8_and15 _ (by omega) (by omega)]; omega
      have hbi1 : (n1 : Int) < 16 := by omega
      have hd1 := hexd_at hb101
      have HN1 := Lib.hid hn1; clear hn1
      have bd1 := byte_bd (hexd n1)
      go_wp2
      refine wp_loop_rounds 3 ?_
      rw [rounds_succ]
      go_wp2
      go_still_tail 10, (by kernel_rfl)
      change wpList _ _ _ _ _ wr.drew
      go_wp2_with (go_at_call 70; refine (writeByte_any w.heap.size w.heap.size (l) ((hexd n0).toNat : Int) _ bd0.1 bd0.2 hB0.drew (by first | omega | (simp; omega)) hsz0).mono ?_; rintro e wr1 ⟨rfl, hB1', hbw1⟩)
      rw [byte_back] at hB1'
      have hB1 : Bld w.heap.size w.heap.size (l ++ [hexd n0]) wr1 := hB1'; clear hB1'
      have hb1 := hb0.drew.trans hbw1; clear hbw1
      have hsz1 := hb1.size
      rw [rounds_succ]
      go_wp2
      go_still_tail 10, (by kernel_rfl)
      change wpList _ _ _ _ _ wr1.drew
      go_wp2_with (go_at_call 70; refine (writeByte_any w.heap.size w.heap.size (l ++ [hexd n0]) ((hexd n1).toNat : Int) _ bd1.1 bd1.2 hB1.drew (by first | omega | (simp; omega)) hsz1).mono ?_; rintro e wr2 ⟨rfl, hB2', hbw2⟩)
      rw [byte_back] at hB2'
      have hB2 : Bld w.heap.size w.heap.size (l ++ [hexd n0] ++ [hexd n1]) wr2 := hB2'; clear hB2'
      have hb2 := hb1.drew.trans hbw2; clear hbw2
      have hsz2 := hb2.size
      rw [rounds_succ]
      go_wp2
      go_roundw
      case rel =>
        refine ⟨k + 1, by omega, by go_num, ⟨l ++ [hexd n0] ++ [hexd n1], ?_, ?_, hB2⟩, hb2⟩
        · unfold Hid; rw [HTS.out, digits4_snoc, ← hL.out]; simp only [digs4, List.append_assoc, List.cons_append, List.nil_append, HN0.out, HN1.out]
        · have := HL.out; simp; omega
      case measure => simp [intOf]; omega
    · go_wp2_with (go_at_call 38; refine (Try.Builder_String_any w.heap.size w.heap.size l _ hB0 hsz0).mono ?_; rintro e w1 ⟨rfl, hb1⟩)
      go_ret
      refine ⟨?_, hb0.trans hb1⟩
      rw [hL.out, take_geB s k (by omega)]
      rfl

set_option maxHeartbeats 4000000 in
theorem digitsOf1 (s : ByteArray) (w : World) (h : s.size ≤ 4096) :
    Calls Try.prog 55 #[.string s, .int .i64 1] w fun e w' => e = .returned (.string ⟨(digits1 s.data.toList).toArray⟩) ∧ Below w.heap.size w w' := by
  have h4 : ¬ 4096 < s.size := by omega
  have hm1 : IntKind.u8.wrap 2 = 2 := by decide
  have hm2 : IntKind.u8.wrap (2 - 1) = 1 := by decide
  have hm3 : IntKind.u8.wrap 1 = 1 := by decide
  go_enter Try.func55, Try.ntmps55
  go_wp2
  go_loopw [6, 7, 13] (fun _ _ i wr => ∃ k : Nat, k ≤ s.size ∧ i = .int .i64 k ∧ (∃ l : List UInt8, Hid (l = digits1 (s.data.toList.take k)) ∧ l.length = 8 * k ∧ Bld w.heap.size w.heap.size l wr) ∧ Below w.heap.size w wr) (fun _ _ i _ => s.size - (intOf i).toNat)
  case atStart => exact ⟨0, Nat.zero_le _, rfl, ⟨[], by unfold Hid; rfl, rfl, Bld.fresh w⟩, (Below.refl _ _).alloc (Nat.le_refl _) _⟩
  case round =>
    obtain ⟨k, hk, rfl, ⟨l, hL, hl, hB0⟩, hb0⟩ := hrel
    have HL := Lib.hid hl; clear hl
    have hsz0 := hb0.size
    by_cases hlt : k < s.size
    · have hx := s[k].toNat_lt
      have e1 : (k : Int) < s.size := by omega
      have HTS := Lib.hid (take_snocB s k hlt)
      have hl0 : l.length < 1000000 := by have := HL.out; omega
      obtain ⟨n0, hn0⟩ : ∃ n, s[k].toNat / 128 % 2 = n := ⟨_, rfl⟩
      have hb100 : n0 < 16 := by omega
      have ha0 : bits .and .u8 ((s[k].toNat : Int) / 128) 1 = (n0 : Int) := by rw [and_1 _ (by omega) (by omega)]; omega
      have hbi0 : (n0 : Int) < 16 := by omega
      have hd0 := hexd_at hb100
      have HN0 := Lib.hid hn0; clear hn0
      have bd0 := byte_bd (hexd n0)
      obtain ⟨n1, hn1⟩ : ∃ n, s[k].toNat / 64 % 2 = n := ⟨_, rfl⟩
      have hb101 : n1 < 16 := by omega
      have ha1 : bits .and .u8 ((s[k].toNat : Int) / 64) 1 = (n1 : Int) := by rw [and_1 _ (by omega) (by omega)]; omega
      have hbi1 : (n1 : Int) < 16 := by omega
      have hd1 := hexd_at hb101
      have HN1 := Lib.hid hn1; clear hn1
      have bd1 := byte_bd (hexd n1)
      obtain ⟨n2, hn2⟩ : ∃ n, s[k].toNat / 32 % 2 = n := ⟨_, rfl⟩
      have hb102 : n2 < 16 := by omega
      have ha2 : bits .and .u8 ((s[k].toNat : Int) / 32) 1 = (n2 : Int) := by rw [and_1 _ (by omega) (by omega)]; omega
      have hbi2 : (n2 : Int) < 16 := by omega
      have hd2 := hexd_at hb102
      have HN2 := Lib.hid hn2; clear hn2
      have bd2 := byte_bd (hexd n2)
      obtain ⟨n3, hn3⟩ : ∃ n, s[k].toNat / 16 % 2 = n := ⟨_, rfl⟩
      have hb103 : n3 < 16 := by omega
      have ha3 : bits .and .u8 ((s[k].toNat : Int) / 16) 1 = (n3 : Int) := by rw [and_1 _ (by omega) (by omega)]; omega
      have hbi3 : (n3 : Int) < 16 := by omega
      have hd3 := hexd_at hb103
      have HN3 := Lib.hid hn3; clear hn3
      have bd3 := byte_bd (hexd n3)
      obtain ⟨n4, hn4⟩ : ∃ n, s[k].toNat / 8 % 2 = n := ⟨_, rfl⟩
      have hb104 : n4 < 16 := by omega
      have ha4 : bits .and .u8 ((s[k].toNat : Int) / 8) 1 = (n4 : Int) := by rw [and_1 _ (by omega) (by omega)]; omega
      have hbi4 : (n4 : Int) < 16 := by omega
      have hd4 := hexd_at hb104
      have HN4 := Lib.hid hn4; clear hn4
      have bd4 := byte_bd (hexd n4)
      obtain ⟨n5, hn5⟩ : ∃ n, s[k].toNat / 4 % 2 = n := ⟨_, rfl⟩
      have hb105 : n5 < 16 := by omega
      have ha5 : bits .and .u8 ((s[k].toNat : Int) / 4) 1 = (n5 : Int) := by rw [and_1 _ (by omega) (by omega)]; omega
      have hbi5 : (n5 : Int) < 16 := by omega
      have hd5 := hexd_at hb105
      have HN5 := Lib.hid hn5; clear hn5
      have bd5 := byte_bd (hexd n5)
      obtain ⟨n6, hn6⟩ : ∃ n, s[k].toNat / 2 % 2 = n := ⟨_, rfl⟩
      have hb106 : n6 < 16 := by omega
      have ha6 : bits .and .u8 ((s[k].toNat : Int) / 2) 1 = (n6 : Int) := by rw [and_1 _ (by omega) (by omega)]; omega
      have hbi6 : (n6 : Int) < 16 := by omega
      have hd6 := hexd_at hb106
      have HN6 := Lib.hid hn6; clear hn6
      have bd6 := byte_bd (hexd n6)
      obtain ⟨n7, hn7⟩ : ∃ n, s[k].toNat / 1 % 2 = n := ⟨_, rfl⟩
      have hb107 : n7 < 16 := by omega
      have ha7 : bits .and .u8 ((s[k].toNat : Int)) 1 = (n7 : Int) := by rw [and_1 _ (by omega) (by omega)]; omega
      have ha7b : bits .and .u8 ((s[k].toNat : Int) / 1) 1 = (n7 : Int) := by rw [and_1 _ (by omega) (by omega)]; omega
      have hbi7 : (n7 : Int) < 16 := by omega
      have hd7 := hexd_at hb107
      have HN7 := Lib.hid hn7; clear hn7
      have bd7 := byte_bd (hexd n7)
      go_wp2
      refine wp_loop_rounds 9 ?_
      rw [rounds_succ]
      go_wp2
      go_still_tail 10, (by kernel_rfl)
      change wpList _ _ _ _ _ wr.drew
      go_wp2_with (go_at_call 70; refine (writeByte_any w.heap.size w.heap.size (l) ((hexd n0).toNat : Int) _ bd0.1 bd0.2 hB0.drew (by first | omega | (simp; omega)) hsz0).mono ?_; rintro e wr1 ⟨rfl, hB1', hbw1⟩)
      rw [byte_back] at hB1'
      have hB1 : Bld w.heap.size w.heap.size (l ++ [hexd n0]) wr1 := hB1'; clear hB1'
      have hb1 := hb0.drew.trans hbw1; clear hbw1
      have hsz1 := hb1.size
      rw [rounds_succ]
      go_wp2
      go_still_tail 10, (by kernel_rfl)
      change wpList _ _ _ _ _ wr1.drew
      go_wp2_with (go_at_call 70; refine (writeByte_any w.heap.size w.heap.size (l ++ [hexd n0]) ((hexd n1).toNat : Int) _ bd1.1 bd1.2 hB1.drew (by first | omega | (simp; omega)) hsz1).mono ?_; rintro e wr2 ⟨rfl, hB2', hbw2⟩)
      rw [byte_back] at hB2'
      have hB2 : Bld w.heap.size w.heap.size (l ++ [hexd n0] ++ [hexd n1]) wr2 := hB2'; clear hB2'
      have hb2 := hb1.drew.trans hbw2; clear hbw2
      have hsz2 := hb2.size
      rw [rounds_succ]
      go_wp2
      go_still_tail 10, (by kernel_rfl)
      change wpList _ _ _ _ _ wr2.drew
      go_wp2_with (go_at_call 70; refine (writeByte_any w.heap.size w.heap.size (l ++ [hexd n0] ++ [hexd n1]) ((hexd n2).toNat : Int) _ bd2.1 bd2.2 hB2.drew (by first | omega | (simp; omega)) hsz2).mono ?_; rintro e wr3 ⟨rfl, hB3', hbw3⟩)
      rw [byte_back] at hB3'
      have hB3 : Bld w.heap.size w.heap.size (l ++ [hexd n0] ++ [hexd n1] ++ [hexd n2]) wr3 := hB3'; clear hB3'
      have hb3 := hb2.drew.trans hbw3; clear hbw3
      have hsz3 := hb3.size
      rw [rounds_succ]
      go_wp2
      go_still_tail 10, (by kernel_rfl)
      change wpList _ _ _ _ _ wr3.drew
      go_wp2_with (go_at_call 70; refine (writeByte_any w.heap.size w.heap.size (l ++ [hexd n0] ++ [hexd n1] ++ [hexd n2]) ((hexd n3).toNat : Int) _ bd3.1 bd3.2 hB3.drew (by first | omega | (simp; omega)) hsz3).mono ?_; rintro e wr4 ⟨rfl, hB4', hbw4⟩)
      rw [byte_back] at hB4'
      have hB4 : Bld w.heap.size w.heap.size (l ++ [hexd n0] ++ [hexd n1] ++ [hexd n2] ++ [hexd n3]) wr4 := hB4'; clear hB4'
      have hb4 := hb3.drew.trans hbw4; clear hbw4
      have hsz4 := hb4.size
      rw [rounds_succ]
      go_wp2
      go_still_tail 10, (by kernel_rfl)
      change wpList _ _ _ _ _ wr4.drew
      go_wp2_with (go_at_call 70; refine (writeByte_any w.heap.size w.heap.size (l ++ [hexd n0] ++ [hexd n1] ++ [hexd n2] ++ [hexd n3]) ((hexd n4).toNat : Int) _ bd4.1 bd4.2 hB4.drew (by first | omega | (simp; omega)) hsz4).mono ?_; rintro e wr5 ⟨rfl, hB5', hbw5⟩)
      rw [byte_back] at hB5'
      have hB5 : Bld w.heap.size w.heap.size (l ++ [hexd n0] ++ [hexd n1] ++ [hexd n2] ++ [hexd n3] ++ [hexd n4]) wr5 := hB5'; clear hB5'
      have hb5 := hb4.drew.trans hbw5; clear hbw5
      have hsz5 := hb5.size
      rw [rounds_succ]
      go_wp2
      go_still_tail 10, (by kernel_rfl)
      change wpList _ _ _ _ _ wr5.drew
      go_wp2_with (go_at_call 70; refine (writeByte_any w.heap.size w.heap.size (l ++ [hexd n0] ++ [hexd n1] ++ [hexd n2] ++ [hexd n3] ++ [hexd n4]) ((hexd n5).toNat : Int) _ bd5.1 bd5.2 hB5.drew (by first | omega | (simp; omega)) hsz5).mono ?_; rintro e wr6 ⟨rfl, hB6', hbw6⟩)
      rw [byte_back] at hB6'
      have hB6 : Bld w.heap.size w.heap.size (l ++ [hexd n0] ++ [hexd n1] ++ [hexd n2] ++ [hexd n3] ++ [hexd n4] ++ [hexd n5]) wr6 := hB6'; clear hB6'
      have hb6 := hb5.drew.trans hbw6; clear hbw6
      have hsz6 := hb6.size
      rw [rounds_succ]
      go_wp2
      go_still_tail 10, (by kernel_rfl)
      change wpList _ _ _ _ _ wr6.drew
      go_wp2_with (go_at_call 70; refine (writeByte_any w.heap.size w.heap.size (l ++ [hexd n0] ++ [hexd n1] ++ [hexd n2] ++ [hexd n3] ++ [hexd n4] ++ [hexd n5]) ((hexd n6).toNat : Int) _ bd6.1 bd6.2 hB6.drew (by first | omega | (simp; omega)) hsz6).mono ?_; rintro e wr7 ⟨rfl, hB7', hbw7⟩)
      rw [byte_back] at hB7'
      have hB7 : Bld w.heap.size w.heap.size (l ++ [hexd n0] ++ [hexd n1] ++ [hexd n2] ++ [hexd n3] ++ [hexd n4] ++ [hexd n5] ++ [hexd n6]) wr7 := hB7'; clear hB7'
      have hb7 := hb6.drew.trans hbw7; clear hbw7
      have hsz7 := hb7.size
      rw [rounds_succ]
      go_wp2
      go_still_tail 10, (by kernel_rfl)
      change wpList _ _ _ _ _ wr7.drew
      go_wp2_with (go_at_call 70; refine (writeByte_any w.heap.size w.heap.size (l ++ [hexd n0] ++ [hexd n1] ++ [hexd n2] ++ [hexd n3] ++ [hexd n4] ++ [hexd n5] ++ [hexd n6]) ((hexd n7).toNat : Int) _ bd7.1 bd7.2 hB7.drew (by first | omega | (simp; omega)) hsz7).mono ?_; rintro e wr8 ⟨rfl, hB8', hbw8⟩)
      rw [byte_back] at hB8'
      have hB8 : Bld w.heap.size w.heap.size (l ++ [hexd n0] ++ [hexd n1] ++ [hexd n2] ++ [hexd n3] ++ [hexd n4] ++ [hexd n5] ++ [hexd n6] ++ [hexd n7]) wr8 := hB8'; clear hB8'
      have hb8 := hb7.drew.trans hbw8; clear hbw8
      have hsz8 := hb8.size
      rw [rounds_succ]
      go_wp2
      go_roundw
      case rel =>
        refine ⟨k + 1, by omega, by go_num, ⟨l ++ [hexd n0] ++ [hexd n1] ++ [hexd n2] ++ [hexd n3] ++ [hexd n4] ++ [hexd n5] ++ [hexd n6] ++ [hexd n7], ?_, ?_, hB8⟩, hb8⟩
        · unfold Hid; rw [HTS.out, digits1_snoc, ← hL.out]; simp only [digs1, List.append_assoc, List.cons_append, List.nil_append, HN0.out, HN1.out, HN2.out, HN3.out, HN4.out, HN5.out, HN6.out, HN7.out]
        · have := HL.out; simp; omega
      case measure => simp [intOf]; omega
    · go_wp2_with (go_at_call 38; refine (Try.Builder_String_any w.heap.size w.heap.size l _ hB0 hsz0).mono ?_; rintro e w1 ⟨rfl, hb1⟩)
      go_ret
      refine ⟨?_, hb0.trans hb1⟩
      rw [hL.out, take_geB s k (by omega)]
      rfl

set_option maxHeartbeats 400000 in
theorem digitsOf_big (s : ByteArray) (n : Int) (w : World) (h : 4096 < s.size) :
    Calls Try.prog 55 #[.string s, .int .i64 n] w fun e w' => e = .returned (.string ⟨#[]⟩) ∧ Below w.heap.size w w' := by
  go_enter Try.func55, Try.ntmps55
  go_wp2
  go_ret
  exact ⟨rfl, Below.refl _ _⟩
end Go.Proofs.Ytlgpkmgfcnhigaa
