/- spec.l01Hex, spec.l01Bits and the functions over them, by wip/tools/gen_specdigits.py -/
import Derived.Test.YtlgpkmgfcnhigaaDigitsOf
namespace Go.Proofs.Ytlgpkmgfcnhigaa
open Go.RowKit
set_option linter.unusedVariables false
theorem hexd_bit {n : Nat} (h : n < 2) : ((48 : Int) + n).toNat.toUInt8 = hexd n := by
  have : n = 0 ∨ n = 1 := by omega
  rcases this with rfl | rfl <;> rfl
set_option maxHeartbeats 2000000 in
theorem l01Hex_any (s : ByteArray) (w : World) (h : s.size ≤ 1048576) :
    Calls Try.prog 52 #[.string s] w fun e w' => e = .returned (.string ⟨(digits4 s.data.toList).toArray⟩) ∧ Below w.heap.size w w' := by
  go_enter Try.func52, Try.ntmps52
  go_wp2
  go_loopw [4, 5] (fun v i wr => ∃ k : Nat, k ≤ s.size ∧ i = .int .i64 k ∧ (∃ l : List UInt8, Hid (l = digits4 (s.data.toList.take k)) ∧ l.length = 2 * k ∧ OwnB wr w.heap.size v l) ∧ Below w.heap.size w wr) (fun _ i _ => s.size - (intOf i).toNat)
  case atStart => exact ⟨0, Nat.zero_le _, rfl, ⟨[], by unfold Hid; rfl, rfl, OwnB.nil w _ (Nat.le_refl _)⟩, (Below.refl _ _).alloc (Nat.le_refl _) _⟩
  case round =>
    obtain ⟨k, hk, rfl, ⟨l, hL, hl, hown⟩, hb⟩ := hrel
    have hll : l.length + 2 < 2147483648 := by omega
    have HL := Lib.hid hl; clear hl
    have hsz := hb.size
    by_cases hlt : k < s.size
    · have hx := s[k].toNat_lt
      have e1 : (k : Int) < s.size := by omega
      have HTS := Lib.hid (take_snocB s k hlt)
      obtain ⟨n0, hn0⟩ : ∃ n, s[k].toNat / 16 % 16 = n := ⟨_, rfl⟩
      obtain ⟨n1, hn1⟩ : ∃ n, s[k].toNat / 1 % 16 = n := ⟨_, rfl⟩
      have hb100 : n0 < 16 := by omega
      have hb101 : n1 < 16 := by omega
      have hbi0 : (n0 : Int) < 16 := by omega
      have hbi1 : (n1 : Int) < 16 := by omega
      have hq0 : (s[k].toNat : Int) / 16 = (n0 : Int) := by omega
      have hq1 : bits .and .u8 (s[k].toNat : Int) 15 = (n1 : Int) := by rw [u8_and15 _ (by omega) (by omega)]; omega
      have hd0 := hexd_at hb100
      have hd1 := hexd_at hb101
      have HN0 := Lib.hid hn0; clear hn0
      have HN1 := Lib.hid hn1; clear hn1
      go_wp2
      go_region_held3 (fun _ => True) (first | trivial | go_keep)
        ((refine step_appendBs (by rfl) _ _ (by rfl) (by rfl) ((hown.alloc _).drew) [hexd n0, hexd n1] (Nat.zero_lt_succ 1) ⟨wr.heap.size, 0, none⟩ 2 (by rfl) (World.news_of_block (cs := #[.int .u8 ((hexd n0).toNat : Int), .int .u8 ((hexd n1).toNat : Int)]) (t := 5) (fr := (0, 0)) (heap_alloc_new wr _)) hll (by simp; omega) ?_; intro g cap w1 hown1 hgrow hb1 hat))
      all_goals
        have hb2 := ((hb.alloc hsz (Obj.cells #[.int .u8 ((hexd n0).toNat : Int), .int .u8 ((hexd n1).toNat : Int)] 5)).drew).trans hb1
        clear hgrow hb1 hat
        go_wp2
        go_roundw
        case rel =>
          refine ⟨k + 1, by omega, by go_num, ⟨l ++ [hexd n0, hexd n1], ?_, ?_, hown1⟩, hb2⟩
          · unfold Hid; rw [HTS.out, digits4_snoc, ← hL.out]; simp only [digs4, HN0.out, HN1.out]
          · have := HL.out; simp; omega
        case measure => simp [intOf]; omega
    · have hcv := conv_own hown
      go_wp2
      go_ret
      refine ⟨?_, hb⟩
      rw [hL.out, take_geB s k (by omega)]
      rfl
def hexTextS (s : ByteArray) : ByteArray := if 4096 < s.size then ⟨#[]⟩ else ⟨(digits4 s.data.toList).toArray⟩
theorem hexTextS_big {s : ByteArray} (h : 4096 < s.size) : hexTextS s = ⟨#[]⟩ := by unfold hexTextS; rw [if_pos h]
theorem hexTextS_ok {s : ByteArray} (h : ¬ 4096 < s.size) : hexTextS s = ⟨(digits4 s.data.toList).toArray⟩ := by unfold hexTextS; rw [if_neg h]
set_option maxHeartbeats 400000 in
theorem hexText_any (s : ByteArray) (w : World) (h : s.size ≤ 1048576) :
    Calls Try.prog 36 #[.string s] w fun e w' => e = .returned (.string (hexTextS s)) ∧ Below w.heap.size w w' := by
  have hc : ∀ w, Calls Try.prog 55 #[.string s, .int .i64 4] w fun e w' => e = .returned (.string (hexTextS s)) ∧ Below w.heap.size w w' := by
    intro w
    by_cases hb : 4096 < s.size
    · rw [hexTextS_big hb]; exact digitsOf_big s 4 w hb
    · rw [hexTextS_ok hb]; exact digitsOf4 s w (by omega)
  have HC := Lib.hid hc; clear hc
  go_enter Try.func36, Try.ntmps36
  go_wp2_with (go_at_call 55; refine (HC.out _).mono ?_; rintro e w1 ⟨rfl, hb⟩)
  go_ret
  exact ⟨rfl, hb⟩
def bitsOfS (s : ByteArray) : ByteArray := if 4096 < s.size then ⟨#[]⟩ else ⟨(digits1 s.data.toList).toArray⟩
theorem bitsOfS_big {s : ByteArray} (h : 4096 < s.size) : bitsOfS s = ⟨#[]⟩ := by unfold bitsOfS; rw [if_pos h]
theorem bitsOfS_ok {s : ByteArray} (h : ¬ 4096 < s.size) : bitsOfS s = ⟨(digits1 s.data.toList).toArray⟩ := by unfold bitsOfS; rw [if_neg h]
end Go.Proofs.Ytlgpkmgfcnhigaa
