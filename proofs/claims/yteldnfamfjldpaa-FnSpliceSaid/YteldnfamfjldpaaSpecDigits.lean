/- spec.l01Hex, spec.l01Bits and the functions over them, by wip/tools/gen_specdigits.py -/
import Derived.Test.YteldnfamfjldpaaDigitsOf
namespace Go.Proofs.Yteldnfamfjldpaa
open Go.RowKit
set_option linter.unusedVariables false
theorem hexd_bit {n : Nat} (h : n < 2) : ((48 : Int) + n).toNat.toUInt8 = hexd n := by
  have : n = 0 ∨ n = 1 := by omega
  rcases this with rfl | rfl <;> rfl
set_option maxHeartbeats 2000000 in
theorem l01Hex_any (s : ByteArray) (w : World) (h : s.size ≤ 1048576) :
    Calls Try.prog 38 #[.string s] w fun e w' => e = .returned (.string ⟨(digits4 s.data.toList).toArray⟩) ∧ Below w.heap.size w w' := by
  go_enter Try.func38, Try.ntmps38
  go_wp2
  go_loopw [4, 5] (fun v i wr => ∃ k : Nat, k ≤ s.size ∧ i = .int .i64 k ∧ (∃ l : List UInt8, Hid (l = digits4 (s.data.toList.take k)) ∧ l.length = 2 * k ∧ OwnB wr w.heap.size v l) ∧ Below w.heap.size w wr) (fun _ i _ => s.size - (intOf i).toNat)
  case atStart => exact ⟨0, Nat.zero_le _, rfl, ⟨[], by unfold Hid; rfl, rfl, OwnB.nil w _ (Nat.le_refl _)⟩, (Below.refl _ _).alloc (Nat.le_refl _) _⟩
  case round =>
    obtain ⟨k, hk, rfl, ⟨l, hL, hl, hown⟩, hb⟩ := hrel
    have hll : l.length + 2 < 2147483648 := by omega
    have HL := Lib.hid hl; clear hl
    have hsz := hb.size
    by_cases hlt : k < s.size
    · have hx := s[k].toNat_lt
      have e1 : (k : Int) < s.size := by omega
      have HTS := Lib.hid (take_snocB s k hlt)
      obtain ⟨n0, hn0⟩ : ∃ n, s[k].toNat / 16 % 16 = n := ⟨_, rfl⟩
      obtain ⟨n1, hn1⟩ : ∃ n, s[k].toNat / 1 % 16 = n := ⟨_, rfl⟩
      have hb100 : n0 < 16 := by omega
      have hb101 : n1 < 16 := by omega
      have hbi0 : (n0 : Int) < 16 := by omega
      have hbi1 : (n1 : Int) < 16 := by omega
      have hq0 : (s[k].toNat : Int) / 16 = (n0 : Int) := by omega
      have hq1 : bits .and .u8 (s[k].toNat : Int) 15 = (n1 : Int) := by rw [u8_and15 _ (by omega) (by omega)]; omega
      have hd0 := hexd_at hb100
      have hd1 := hexd_at hb101
      have HN0 := Lib.hid hn0; clear hn0
      have HN1 := Lib.hid hn1; clear hn1
      go_wp2
      go_region_held3 (fun _ => True) (first | trivial | go_keep)
        ((refine step_appendBs (by rfl) _ _ (by rfl) (by rfl) ((hown.alloc _).drew) [hexd n0, hexd n1] (Nat.zero_lt_succ 1) ⟨wr.heap.size, 0, none⟩ 2 (by rfl) (World.news_of_block (cs := #[.int .u8 ((hexd n0).toNat : Int), .int .u8 ((hexd n1).toNat : Int)]) (t := 5) (fr := (0, 0)) (heap_alloc_new wr _)) hll (by simp; omega) ?_; intro g cap w1 hown1 hgrow hb1 hat))
      all_goals
        have hb2 := ((hb.alloc hsz (Obj.cells #[.int .u8 ((hexd n0).toNat : Int), .int .u8 ((hexd n1).toNat : Int)] 5)).drew).trans hb1
        clear hgrow hb1 hat
        go_wp2
        go_roundw
        case rel =>
          refine ⟨k + 1, by omega, by go_num, ⟨l ++ [hexd n0, hexd n1], ?_, ?_, hown1⟩, hb2⟩
          · unfold Hid; rw [HTS.out, digits4_snoc, ← hL.out]; simp only [digs4, HN0.out, HN1.out]
          · have := HL.out; simp; omega
        case measure => simp [intOf]; omega
    · have hcv := conv_own hown
      go_wp2
      go_ret
      refine ⟨?_, hb⟩
      rw [hL.out, take_geB s k (by omega)]
      rfl
set_option maxHeartbeats 4000000 in
theorem l01Bits_any (s : ByteArray) (w : World) (h : s.size ≤ 1048576) :
    Calls Try.prog 40 #[.string s] w fun e w' => e = .returned (.string ⟨(digits1 s.data.toList).toArray⟩) ∧ Below w.heap.size w w' := by
  go_enter Try.func40, Try.ntmps40
  go_wp2
  go_loopw [3, 4, 5] (fun v i _ wr => ∃ k : Nat, k ≤ s.size ∧ i = .int .i64 k ∧ (∃ l : List UInt8, Hid (l = digits1 (s.data.toList.take k)) ∧ l.length = 8 * k ∧ OwnB wr w.heap.size v l) ∧ Below w.heap.size w wr) (fun _ i _ _ => s.size - (intOf i).toNat)
  case atStart => exact ⟨0, Nat.zero_le _, rfl, ⟨[], by unfold Hid; rfl, rfl, OwnB.nil w _ (Nat.le_refl _)⟩, (Below.refl _ _).alloc (Nat.le_refl _) _⟩
  case round =>
    obtain ⟨k, hk, rfl, ⟨l, hL, hl, hown0⟩, hb0⟩ := hrel
    have hll : l.length + 8 < 2147483648 := by omega
    have HL := Lib.hid hl; clear hl
    have hsz0 := hb0.size
    by_cases hlt : k < s.size
    · have hx := s[k].toNat_lt
      have e1 : (k : Int) < s.size := by omega
      have HTS := Lib.hid (take_snocB s k hlt)
      obtain ⟨n0, hn0⟩ : ∃ n, s[k].toNat / 128 % 2 = n := ⟨_, rfl⟩
      have hb100 : n0 < 2 := by omega
      have ha0 : bits .and .u8 ((s[k].toNat : Int) / 128) 1 = (n0 : Int) := by rw [and_1 _ (by omega) (by omega)]; omega
      have HN0 := Lib.hid hn0; clear hn0
      obtain ⟨n1, hn1⟩ : ∃ n, s[k].toNat / 64 % 2 = n := ⟨_, rfl⟩
      have hb101 : n1 < 2 := by omega
      have ha1 : bits .and .u8 ((s[k].toNat : Int) / 64) 1 = (n1 : Int) := by rw [and_1 _ (by omega) (by omega)]; omega
      have HN1 := Lib.hid hn1; clear hn1
      obtain ⟨n2, hn2⟩ : ∃ n, s[k].toNat / 32 % 2 = n := ⟨_, rfl⟩
      have hb102 : n2 < 2 := by omega
      have ha2 : bits .and .u8 ((s[k].toNat : Int) / 32) 1 = (n2 : Int) := by rw [and_1 _ (by omega) (by omega)]; omega
      have HN2 := Lib.hid hn2; clear hn2
      obtain ⟨n3, hn3⟩ : ∃ n, s[k].toNat / 16 % 2 = n := ⟨_, rfl⟩
      have hb103 : n3 < 2 := by omega
      have ha3 : bits .and .u8 ((s[k].toNat : Int) / 16) 1 = (n3 : Int) := by rw [and_1 _ (by omega) (by omega)]; omega
      have HN3 := Lib.hid hn3; clear hn3
      obtain ⟨n4, hn4⟩ : ∃ n, s[k].toNat / 8 % 2 = n := ⟨_, rfl⟩
      have hb104 : n4 < 2 := by omega
      have ha4 : bits .and .u8 ((s[k].toNat : Int) / 8) 1 = (n4 : Int) := by rw [and_1 _ (by omega) (by omega)]; omega
      have HN4 := Lib.hid hn4; clear hn4
      obtain ⟨n5, hn5⟩ : ∃ n, s[k].toNat / 4 % 2 = n := ⟨_, rfl⟩
      have hb105 : n5 < 2 := by omega
      have ha5 : bits .and .u8 ((s[k].toNat : Int) / 4) 1 = (n5 : Int) := by rw [and_1 _ (by omega) (by omega)]; omega
      have HN5 := Lib.hid hn5; clear hn5
      obtain ⟨n6, hn6⟩ : ∃ n, s[k].toNat / 2 % 2 = n := ⟨_, rfl⟩
      have hb106 : n6 < 2 := by omega
      have ha6 : bits .and .u8 ((s[k].toNat : Int) / 2) 1 = (n6 : Int) := by rw [and_1 _ (by omega) (by omega)]; omega
      have HN6 := Lib.hid hn6; clear hn6
      obtain ⟨n7, hn7⟩ : ∃ n, s[k].toNat / 1 % 2 = n := ⟨_, rfl⟩
      have hb107 : n7 < 2 := by omega
      have ha7 : bits .and .u8 ((s[k].toNat : Int)) 1 = (n7 : Int) := by rw [and_1 _ (by omega) (by omega)]; omega
      have ha7b : bits .and .u8 ((s[k].toNat : Int) / 1) 1 = (n7 : Int) := by rw [and_1 _ (by omega) (by omega)]; omega
      have HN7 := Lib.hid hn7; clear hn7
      go_wp2
      refine wp_loop_rounds 9 ?_
      rw [rounds_succ]
      go_wp2_with (at_builtin; refine wpList_appendB rfl _ _ rfl rfl (hown0.alloc _) (48 + (n0 : Int)) (by omega) (by omega) ⟨wr.heap.size, 0, none⟩ 1 rfl (World.news_of_block (cs := #[.int .u8 (48 + (n0 : Int))]) (t := 5) (fr := (0, 0)) (heap_alloc_new wr _)) (by first | omega | (simp; omega)) (by simp; omega) ?_; intro g1 cap1 wr1 hown1' hgrow hbw hat)
      rw [hexd_bit hb100] at hown1'
      have hown1 := hown1'; clear hown1'
      have hb1 := (hb0.alloc hsz0 _).trans hbw; clear hbw hgrow hat
      have hsz1 := hb1.size
      rw [rounds_succ]
      go_wp2_with (at_builtin; refine wpList_appendB rfl _ _ rfl rfl (hown1.alloc _) (48 + (n1 : Int)) (by omega) (by omega) ⟨wr1.heap.size, 0, none⟩ 1 rfl (World.news_of_block (cs := #[.int .u8 (48 + (n1 : Int))]) (t := 5) (fr := (0, 0)) (heap_alloc_new wr1 _)) (by first | omega | (simp; omega)) (by simp; omega) ?_; intro g2 cap2 wr2 hown2' hgrow hbw hat)
      rw [hexd_bit hb101] at hown2'
      have hown2 := hown2'; clear hown2'
      simp only [List.length_append, List.length_cons, List.length_nil, Nat.zero_add] at hown2
      have hb2 := (hb1.alloc hsz1 _).trans hbw; clear hbw hgrow hat
      have hsz2 := hb2.size
      rw [rounds_succ]
      go_wp2_with (at_builtin; refine wpList_appendB rfl _ _ rfl rfl (hown2.alloc _) (48 + (n2 : Int)) (by omega) (by omega) ⟨wr2.heap.size, 0, none⟩ 1 rfl (World.news_of_block (cs := #[.int .u8 (48 + (n2 : Int))]) (t := 5) (fr := (0, 0)) (heap_alloc_new wr2 _)) (by first | omega | (simp; omega)) (by simp; omega) ?_; intro g3 cap3 wr3 hown3' hgrow hbw hat)
      rw [hexd_bit hb102] at hown3'
      have hown3 := hown3'; clear hown3'
      simp only [List.length_append, List.length_cons, List.length_nil, Nat.zero_add] at hown3
      have hb3 := (hb2.alloc hsz2 _).trans hbw; clear hbw hgrow hat
      have hsz3 := hb3.size
      rw [rounds_succ]
      go_wp2_with (at_builtin; refine wpList_appendB rfl _ _ rfl rfl (hown3.alloc _) (48 + (n3 : Int)) (by omega) (by omega) ⟨wr3.heap.size, 0, none⟩ 1 rfl (World.news_of_block (cs := #[.int .u8 (48 + (n3 : Int))]) (t := 5) (fr := (0, 0)) (heap_alloc_new wr3 _)) (by first | omega | (simp; omega)) (by simp; omega) ?_; intro g4 cap4 wr4 hown4' hgrow hbw hat)
      rw [hexd_bit hb103] at hown4'
      have hown4 := hown4'; clear hown4'
      simp only [List.length_append, List.length_cons, List.length_nil, Nat.zero_add] at hown4
      have hb4 := (hb3.alloc hsz3 _).trans hbw; clear hbw hgrow hat
      have hsz4 := hb4.size
      rw [rounds_succ]
      go_wp2_with (at_builtin; refine wpList_appendB rfl _ _ rfl rfl (hown4.alloc _) (48 + (n4 : Int)) (by omega) (by omega) ⟨wr4.heap.size, 0, none⟩ 1 rfl (World.news_of_block (cs := #[.int .u8 (48 + (n4 : Int))]) (t := 5) (fr := (0, 0)) (heap_alloc_new wr4 _)) (by first | omega | (simp; omega)) (by simp; omega) ?_; intro g5 cap5 wr5 hown5' hgrow hbw hat)
      rw [hexd_bit hb104] at hown5'
      have hown5 := hown5'; clear hown5'
      simp only [List.length_append, List.length_cons, List.length_nil, Nat.zero_add] at hown5
      have hb5 := (hb4.alloc hsz4 _).trans hbw; clear hbw hgrow hat
      have hsz5 := hb5.size
      rw [rounds_succ]
      go_wp2_with (at_builtin; refine wpList_appendB rfl _ _ rfl rfl (hown5.alloc _) (48 + (n5 : Int)) (by omega) (by omega) ⟨wr5.heap.size, 0, none⟩ 1 rfl (World.news_of_block (cs := #[.int .u8 (48 + (n5 : Int))]) (t := 5) (fr := (0, 0)) (heap_alloc_new wr5 _)) (by first | omega | (simp; omega)) (by simp; omega) ?_; intro g6 cap6 wr6 hown6' hgrow hbw hat)
      rw [hexd_bit hb105] at hown6'
      have hown6 := hown6'; clear hown6'
      simp only [List.length_append, List.length_cons, List.length_nil, Nat.zero_add] at hown6
      have hb6 := (hb5.alloc hsz5 _).trans hbw; clear hbw hgrow hat
      have hsz6 := hb6.size
      rw [rounds_succ]
      go_wp2_with (at_builtin; refine wpList_appendB rfl _ _ rfl rfl (hown6.alloc _) (48 + (n6 : Int)) (by omega) (by omega) ⟨wr6.heap.size, 0, none⟩ 1 rfl (World.news_of_block (cs := #[.int .u8 (48 + (n6 : Int))]) (t := 5) (fr := (0, 0)) (heap_alloc_new wr6 _)) (by first | omega | (simp; omega)) (by simp; omega) ?_; intro g7 cap7 wr7 hown7' hgrow hbw hat)
      rw [hexd_bit hb106] at hown7'
      have hown7 := hown7'; clear hown7'
      simp only [List.length_append, List.length_cons, List.length_nil, Nat.zero_add] at hown7
      have hb7 := (hb6.alloc hsz6 _).trans hbw; clear hbw hgrow hat
      have hsz7 := hb7.size
      rw [rounds_succ]
      go_wp2_with (at_builtin; refine wpList_appendB rfl _ _ rfl rfl (hown7.alloc _) (48 + (n7 : Int)) (by omega) (by omega) ⟨wr7.heap.size, 0, none⟩ 1 rfl (World.news_of_block (cs := #[.int .u8 (48 + (n7 : Int))]) (t := 5) (fr := (0, 0)) (heap_alloc_new wr7 _)) (by first | omega | (simp; omega)) (by simp; omega) ?_; intro g8 cap8 wr8 hown8' hgrow hbw hat)
      rw [hexd_bit hb107] at hown8'
      have hown8 := hown8'; clear hown8'
      simp only [List.length_append, List.length_cons, List.length_nil, Nat.zero_add] at hown8
      have hb8 := (hb7.alloc hsz7 _).trans hbw; clear hbw hgrow hat
      have hsz8 := hb8.size
      rw [rounds_succ]
      go_wp2
      go_roundw
      case rel =>
        refine ⟨k + 1, by omega, by go_num, ⟨l ++ [hexd n0] ++ [hexd n1] ++ [hexd n2] ++ [hexd n3] ++ [hexd n4] ++ [hexd n5] ++ [hexd n6] ++ [hexd n7], ?_, ?_, hown8⟩, hb8⟩
        · unfold Hid; rw [HTS.out, digits1_snoc, ← hL.out]; simp only [digs1, List.append_assoc, List.cons_append, List.nil_append, HN0.out, HN1.out, HN2.out, HN3.out, HN4.out, HN5.out, HN6.out, HN7.out]
        · have := HL.out; simp; omega
      case measure => simp [intOf]; omega
    · have hcv := conv_own hown0
      go_wp2
      go_ret
      refine ⟨?_, hb0⟩
      rw [hL.out, take_geB s k (by omega)]
      rfl

def hexTextS (s : ByteArray) : ByteArray := if 4096 < s.size then ⟨#[]⟩ else ⟨(digits4 s.data.toList).toArray⟩
theorem hexTextS_big {s : ByteArray} (h : 4096 < s.size) : hexTextS s = ⟨#[]⟩ := by unfold hexTextS; rw [if_pos h]
theorem hexTextS_ok {s : ByteArray} (h : ¬ 4096 < s.size) : hexTextS s = ⟨(digits4 s.data.toList).toArray⟩ := by unfold hexTextS; rw [if_neg h]
set_option maxHeartbeats 400000 in
theorem hexText_any (s : ByteArray) (w : World) (h : s.size ≤ 1048576) :
    Calls Try.prog 15 #[.string s] w fun e w' => e = .returned (.string (hexTextS s)) ∧ Below w.heap.size w w' := by
  have hc : ∀ w, Calls Try.prog 30 #[.string s, .int .i64 4] w fun e w' => e = .returned (.string (hexTextS s)) ∧ Below w.heap.size w w' := by
    intro w
    by_cases hb : 4096 < s.size
    · rw [hexTextS_big hb]; exact digitsOf_big s 4 w hb
    · rw [hexTextS_ok hb]; exact digitsOf4 s w (by omega)
  have HC := Lib.hid hc; clear hc
  go_enter Try.func15, Try.ntmps15
  go_wp2_with (go_at_call 30; refine (HC.out _).mono ?_; rintro e w1 ⟨rfl, hb⟩)
  go_ret
  exact ⟨rfl, hb⟩
set_option maxHeartbeats 400000 in
theorem specHexText_any (s : ByteArray) (w : World) (h : s.size ≤ 1048576) :
    Calls Try.prog 23 #[.string s] w fun e w' => e = .returned (.string (hexTextS s)) ∧ Below w.heap.size w w' := by
  by_cases hb : 4096 < s.size
  · have he := Lib.hid (hexTextS_big hb)
    go_enter Try.func23, Try.ntmps23
    go_wp2
    go_ret
    exact ⟨by rw [he.out]; rfl, Below.refl _ _⟩
  · have he := hexTextS_ok hb
    have hc := fun w => l01Hex_any s w h
    rw [← he] at hc
    have HC := Lib.hid hc; clear hc he
    go_enter Try.func23, Try.ntmps23
    go_wp2_with (go_at_call 38; refine (HC.out _).mono ?_; rintro e w1 ⟨rfl, hb⟩)
    go_ret
    exact ⟨rfl, hb⟩

def bitsOfS (s : ByteArray) : ByteArray := if 4096 < s.size then ⟨#[]⟩ else ⟨(digits1 s.data.toList).toArray⟩
theorem bitsOfS_big {s : ByteArray} (h : 4096 < s.size) : bitsOfS s = ⟨#[]⟩ := by unfold bitsOfS; rw [if_pos h]
theorem bitsOfS_ok {s : ByteArray} (h : ¬ 4096 < s.size) : bitsOfS s = ⟨(digits1 s.data.toList).toArray⟩ := by unfold bitsOfS; rw [if_neg h]
set_option maxHeartbeats 400000 in
theorem bitsOf_any (s : ByteArray) (w : World) (h : s.size ≤ 1048576) :
    Calls Try.prog 13 #[.string s] w fun e w' => e = .returned (.string (bitsOfS s)) ∧ Below w.heap.size w w' := by
  have hc : ∀ w, Calls Try.prog 30 #[.string s, .int .i64 1] w fun e w' => e = .returned (.string (bitsOfS s)) ∧ Below w.heap.size w w' := by
    intro w
    by_cases hb : 4096 < s.size
    · rw [bitsOfS_big hb]; exact digitsOf_big s 1 w hb
    · rw [bitsOfS_ok hb]; exact digitsOf1 s w (by omega)
  have HC := Lib.hid hc; clear hc
  go_enter Try.func13, Try.ntmps13
  go_wp2_with (go_at_call 30; refine (HC.out _).mono ?_; rintro e w1 ⟨rfl, hb⟩)
  go_ret
  exact ⟨rfl, hb⟩
set_option maxHeartbeats 400000 in
theorem specBitsOf_any (s : ByteArray) (w : World) (h : s.size ≤ 1048576) :
    Calls Try.prog 25 #[.string s] w fun e w' => e = .returned (.string (bitsOfS s)) ∧ Below w.heap.size w w' := by
  by_cases hb : 4096 < s.size
  · have he := Lib.hid (bitsOfS_big hb)
    go_enter Try.func25, Try.ntmps25
    go_wp2
    go_ret
    exact ⟨by rw [he.out]; rfl, Below.refl _ _⟩
  · have he := bitsOfS_ok hb
    have hc := fun w => l01Bits_any s w h
    rw [← he] at hc
    have HC := Lib.hid hc; clear hc he
    go_enter Try.func25, Try.ntmps25
    go_wp2_with (go_at_call 40; refine (HC.out _).mono ?_; rintro e w1 ⟨rfl, hb⟩)
    go_ret
    exact ⟨rfl, hb⟩

end Go.Proofs.Yteldnfamfjldpaa
