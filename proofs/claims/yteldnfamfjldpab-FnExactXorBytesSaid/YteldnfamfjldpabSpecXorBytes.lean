/- spec.XorBytes, spec.l01Xor -/
import Derived.Test.YteldnfamfjldpabXorBytes
namespace Go.Proofs.Yteldnfamfjldpab
open Go.RowKit
theorem xorL_take_snoc (a b : ByteArray) (k : Nat) (h1 : k < a.size) (h2 : k < b.size) :
    (xorL a.data.toList b.data.toList).take (k + 1) = (xorL a.data.toList b.data.toList).take k ++ [((a[k].toNat ^^^ b[k].toNat : Nat) : Int).toNat.toUInt8] := by
  have hx1 := a[k].toNat_lt
  have hx2 := b[k].toNat_lt
  have hlen : k < (xorL a.data.toList b.data.toList).length := by
    have h1' : a.data.toList.length = a.size := by simp
    have h2' : b.data.toList.length = b.size := by simp
    simp only [xorL, List.length_zipWith, h1', h2']; omega
  rw [List.take_succ_eq_append_getElem hlen, xorL_at a b k h1 h2 hlen]
  congr 2
  apply UInt8.toNat_inj.1
  simp
set_option maxHeartbeats 400000 in
theorem l01Xor_any (a b : ByteArray) (w : World) (hs : a.size = b.size) (h20 : a.size ≤ 1048576) :
    Calls Try.prog 47 #[.string a, .string b] w fun e w' => e = .returned (.string ⟨(xorL a.data.toList b.data.toList).toArray⟩) ∧ Below w.heap.size w w' := by
  have HS := Lib.hid hs; clear hs
  go_enter Try.func47, Try.ntmps47
  go_wp2
  go_loopw [5, 6] (fun v i wr => ∃ k : Nat, k ≤ a.size ∧ i = .int .i64 k ∧ (∃ l : List UInt8, l.length = k ∧ OwnB wr w.heap.size v l ∧ Hid (l = (xorL a.data.toList b.data.toList).take k)) ∧ Below w.heap.size w wr) (fun _ i _ => a.size - (intOf i).toNat)
  case atStart => 
    exact ⟨0, Nat.zero_le _, rfl, ⟨[], rfl, OwnB.nil w _ (Nat.le_refl _), by unfold Hid; rfl⟩, (Below.refl _ _).alloc (Nat.le_refl _) _⟩
  case round =>
    obtain ⟨k, hk, rfl, ⟨l, hl, hown, hL⟩, hb⟩ := hrel
    have HL := Lib.hid hl; clear hl
    by_cases hlt : k < a.size
    · have hlb : k < b.size := by have := HS.out; omega
      have hx1 := a[k].toNat_lt
      have hx2 := b[k].toNat_lt
      have e1 : (k : Int) < a.size := by omega
      have e2 : (k : Int) < b.size := by omega
      have hll : l.length < 2147483648 := by have := HL.out; omega
      have hxx : bits .xor .u8 (a[k].toNat : Int) (b[k].toNat : Int) = ((a[k].toNat ^^^ b[k].toNat : Nat) : Int) := u8_xor_nat _ _ (by omega) (by omega)
      have hxl : a[k].toNat ^^^ b[k].toNat < 256 := Nat.xor_lt_two_pow (n := 8) hx1 hx2
      have hsz := hb.size
      go_wp2
      go_region_held3 (fun _ => True) (first | trivial | go_keep)
        ((refine step_appendB (by rfl) _ _ (by rfl) (by rfl) ((hown.alloc _).drew) ((a[k].toNat ^^^ b[k].toNat : Nat) : Int) (by omega) (by omega) ⟨wr.heap.size, 0, none⟩ 1 (by rfl) (World.news_of_block (cs := #[.int .u8 ((a[k].toNat ^^^ b[k].toNat : Nat) : Int)]) (t := 5) (fr := (0, 0)) (heap_alloc_new wr _)) hll (by simp; omega) ?_; intro g cap w1 hown1 hgrow hb1 hat))
      all_goals
        have hb2 := ((hb.alloc hsz (Obj.cells #[.int .u8 ((a[k].toNat ^^^ b[k].toNat : Nat) : Int)] 5)).drew).trans hb1
        have HX := Lib.hid (xorL_take_snoc a b k hlt hlb)
        clear hgrow hb1 hat
        go_wp2
        go_roundw
        case rel =>
          refine ⟨k + 1, by omega, by go_num, ⟨l ++ [((a[k].toNat ^^^ b[k].toNat : Nat) : Int).toNat.toUInt8], ?_, hown1, ?_⟩, hb2⟩
          · have := HL.out; simp; omega
          · unfold Hid; rw [HX.out, hL.out]
        case measure => simp [intOf]; omega
    · have hcv := conv_own hown
      go_wp2
      go_ret
      refine ⟨?_, hb⟩
      have h1 := xorL_length a b HS.out
      rw [hL.out, List.take_of_length_le (by omega)]
      rfl
set_option maxHeartbeats 400000 in
theorem specXorBytes_yes (a b : ByteArray) (w : World) (hs : a.size = b.size) (h20 : a.size ≤ 1048576) :
    Calls Try.prog 17 #[.string a, .string b] w fun e w' => e = .returned (.tuple #[.string ⟨(xorL a.data.toList b.data.toList).toArray⟩, .bool true]) ∧ Below w.heap.size w w' := by
  have heq : ((a.size : Int) == b.size) = true := by simp; omega
  have hne : ((a.size : Int) != b.size) = false := by simp; omega
  have HS := Lib.hid hs; clear hs
  go_enter Try.func17, Try.ntmps17
  go_wp2_with (go_at_call 47; refine (l01Xor_any _ _ _ HS.out h20).mono ?_; rintro e w1 ⟨rfl, hb⟩)
  go_ret2
  exact ⟨rfl, hb⟩
set_option maxHeartbeats 400000 in
theorem specXorBytes_no (a b : ByteArray) (w : World) (hs : ¬ a.size = b.size) (_h1 : a.size ≤ 1048576) (_h2 : b.size ≤ 1048576) :
    Calls Try.prog 17 #[.string a, .string b] w fun e w' => e = .returned (.tuple #[.string ⟨#[]⟩, .bool false]) ∧ Below w.heap.size w w' := by
  have heq : ((a.size : Int) == b.size) = false := by simp; omega
  have hne : ((a.size : Int) != b.size) = true := by simp; omega
  go_enter Try.func17, Try.ntmps17
  go_wp2
  go_ret2
  exact ⟨rfl, Below.refl _ _⟩
end Go.Proofs.Yteldnfamfjldpab
