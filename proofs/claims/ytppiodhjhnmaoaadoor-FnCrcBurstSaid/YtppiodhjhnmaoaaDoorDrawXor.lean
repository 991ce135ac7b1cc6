/- spec.l01Fixed, spec.DrawXorBytes -/
import Derived.Test.YtppiodhjhnmaoaaDoorDraw
import Derived.Test.YtppiodhjhnmaoaaDoorDraw2
namespace Go.Proofs.YtppiodhjhnmaoaaDoor
open Go.RowKit
set_option maxRecDepth 20000
set_option linter.unusedVariables false
theorem bytes_snoc_size (x : ByteArray) : (x ++ (⟨#[78]⟩ : ByteArray)).size = x.size + 1 := by rw [ByteArray.size_append]; rfl
set_option maxHeartbeats 4000000 in
theorem l01Fixed_any (m : Nat) (hm : m ≤ 1000) (p : Nat) (a : Option Addr) (n cap k : Nat) (w : World) (hn : n ≤ 1048576) (hk : k < 100000000000) (ha : CodeLt a n w.heap.size) (h : SrcAt w p a n cap k) :
    Calls Tryd.prog 13 #[.pointer (some ⟨p, 0, none⟩), .int .i64 (m : Int)] w fun e w' => ∃ s : ByteArray, e = .returned (.string s) ∧ s.size = m ∧ (∃ k', k ≤ k' ∧ k' ≤ k + 2 + 4 * m ∧ SrcAt w' p a n cap k') ∧ Below p w w' ∧ w.heap.size ≤ w'.heap.size := by
  have D := Lib.hid (l01Draw_any m hm p a n cap k w hn hk ha h)
  clear h
  go_enter Tryd.func13, Tryd.ntmps13
  go_wp2_with fail
  refine D.out.mono ?_
  rintro e w1 ⟨t, rfl, ht, hsrc, hb1, hs1⟩
  have HK := Lib.hid (And.intro hsrc (And.intro hb1 hs1)); clear hsrc hb1 hs1
  go_wp2
  go_loopw [5] (fun v wr => ∃ x : ByteArray, v = .string x ∧ x.size ≤ m ∧ wr = w1) (fun v _ => m - (match v with | .string x => x.size | _ => 0))
  case atStart => exact ⟨t, rfl, ht, rfl⟩
  case round =>
    obtain ⟨x, rfl, hx, rfl⟩ := hrel
    by_cases hlt : x.size < m
    · have e1 : (x.size : Int) < m := by omega
      have hz := bytes_snoc_size x
      have HZ := Lib.hid hz
      have hz1 : ((⟨#[78]⟩ : ByteArray)).size = 1 := rfl
      clear hz
      go_wp2
      go_roundw
      case rel => exact ⟨_, rfl, by rw [HZ.out]; omega, by trivial⟩
      case measure => have := HZ.out; simp [this] <;> omega
    · have e1 : ¬ (x.size : Int) < m := by omega
      go_wp2
      go_ret
      exact ⟨x, rfl, by omega, HK.out.1, HK.out.2.1, HK.out.2.2⟩
set_option maxHeartbeats 4000000 in
theorem drawXorBytes_any (a : Option Addr) (n cap : Nat) (w : World) (hn : n ≤ 1048576) (ha : CodeLt a n w.heap.size) (hc : CodeAt w a n) :
    Calls Tryd.prog 6 #[.slice a n cap] w fun e w' => ∃ x y : ByteArray, e = .returned (.tuple #[.string x, .string y]) ∧ x.size ≤ 9 ∧ y.size ≤ 10 ∧ Below w.heap.size w w' := by
  have hs := src_new w a n cap ha hc
  have hb : Below w.heap.size w (w.alloc (.cells #[.slice a n cap, .int .i64 0, .int .u64 0] 58)) := Below.alloc (Below.refl _ w) (Nat.le_refl _) _
  have D := Lib.hid (l01Draw_any 9 (by omega) w.heap.size a n cap 0 _ hn (by omega) (ha.mono hb.size) hs)
  have HB := Lib.hid hb; clear hs hb
  go_enter Tryd.func6, Tryd.ntmps6
  go_wp2_with fail
  refine (l00From_any a n cap w).mono ?_
  rintro e w1 ⟨rfl, rfl⟩
  go_wp2_with fail
  refine D.out.mono ?_
  rintro e w2 ⟨x, rfl, hx, ⟨k2, _, hk2, hsrc2⟩, hb2, hs2⟩
  have hbb2 := HB.out.trans hb2
  have F := Lib.hid (l01Fixed_any x.size (by omega) w.heap.size a n cap k2 w2 hn (by omega) (ha.mono hbb2.size) hsrc2)
  have HB2 := Lib.hid hbb2; clear hsrc2 hb2 hbb2 D
  go_wp2_with fail
  refine F.out.mono ?_
  rintro e w3 ⟨y, rfl, hy, ⟨k3, _, hk3, hsrc3⟩, hb3, hs3⟩
  have hbb3 := HB2.out.trans hb3
  have O := Lib.hid (one_any 6 w.heap.size a n cap k3 w3 (by omega) hn (by omega) hsrc3)
  have HB3 := Lib.hid hbb3; clear hsrc3 hb3 hbb3 F
  go_wp2_with fail
  refine O.out.mono ?_
  rintro e w4 ⟨b, rfl, hch⟩
  have hbb4 : Below w.heap.size w w4 := by
    obtain ⟨_, _, _, _, ho⟩ := hch
    exact HB3.out.trans (ho.below (Nat.le_refl _))
  have HB4 := Lib.hid hbb4; clear hch hbb4 O
  have hy1 : y.size ≤ 9 := by omega
  have hz1 : ((⟨#[120]⟩ : ByteArray)).size = 1 := rfl
  have hz2 : (y ++ (⟨#[120]⟩ : ByteArray)).size = y.size + 1 := by rw [ByteArray.size_append]; rfl
  have HZ := Lib.hid hz2; clear hz2
  cases b with
  | false =>
    go_wp2
    go_ret2
    exact ⟨x, y, rfl, hx, by omega, HB4.out⟩
  | true =>
    go_wp2
    go_ret2
    exact ⟨x, _, rfl, hx, by rw [HZ.out]; omega, HB4.out⟩
end Go.Proofs.YtppiodhjhnmaoaaDoor
