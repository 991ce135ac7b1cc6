import Derived.Test.YteldnfamfjldpaaRoundDig
import Derived.Test.YteldnfamfjldpaaDraw
import Derived.Test.YteldnfamfjldpaaPutWord
import Derived.Test.YteldnfamfjldpaaWord
import Derived.IntWalk
import Derived.OpenShut
namespace Go.Proofs.Yteldnfamfjldpaa.fnBits
open Go.RowKit
set_option linter.unusedVariables false
theorem code_of {w : World} {a : Option Addr} {n cap : Nat} {zs : List Int} (h : IsRow .u8 w a n cap zs) : CodeAt w a n ∧ CodeLt a n w.heap.size := by
  rcases h with ⟨_, h, _⟩ | ⟨x, rfl, h1, h2, h3, h4, h5⟩
  · exact ⟨.inl h, .inl h⟩
  · refine ⟨.inr ⟨x, rfl, fun i hi => ?_⟩, ?_⟩
    · have hi2 : i < zs.length := by omega
      have hb := bounds_u8 (h5 zs[i] (List.getElem_mem hi2))
      have hc := h4 i hi2
      refine ⟨zs[i].toNat, by omega, ?_⟩
      rw [hc]
      have e : zs.getD i 0 = zs[i] := by simp [List.getD, hi2]
      rw [e, Int.toNat_of_nonneg hb.1]
    · by_cases h0 : n = 0
      · exact .inl h0
      · right
        intro y hy
        cases hy
        have hc := h4 0 (by omega)
        have := World.block_lt_of_cell? w (x.add 0) hc
        rwa [add_block] at this
theorem word_back (n : Int) (h0 : 0 ≤ n) (h1 : n ≤ 65535) : word ((⟨#[120]⟩ : ByteArray) ++ wordBytes n) 1 = n := by
  have e1 : ((⟨#[120]⟩ : ByteArray) ++ wordBytes n)[1]? = some (n / 256).toNat.toUInt8 := rfl
  have e2 : ((⟨#[120]⟩ : ByteArray) ++ wordBytes n)[1 + 1]? = some (n % 256).toNat.toUInt8 := rfl
  unfold word
  rw [e1, e2]
  simp only [Option.getD_some]
  have q1 : (n / 256).toNat.toUInt8.toNat = (n / 256).toNat := by simp; omega
  have q2 : (n % 256).toNat.toUInt8.toNat = (n % 256).toNat := by simp; omega
  rw [q1, q2]
  omega
theorem text_of (s : ByteArray) : ofDigText (some s.data.toList) = .tuple #[.string s, .bool true] := by
  cases s
  simp [ofDigText]
theorem b10Long_no (a : Option Addr) (n cap : Nat) (w : World) (h : n ≤ 1048576) : Calls Try.prog 10 #[.slice a n cap] w fun e w' => e = .returned (.bool false) ∧ w = w' := by
  have h1 : (n : Int) ≤ 1048576 := by omega
  go_enter Try.func10, Try.ntmps10
  go_wp2
  go_ret
  exact ⟨ret_bool (by simp; omega), rfl⟩
set_option maxHeartbeats 2000000 in
theorem walk (a0 : Option Addr) (len0 cap0 : Nat) (z0 : List Int) (w : World) (w0 : IsRow .u8 w a0 len0 cap0 z0) :
    Calls Try.prog 3 #[.slice a0 len0 cap0] w fun e w' => e = .returned (.bool true) ∧ Below w.heap.size w w' := by
  obtain ⟨hca, hcl⟩ := code_of w0
  by_cases hl : 1048576 < len0
  · go_enter Try.func3, Try.ntmps3
    go_wp2
    go_ret
    exact ⟨rfl, Below.refl _ _⟩
  · have D := Lib.hid (drawBitsOf_any a0 len0 cap0 w (by omega) hcl hca)
    have hl2 : (len0 : Int) ≤ 1048576 := by omega
    obtain ⟨m, hm⟩ : ∃ m : Int, (len0 : Int) % 65536 = m := ⟨_, rfl⟩
    have hm0 : 0 ≤ m := by omega
    have hm1 : m ≤ 65535 := by omega
    have hwb := word_back m hm0 hm1
    have W1 := Lib.hid (fun w' => putWord_yes m w' hm0 hm1)
    have W2 := Lib.hid (fun w' => getWord_yes ((⟨#[120]⟩ : ByteArray) ++ wordBytes m) 1 w' (by show _ ≤ maxLen; simp [maxLen, ByteArray.size, wordBytes]) (by simp [ByteArray.size, wordBytes]))
    rw [hwb] at W2
    clear hca hcl w0 hwb
    go_enter Try.func3, Try.ntmps3
    go_wp2_with fail
    refine (b10Long_no a0 len0 cap0 w (by omega)).mono ?_
    rintro e w' ⟨rfl, rfl⟩
    go_wp2_with fail
    refine D.out.mono ?_
    rintro e w1 ⟨s, rfl, hs, hb1⟩
    have B1 := Lib.hid (fun w' => bitsOf_any s w' (by omega))
    have B2 := Lib.hid (fun w' => (bytesOf_any (bitsOfS s) w').mono (fun e w'' h => (show e = .returned (.tuple #[.string s, .bool true]) ∧ Below w'.heap.size w' w'' from ⟨by rw [h.1, bytesOf_bits s (by omega), text_of], h.2⟩)))
    have H1 := Lib.hid (fun w' => hexText_any s w' (by omega))
    have H2 := Lib.hid (fun w' => (readHex_any (hexTextS s) w').mono (fun e w'' h => (show e = .returned (.tuple #[.string s, .bool true]) ∧ Below w'.heap.size w' w'' from ⟨by rw [h.1, readHex_hex s (by omega), text_of], h.2⟩)))
    generalize bitsOfS s = tb at B1 B2
    generalize hexTextS s = th at H1 H2
    have HB1 := Lib.hid hb1; clear hb1
    go_wp2_with fail
    refine (B1.out _).mono ?_
    rintro e w2 ⟨rfl, hb2⟩
    have HB2 := Lib.hid (HB1.out.trans (hb2.mono HB1.out.size)); clear hb2 HB1
    go_wp2_with fail
    refine (B2.out _).mono ?_
    rintro e w3 ⟨rfl, hb3⟩
    have HB3 := Lib.hid (HB2.out.trans (hb3.mono HB2.out.size)); clear hb3 HB2
    go_wp2_with fail
    refine (H1.out _).mono ?_
    rintro e w4 ⟨rfl, hb4⟩
    have HB4 := Lib.hid (HB3.out.trans (hb4.mono HB3.out.size)); clear hb4 HB3
    go_wp2_with fail
    refine (H2.out _).mono ?_
    rintro e w5 ⟨rfl, hb5⟩
    have HB5 := Lib.hid (HB4.out.trans (hb5.mono HB4.out.size)); clear hb5 HB4
    go_wp2_with fail
    refine (W1.out _).mono ?_
    rintro e w6 ⟨rfl, hb6⟩
    have HB6 := Lib.hid (HB5.out.trans (hb6.mono HB5.out.size)); clear hb6 HB5
    go_wp2_with fail
    refine (W2.out _).mono ?_
    rintro e w7 ⟨rfl, hb7⟩
    have HB7 := Lib.hid (HB6.out.trans (hb7.mono HB6.out.size)); clear hb7 HB6
    go_wp2
    go_ret
    exact ⟨rfl, HB7.out⟩
end Go.Proofs.Yteldnfamfjldpaa.fnBits
