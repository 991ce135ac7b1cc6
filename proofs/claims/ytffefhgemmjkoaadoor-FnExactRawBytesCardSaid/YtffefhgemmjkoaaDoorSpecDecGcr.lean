/- spec.DecodeGcr -/
import Derived.Test.YtffefhgemmjkoaaDoorGcrFaults
import Derived.Test.YtffefhgemmjkoaaDoorSpecReadHex
namespace Go.Proofs.YtffefhgemmjkoaaDoor
open Go.RowKit
set_option maxRecDepth 20000
set_option linter.unusedVariables false
/-- The number of group k; -1: none. -/
def gd (s : ByteArray) (k : Nat) : Int := gcrVV (subS s k)
theorem gd_bd (s : ByteArray) (k : Nat) : -1 ≤ gd s k ∧ gd s k < 16 := by
  unfold gd gcrVV
  split
  · rename_i h
    have hb := gP_bd h 5 (by omega)
    have e32 : (2 : Int) ^ 5 = 32 := rfl
    rw [e32] at hb
    generalize gP (subS s k) 5 = x at hb
    exact valN_bd x.toNat (by omega)
  · omega
/-- All of the first k groups have a number. -/
def gdOk (s : ByteArray) (n : Nat) : Bool := (List.range n).all fun j => decide (0 ≤ gd s j)
theorem gdOk_succ (s : ByteArray) (k : Nat) : gdOk s (k + 1) = (gdOk s k && decide (0 ≤ gd s k)) := by simp [gdOk, List.range_succ]
theorem gdOk_no (s : ByteArray) (n k : Nat) (h : k < n) (hc : gd s k < 0) : gdOk s n = false := by
  unfold gdOk
  rw [List.all_eq_false]
  exact ⟨k, by simp [h], by simp; omega⟩
/-- What DecodeGcr answers. -/
def dgV (s : ByteArray) : Option (List UInt8) := if cellStr s = true ∧ s.size % 10 = 0 then if gdOk s (s.size / 5) = true then some (accO 16 2 (gd s) (s.size / 5)) else none else none
theorem dgV_none {s : ByteArray} (h : ¬ (cellStr s = true ∧ s.size % 10 = 0)) : dgV s = none := by unfold dgV; rw [if_neg h]
set_option maxHeartbeats 4000000 in
theorem specDecodeGcr_yes (s : ByteArray) (h : s.size ≤ 1048576) (hc : cellStr s = true) (h10 : s.size % 10 = 0) (w : World) :
    Calls Tryd.prog 18 #[.string s] w fun e w' => e = .returned (ofDigText (dgV s)) ∧ Below w.heap.size w w' := by
  have hv := fun w => l05Cells_any s w (by unfold maxLen; omega)
  rw [hc] at hv
  have HCV := Lib.hid hv; clear hv
  have hs8 := cellStr_size hc
  obtain ⟨N, hN⟩ : ∃ N, s.size / 5 = N := ⟨_, rfl⟩
  have hE := Lib.hid (show dgV s = if gdOk s N = true then some (accO 16 2 (gd s) N) else none by unfold dgV; rw [if_pos ⟨hc, h10⟩, hN])
  have HN := Lib.hid (show s.size = 5 * N ∧ N % 2 = 0 by omega)
  have hN8 : N ≤ 1048576 := by omega
  have hq : (s.size : Int) / 5 = (N : Int) := by omega
  have h1' : (s.size : Int) % 10 = 0 := by omega
  clear hN h10 hc
  go_enter Tryd.func18, Tryd.ntmps18
  go_wp2_with (go_at_call 46; refine (HCV.out _).mono ?_; rintro e w1 ⟨rfl, rfl⟩)
  clear h1'
  go_loopw [4, 5] (fun v i wr => ∃ j : Nat, 2 * j ≤ N ∧ i = .int .i64 ((2 * j : Nat) : Int) ∧ OwnB wr w.heap.size v (accO 16 2 (gd s) (2 * j)) ∧ Hid (gdOk s (2 * j) = true) ∧ Below w.heap.size w wr) (fun _ i _ => N - (intOf i).toNat)
  case atStart => exact ⟨0, Nat.zero_le _, rfl, OwnB.nil w _ (Nat.le_refl _), by unfold Hid; rfl, (Below.refl _ _).alloc (Nat.le_refl _) _⟩
  case round =>
    obtain ⟨j, hj, rfl, hown, hok, hb⟩ := hrel
    obtain ⟨k, hk⟩ : ∃ k, 2 * j = k := ⟨_, rfl⟩
    have hosucc := Lib.hid (accO_two (gd s) j)
    rw [hk] at hj hown hok hosucc ⊢
    have HK := Lib.hid hk
    by_cases hlt : k < N
    · have hlt1 : k + 1 < N := by have := HN.out.2; omega
      have e0 : (k : Int) < N := by omega
      have hk5 : 5 * k + 5 ≤ s.size := by have := HN.out; omega
      have hk6 : 5 * (k + 1) + 5 ≤ s.size := by have := HN.out; omega
      have hsz := hb.size
      have HA0 := Lib.hid (fun w => l06At_any s k h hk5 w)
      have HA1 := Lib.hid (fun w => by have := l06At_any s (k + 1) h hk6 w; rw [show ((k + 1 : Nat) : Int) = (k : Int) + 1 from by omega] at this; exact this)
      have HV0 := Lib.hid (fun w => specGcrValue_any (subS s k) (by rw [subS_size s k hk5]; omega) w)
      have HV1 := Lib.hid (fun w => specGcrValue_any (subS s (k + 1)) (by rw [subS_size s (k + 1) hk6]; omega) w)
      have ba := gd_bd s k
      have bb := gd_bd s (k + 1)
      have hs0 := Lib.hid (gdOk_succ s k)
      have hs1 := Lib.hid (gdOk_succ s (k + 1))
      have hno0 := Lib.hid (fun h => gdOk_no s N k hlt h)
      have hno1 := Lib.hid (fun h => gdOk_no s N (k + 1) hlt1 h)
      have hacc := Lib.hid (accV_two (gd s) k)
      have hll := accO_length 16 2 (gd s) k
      change Hid (∀ w, Calls Tryd.prog 47 #[.string (subS s k)] w fun e w' => e = .returned (.int .i64 (gd s k)) ∧ Below w.heap.size w w') at HV0
      change Hid (∀ w, Calls Tryd.prog 47 #[.string (subS s (k + 1))] w fun e w' => e = .returned (.int .i64 (gd s (k + 1))) ∧ Below w.heap.size w w') at HV1
      generalize accO 16 2 (gd s) k = l at *
      obtain ⟨a, ha⟩ : ∃ a, gd s k = a := ⟨_, rfl⟩
      obtain ⟨b, hb'⟩ : ∃ b, gd s (k + 1) = b := ⟨_, rfl⟩
      rw [ha] at ba hs0 hno0 HV0 hacc
      rw [hb'] at bb hs1 hno1 HV1 hacc
      clear ha hb'
      generalize subS s k = S0 at *
      generalize subS s (k + 1) = S1 at *
      clear hk5 hk6
      have ew : IntKind.i64.wrap ((k : Int) + 1) = (k : Int) + 1 := wrap_small _ (by omega) (by omega)
      go_wp2_with fail
      refine (HA0.out _).mono ?_
      rintro e w2 ⟨rfl, rfl⟩
      go_wp2_with fail
      refine (HV0.out _).mono ?_
      rintro e w3 ⟨rfl, hb3⟩
      go_wp2_with fail
      refine (HA1.out _).mono ?_
      rintro e w4 ⟨rfl, rfl⟩
      go_wp2_with fail
      refine (HV1.out _).mono ?_
      rintro e w5 ⟨rfl, hb5⟩
      have hb35 := hb3.trans (hb5.mono hb3.size)
      have hown3 := hown.below hb35
      have hbr := hb.trans (hb35.mono hsz)
      have hsz3 := hbr.size
      clear hb3 hb5 hb35 hown hb hsz
      by_cases hA : a < 0
      · have hEn := hE.out
        rw [hno0.out hA] at hEn
        have HEn := Lib.hid hEn; clear hEn
        go_wp2
        go_ret2
        exact ⟨by rw [HEn.out]; rfl, hbr⟩
      · by_cases hB : b < 0
        · have hEn := hE.out
          rw [hno1.out hB] at hEn
          have HEn := Lib.hid hEn; clear hEn
          go_wp2
          go_ret2
          exact ⟨by rw [HEn.out]; rfl, hbr⟩
        · have hac := hacc.out (by omega) ba.2 (by omega) bb.2
          obtain ⟨n, hn⟩ : ∃ n, 16 * a + b = n := ⟨_, rfl⟩
          have hm1 : IntKind.i64.wrap (16 * a) = 16 * a := wrap_small _ (by omega) (by omega)
          have hm2 : IntKind.i64.wrap (16 * a + b) = n := by rw [← hn]; exact wrap_small _ (by omega) (by omega)
          have hn0 : 0 ≤ n := by omega
          have hn1 : n < 256 := by omega
          have hm3 : IntKind.u8.wrap n = n := by unfold IntKind.wrap; simp [IntKind.bits, IntKind.signed]; omega
          go_wp2_with (at_builtin; refine wpList_appendB rfl _ _ rfl rfl (hown3.alloc _) n hn0 hn1 ⟨w5.heap.size, 0, none⟩ 1 rfl (World.news_of_block (cs := #[.int .u8 n]) (t := 5) (fr := (0, 0)) (heap_alloc_new w5 _)) (by omega) (by simp; omega) ?_; intro g cap w6 hown6 _ hb6 _)
          go_roundw
          case rel =>
            refine ⟨j + 1, by have := HK.out; omega, by have := HK.out; go_num, ?_, ?_, (hbr.alloc hsz3 _).trans (hb6.mono (by omega))⟩
            · rw [hosucc.out, hac, hn]; exact hown6
            · unfold Hid
              have e2 : 2 * (j + 1) = k + 1 + 1 := by have := HK.out; omega
              rw [e2, hs1.out, hs0.out, hok.out]
              simp; omega
          case measure => simp [intOf]; omega
    · obtain rfl : k = N := by omega
      have hcv := conv_own hown
      have hEn := hE.out
      rw [hok.out] at hEn
      have HEn := Lib.hid hEn; clear hEn
      go_wp2
      go_ret2
      exact ⟨by rw [HEn.out]; rfl, hb⟩
set_option maxHeartbeats 1000000 in
theorem specDecodeGcr_v (s : ByteArray) (h : s.size ≤ 1048576) (w : World) :
    Calls Tryd.prog 18 #[.string s] w fun e w' => e = .returned (ofDigText (dgV s)) ∧ Below w.heap.size w w' := by
  by_cases hc : cellStr s = true
  · by_cases h1 : s.size % 10 = 0
    · exact specDecodeGcr_yes s h hc h1 w
    · rw [dgV_none (by omega)]
      have hv := fun w => l05Cells_any s w (by unfold maxLen; omega)
      rw [hc] at hv
      have HCV := Lib.hid hv; clear hv
      have h1' : ¬ (s.size : Int) % 10 = 0 := by omega
      clear h1
      go_enter Tryd.func18, Tryd.ntmps18
      go_wp2_with (go_at_call 46; refine (HCV.out _).mono ?_; rintro e w1 ⟨rfl, rfl⟩)
      go_ret2
      exact ⟨rfl, Below.refl _ _⟩
  · rw [dgV_none (fun h => hc h.1)]
    have hv := fun w => l05Cells_any s w (by unfold maxLen; omega)
    have hc0 : cellStr s = false := by simpa using hc
    rw [hc0] at hv
    have HCV := Lib.hid hv; clear hv
    go_enter Tryd.func18, Tryd.ntmps18
    go_wp2_with (go_at_call 46; refine (HCV.out _).mono ?_; rintro e w1 ⟨rfl, rfl⟩)
    go_ret2
    exact ⟨rfl, Below.refl _ _⟩
end Go.Proofs.YtffefhgemmjkoaaDoor
