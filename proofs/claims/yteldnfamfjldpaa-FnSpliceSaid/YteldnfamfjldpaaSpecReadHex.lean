/- spec.ReadHex -/
import Derived.Test.YteldnfamfjldpaaReadHex
namespace Go.Proofs.Yteldnfamfjldpaa
open Go.RowKit
set_option linter.unusedVariables false
theorem accV_two (d : Nat → Int) (k : Nat) (h0 : 0 ≤ d k) (h1 : d k < 16) (h2 : 0 ≤ d (k + 1)) (h3 : d (k + 1) < 16) : accV 16 d (k + 2) = 16 * d k + d (k + 1) := by
  show ((accV 16 d k * 16 + d k) % 256 * 16 + d (k + 1)) % 256 = _
  generalize accV 16 d k = v
  omega
theorem accO_two (d : Nat → Int) (j : Nat) : accO 16 2 d (2 * (j + 1)) = accO 16 2 d (2 * j) ++ [(accV 16 d (2 * j + 2)).toNat.toUInt8] := by
  show (if (2 * j + 1 + 1) % 2 = 0 then accO 16 2 d (2 * j + 1) ++ _ else _) = _
  rw [if_pos (by omega)]
  show (if (2 * j + 1) % 2 = 0 then _ else accO 16 2 d (2 * j)) ++ _ = _
  rw [if_neg (by omega)]
  rfl
set_option maxHeartbeats 4000000 in
theorem specReadHex_yes (s : ByteArray) (h1 : s.size % 2 = 0) (h2 : s.size ≤ 8192) (w : World) :
    Calls Try.prog 24 #[.string s] w fun e w' => e = .returned (ofDigText (ofDig 16 2 dig4 s)) ∧ Below w.heap.size w w' := by
  have hE := Lib.hid (show ofDig 16 2 dig4 s = if digOk dig4 s s.size = true then some (accO 16 2 (digAt dig4 s) s.size) else none by unfold ofDig; rw [if_pos ⟨h1, by omega⟩])
  have h1' : (s.size : Int) % 2 = 0 := by omega
  have h2' : (s.size : Int) ≤ 8192 := by omega
  go_enter Try.func24, Try.ntmps24
  go_wp2
  clear h1'
  go_loopw [4, 5] (fun v i wr => ∃ j : Nat, 2 * j ≤ s.size ∧ i = .int .i64 ((2 * j : Nat) : Int) ∧ OwnB wr w.heap.size v (accO 16 2 (digAt dig4 s) (2 * j)) ∧ Hid (digOk dig4 s (2 * j) = true) ∧ Below w.heap.size w wr) (fun _ i _ => s.size - (intOf i).toNat)
  case atStart => exact ⟨0, Nat.zero_le _, rfl, OwnB.nil w _ (Nat.le_refl _), by unfold Hid; rfl, (Below.refl _ _).alloc (Nat.le_refl _) _⟩
  case round =>
    obtain ⟨j, hj, rfl, hown, hok, hb⟩ := hrel
    obtain ⟨k, hk⟩ : ∃ k, 2 * j = k := ⟨_, rfl⟩
    have hosucc := Lib.hid (accO_two (digAt dig4 s) j)
    rw [hk] at hj hown hok hosucc ⊢
    by_cases hlt : k < s.size
    · have hlt1 : k + 1 < s.size := by omega
      have e0 : (k : Int) < s.size := by omega
      have e1 : (k : Int) + 1 < s.size := by omega
      have ew : IntKind.i64.wrap ((k : Int) + 1) = (k : Int) + 1 := wrap_small _ (by omega) (by omega)
      have en : ((k : Int) + 1).toNat = k + 1 := by omega
      have hsz := hb.size
      have hx0 := s[k].toNat_lt
      have hx1 := s[k + 1].toNat_lt
      have d0 := digAt_eq dig4 s k hlt
      have d1 := digAt_eq dig4 s (k + 1) hlt1
      have hs0 := Lib.hid (digOk_succ dig4 s k)
      have hs1 := Lib.hid (digOk_succ dig4 s (k + 1))
      have hno0 := Lib.hid (fun h => digOk_no dig4 s s.size k hlt h)
      have hno1 := Lib.hid (fun h => digOk_no dig4 s s.size (k + 1) hlt1 h)
      have hacc := Lib.hid (accV_two (digAt dig4 s) k)
      have hll := accO_length 16 2 (digAt dig4 s) k
      obtain ⟨c0, hc0⟩ : ∃ c, s[k].toNat = c := ⟨_, rfl⟩
      obtain ⟨c1, hc1⟩ : ∃ c, s[k + 1].toNat = c := ⟨_, rfl⟩
      rw [hc0] at hx0 d0
      rw [hc1] at hx1 d1
      obtain ⟨a, ha⟩ : ∃ a, dig4 c0 = a := ⟨_, rfl⟩
      obtain ⟨b, hb'⟩ : ∃ b, dig4 c1 = b := ⟨_, rfl⟩
      have ba := dig4_bd c0
      have bb := dig4_bd c1
      have V0 := fun w' => l01Value_any c0 (by omega) w'
      have V1 := fun w' => l01Value_any c1 (by omega) w'
      rw [ha] at ba d0 V0
      rw [hb'] at bb d1 V1
      rw [d0] at hs0 hno0 hacc
      rw [d1] at hs1 hno1 hacc
      have HV0 := Lib.hid V0; have HV1 := Lib.hid V1
      have HD := Lib.hid (And.intro d0 (And.intro d1 (And.intro ha hb')))
      clear V0 V1 d0 d1 ha hb'
      generalize accO 16 2 (digAt dig4 s) k = l at *
      by_cases hA : a < 0
      · have hEn := hE.out
        rw [hno0.out hA] at hEn
        have HEn := Lib.hid hEn; clear hEn
        go_wp2_with fail
        refine (HV0.out _).mono ?_
        rintro e w1 ⟨rfl, rfl⟩
        go_wp2_with fail
        refine (HV1.out _).mono ?_
        rintro e w1 ⟨rfl, rfl⟩
        go_wp2
        all_goals
          go_ret2
          exact ⟨by rw [HEn.out]; rfl, hb⟩
      · by_cases hB : b < 0
        · have hEn := hE.out
          rw [hno1.out hB] at hEn
          have HEn := Lib.hid hEn; clear hEn
          go_wp2_with fail
          refine (HV0.out _).mono ?_
          rintro e w1 ⟨rfl, rfl⟩
          go_wp2_with fail
          refine (HV1.out _).mono ?_
          rintro e w1 ⟨rfl, rfl⟩
          go_wp2
          all_goals
            go_ret2
            exact ⟨by rw [HEn.out]; rfl, hb⟩
        · have hac := hacc.out (by omega) ba.2 (by omega) bb.2
          obtain ⟨n, hn⟩ : ∃ n, 16 * a + b = n := ⟨_, rfl⟩
          have hm1 : IntKind.i64.wrap (16 * a) = 16 * a := wrap_small _ (by omega) (by omega)
          have hm2 : IntKind.i64.wrap (16 * a + b) = n := by rw [← hn]; exact wrap_small _ (by omega) (by omega)
          have hn0 : 0 ≤ n := by omega
          have hn1 : n < 256 := by omega
          have hm3 : IntKind.u8.wrap n = n := by unfold IntKind.wrap; simp [IntKind.bits, IntKind.signed]; omega
          go_wp2_with fail
          refine (HV0.out _).mono ?_
          rintro e w1 ⟨rfl, rfl⟩
          go_wp2_with fail
          refine (HV1.out _).mono ?_
          rintro e w1 ⟨rfl, rfl⟩
          go_wp2_with (at_builtin; refine wpList_appendB rfl _ _ rfl rfl (hown.alloc _) n hn0 hn1 ⟨wr.heap.size, 0, none⟩ 1 rfl (World.news_of_block (cs := #[.int .u8 n]) (t := 5) (fr := (0, 0)) (heap_alloc_new wr _)) (by omega) (by simp; omega) ?_; intro g cap w3 hown3 _ hb3 _)
          go_roundw
          case rel =>
            refine ⟨j + 1, by omega, by go_num, ?_, ?_, (hb.alloc hsz _).trans (hb3.mono (by omega))⟩
            · rw [hosucc.out, hac, hn]; exact hown3
            · unfold Hid
              have e2 : 2 * (j + 1) = k + 1 + 1 := by omega
              rw [e2, hs1.out, hs0.out, hok.out]
              simp; omega
          case measure => simp [intOf]; omega
    · obtain rfl : k = s.size := by omega
      have hcv := conv_own hown
      have hEn := hE.out
      rw [hok.out] at hEn
      have HEn := Lib.hid hEn; clear hEn
      go_wp2
      go_ret2
      exact ⟨by rw [HEn.out]; rfl, hb⟩
set_option maxHeartbeats 1000000 in
theorem specReadHex_any (s : ByteArray) (w : World) :
    Calls Try.prog 24 #[.string s] w fun e w' => e = .returned (ofDigText (ofDig 16 2 dig4 s)) ∧ Below w.heap.size w w' := by
  by_cases h1 : s.size % 2 = 0
  · by_cases h2 : s.size ≤ 8192
    · exact specReadHex_yes s h1 h2 w
    · rw [ofDig_none (by omega)]
      have h1' : (s.size : Int) % 2 = 0 := by omega
      have h2' : 8192 < (s.size : Int) := by omega
      clear h1 h2
      go_enter Try.func24, Try.ntmps24
      go_wp2
      go_ret2
      exact ⟨rfl, Below.refl _ _⟩
  · rw [ofDig_none (by omega)]
    have h1' : ¬ (s.size : Int) % 2 = 0 := by omega
    clear h1
    go_enter Try.func24, Try.ntmps24
    go_wp2
    go_ret2
    exact ⟨rfl, Below.refl _ _⟩
end Go.Proofs.Yteldnfamfjldpaa
