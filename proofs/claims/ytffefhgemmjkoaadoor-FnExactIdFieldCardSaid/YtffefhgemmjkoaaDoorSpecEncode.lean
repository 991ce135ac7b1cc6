/- spec.l05Encode, spec.EncodeFm, spec.EncodeMfm -/
import Derived.Test.YtffefhgemmjkoaaDoorBit05
import Derived.Test.YtffefhgemmjkoaaDoorConv
import Derived.Test.YtffefhgemmjkoaaDoorDigitsOf
namespace Go.Proofs.YtffefhgemmjkoaaDoor
open Go.RowKit
set_option maxRecDepth 20000
set_option linter.unusedVariables false
def encV (s : ByteArray) (last mfm : Bool) : ByteArray := if s.size ≤ 500 then ⟨(encS s last mfm (8 * s.size)).toArray⟩ else ⟨#[]⟩
theorem cell_int (b : Bool) : ((if b then 49 else 48 : Int)).toNat.toUInt8 = cellB b := by cases b <;> rfl
set_option maxHeartbeats 8000000 in
theorem l05Encode_yes (s : ByteArray) (last mfm : Bool) (h : s.size ≤ 500) (w : World) :
    Calls Tryd.prog 116 #[.string s, .bool last, .bool mfm] w fun e w' => e = .returned (.string ⟨(encS s last mfm (8 * s.size)).toArray⟩) ∧ Below w.heap.size w w' := by
  go_enter Tryd.func116, Tryd.ntmps116
  go_wp2
  go_loopw [1, 7, 8, 9, 10] (fun la v i _ _ wr => ∃ j : Nat, j ≤ s.size ∧ i = .int .i64 (j : Int) ∧ la = .bool (lastS s last (8 * j)) ∧ OwnB wr w.heap.size v (encS s last mfm (8 * j)) ∧ Below w.heap.size w wr) (fun _ _ i _ _ _ => s.size - (intOf i).toNat)
  case atStart => exact ⟨0, Nat.zero_le _, rfl, rfl, OwnB.nil w _ (Nat.le_refl _), (Below.refl _ _).alloc (Nat.le_refl _) _⟩
  case round =>
    obtain ⟨j, hj, rfl, rfl, hown, hb⟩ := hrel
    by_cases hlt : j < s.size
    · have e0 : (j : Int) < s.size := by omega
      go_wp2
      go_hide hQ
      obtain ⟨wo, rfl⟩ : ∃ wo : World, wo = wr := ⟨_, rfl⟩
      go_loopw [1, 7, 9, 10] (fun la v k _ wr2 => ∃ t : Nat, t ≤ 8 ∧ k = .int .i64 (7 - (t : Int)) ∧ la = .bool (lastS s last (8 * j + t)) ∧ OwnB wr2 w.heap.size v (encS s last mfm (8 * j + t)) ∧ Below w.heap.size w wr2) (fun _ _ k _ _ => (intOf k + 1).toNat)
      case atStart => exact ⟨0, Nat.zero_le _, rfl, rfl, hown, hb⟩
      case round =>
        obtain ⟨t, ht, rfl, rfl, hown2, hb2⟩ := hrel
        by_cases ht8 : t < 8
        · obtain ⟨q, hq⟩ : ∃ q : Nat, q + t = 7 := ⟨7 - t, by omega⟩
          have eq : (7 - (t : Int)) = (q : Int) := by omega
          rw [eq]
          have hq0 : (0 : Int) ≤ (q : Int) := by omega
          have hq1 : q < 8 := by omega
          have hx := s[j].toNat_lt
          have hbit : (bits .and .u8 ((s[j].toNat : Int) / 2 ^ q) 1 == 1) = bitB s (8 * j + t) := by
            rw [bitB_at s j t hlt ht8]
            have e7 : 7 - t = q := by omega
            rw [e7]
            have e8 : ((s[j].toNat : Int) / 2 ^ q) = ((s[j].toNat / 2 ^ q : Nat) : Int) := by simp
            have e9 : s[j].toNat / 2 ^ q ≤ s[j].toNat := Nat.div_le_self _ _
            rw [e8]
            generalize s[j].toNat / 2 ^ q = x at e9 ⊢
            rw [and_1 _ (by omega) (by omega)]
            by_cases hx1 : x % 2 = 1
            · simp [hx1]; omega
            · simp [hx1]; omega
          have HST := Lib.hid (show encS s last mfm (8 * j + (t + 1)) = encS s last mfm (8 * j + t) ++ [cellB (wantB mfm (lastS s last (8 * j + t)) (bitB s (8 * j + t))), cellB (bitB s (8 * j + t))] from rfl)
          have HLS := Lib.hid (show lastS s last (8 * j + (t + 1)) = bitB s (8 * j + t) from rfl)
          have k0 := l05Bit_any false
          have k1 := l05Bit_any true
          have K0 := Lib.hid k0; have K1 := Lib.hid k1; clear k0 k1
          have HQ := Lib.hid hq; have HE := Lib.hid eq; clear hq eq
          have hsz2 := hb2.size
          have hll := encS_len s last mfm (8 * j + t)
          have hl4 : (encS s last mfm (8 * j + t)).length < 100000 := by omega
          have HLL := Lib.hid hll; clear hll
          generalize encS s last mfm (8 * j + t) = l at *
          generalize lastS s last (8 * j + t) = la at *
          generalize bitB s (8 * j + t) = bit at *
          cases bit <;> cases la <;> cases mfm
          · go_wp2_with (first
              | (go_at_call 132; first | ((with_reducible refine (K0.out _).mono ?_); rintro e w2 ⟨rfl, rfl⟩) | ((with_reducible refine (K1.out _).mono ?_); rintro e w2 ⟨rfl, rfl⟩))
              | (at_builtin; refine wpList_appendB rfl _ _ rfl rfl (hown2.alloc _) 49 (by decide) (by decide) ⟨wr.heap.size, 0, none⟩ 1 rfl (World.news_of_block (cs := #[.int .u8 49]) (t := 5) (fr := (0, 0)) (heap_alloc_new wr _)) (by first | omega | (simp; omega)) (by simp; omega) ?_; intro g3 cap3 w3 hown3 _ hb3 _; have hb3' := (hb2.alloc hsz2 (.cells #[.int .u8 49] 5)).trans hb3; have hsz3 := hb3'.size)
              | (at_builtin; refine wpList_appendB rfl _ _ rfl rfl (hown3.alloc _) 48 (by decide) (by decide) ⟨w3.heap.size, 0, none⟩ 1 rfl (World.news_of_block (cs := #[.int .u8 48]) (t := 5) (fr := (0, 0)) (heap_alloc_new w3 _)) (by first | omega | (simp; omega)) (by simp; omega) ?_; intro g4 cap4 w4 hown4 _ hb4 _))
            have hb4' := (hb3'.alloc hsz3 (.cells #[.int .u8 48] 5)).trans hb4
            go_roundw
            case rel =>
              have hq2 := HQ.out
              refine ⟨t + 1, by omega, by rw [show (7 - ((t + 1 : Nat) : Int)) = (q : Int) - 1 by omega], by rw [HLS.out], ?_, hb4'⟩
              rw [HST.out]
              show OwnB w4 _ _ (l ++ [49, 48])
              simpa using hown4
            case measure => simp [intOf] <;> omega
          · go_wp2_with (first
              | (go_at_call 132; first | ((with_reducible refine (K0.out _).mono ?_); rintro e w2 ⟨rfl, rfl⟩) | ((with_reducible refine (K1.out _).mono ?_); rintro e w2 ⟨rfl, rfl⟩))
              | (at_builtin; refine wpList_appendB rfl _ _ rfl rfl (hown2.alloc _) 49 (by decide) (by decide) ⟨wr.heap.size, 0, none⟩ 1 rfl (World.news_of_block (cs := #[.int .u8 49]) (t := 5) (fr := (0, 0)) (heap_alloc_new wr _)) (by first | omega | (simp; omega)) (by simp; omega) ?_; intro g3 cap3 w3 hown3 _ hb3 _; have hb3' := (hb2.alloc hsz2 (.cells #[.int .u8 49] 5)).trans hb3; have hsz3 := hb3'.size)
              | (at_builtin; refine wpList_appendB rfl _ _ rfl rfl (hown3.alloc _) 48 (by decide) (by decide) ⟨w3.heap.size, 0, none⟩ 1 rfl (World.news_of_block (cs := #[.int .u8 48]) (t := 5) (fr := (0, 0)) (heap_alloc_new w3 _)) (by first | omega | (simp; omega)) (by simp; omega) ?_; intro g4 cap4 w4 hown4 _ hb4 _))
            have hb4' := (hb3'.alloc hsz3 (.cells #[.int .u8 48] 5)).trans hb4
            go_roundw
            case rel =>
              have hq2 := HQ.out
              refine ⟨t + 1, by omega, by rw [show (7 - ((t + 1 : Nat) : Int)) = (q : Int) - 1 by omega], by rw [HLS.out], ?_, hb4'⟩
              rw [HST.out]
              show OwnB w4 _ _ (l ++ [49, 48])
              simpa using hown4
            case measure => simp [intOf] <;> omega
          · go_wp2_with (first
              | (go_at_call 132; first | ((with_reducible refine (K0.out _).mono ?_); rintro e w2 ⟨rfl, rfl⟩) | ((with_reducible refine (K1.out _).mono ?_); rintro e w2 ⟨rfl, rfl⟩))
              | (at_builtin; refine wpList_appendB rfl _ _ rfl rfl (hown2.alloc _) 49 (by decide) (by decide) ⟨wr.heap.size, 0, none⟩ 1 rfl (World.news_of_block (cs := #[.int .u8 49]) (t := 5) (fr := (0, 0)) (heap_alloc_new wr _)) (by first | omega | (simp; omega)) (by simp; omega) ?_; intro g3 cap3 w3 hown3 _ hb3 _; have hb3' := (hb2.alloc hsz2 (.cells #[.int .u8 49] 5)).trans hb3; have hsz3 := hb3'.size)
              | (at_builtin; refine wpList_appendB rfl _ _ rfl rfl (hown3.alloc _) 48 (by decide) (by decide) ⟨w3.heap.size, 0, none⟩ 1 rfl (World.news_of_block (cs := #[.int .u8 48]) (t := 5) (fr := (0, 0)) (heap_alloc_new w3 _)) (by first | omega | (simp; omega)) (by simp; omega) ?_; intro g4 cap4 w4 hown4 _ hb4 _))
            have hb4' := (hb3'.alloc hsz3 (.cells #[.int .u8 48] 5)).trans hb4
            go_roundw
            case rel =>
              have hq2 := HQ.out
              refine ⟨t + 1, by omega, by rw [show (7 - ((t + 1 : Nat) : Int)) = (q : Int) - 1 by omega], by rw [HLS.out], ?_, hb4'⟩
              rw [HST.out]
              show OwnB w4 _ _ (l ++ [49, 48])
              simpa using hown4
            case measure => simp [intOf] <;> omega
          · go_wp2_with (first
              | (go_at_call 132; first | ((with_reducible refine (K0.out _).mono ?_); rintro e w2 ⟨rfl, rfl⟩) | ((with_reducible refine (K1.out _).mono ?_); rintro e w2 ⟨rfl, rfl⟩))
              | (at_builtin; refine wpList_appendB rfl _ _ rfl rfl (hown2.alloc _) 48 (by decide) (by decide) ⟨wr.heap.size, 0, none⟩ 1 rfl (World.news_of_block (cs := #[.int .u8 48]) (t := 5) (fr := (0, 0)) (heap_alloc_new wr _)) (by first | omega | (simp; omega)) (by simp; omega) ?_; intro g3 cap3 w3 hown3 _ hb3 _; have hb3' := (hb2.alloc hsz2 (.cells #[.int .u8 48] 5)).trans hb3; have hsz3 := hb3'.size)
              | (at_builtin; refine wpList_appendB rfl _ _ rfl rfl (hown3.alloc _) 48 (by decide) (by decide) ⟨w3.heap.size, 0, none⟩ 1 rfl (World.news_of_block (cs := #[.int .u8 48]) (t := 5) (fr := (0, 0)) (heap_alloc_new w3 _)) (by first | omega | (simp; omega)) (by simp; omega) ?_; intro g4 cap4 w4 hown4 _ hb4 _))
            have hb4' := (hb3'.alloc hsz3 (.cells #[.int .u8 48] 5)).trans hb4
            go_roundw
            case rel =>
              have hq2 := HQ.out
              refine ⟨t + 1, by omega, by rw [show (7 - ((t + 1 : Nat) : Int)) = (q : Int) - 1 by omega], by rw [HLS.out], ?_, hb4'⟩
              rw [HST.out]
              show OwnB w4 _ _ (l ++ [48, 48])
              simpa using hown4
            case measure => simp [intOf] <;> omega
          · go_wp2_with (first
              | (go_at_call 132; first | ((with_reducible refine (K0.out _).mono ?_); rintro e w2 ⟨rfl, rfl⟩) | ((with_reducible refine (K1.out _).mono ?_); rintro e w2 ⟨rfl, rfl⟩))
              | (at_builtin; refine wpList_appendB rfl _ _ rfl rfl (hown2.alloc _) 49 (by decide) (by decide) ⟨wr.heap.size, 0, none⟩ 1 rfl (World.news_of_block (cs := #[.int .u8 49]) (t := 5) (fr := (0, 0)) (heap_alloc_new wr _)) (by first | omega | (simp; omega)) (by simp; omega) ?_; intro g3 cap3 w3 hown3 _ hb3 _; have hb3' := (hb2.alloc hsz2 (.cells #[.int .u8 49] 5)).trans hb3; have hsz3 := hb3'.size)
              | (at_builtin; refine wpList_appendB rfl _ _ rfl rfl (hown3.alloc _) 49 (by decide) (by decide) ⟨w3.heap.size, 0, none⟩ 1 rfl (World.news_of_block (cs := #[.int .u8 49]) (t := 5) (fr := (0, 0)) (heap_alloc_new w3 _)) (by first | omega | (simp; omega)) (by simp; omega) ?_; intro g4 cap4 w4 hown4 _ hb4 _))
            have hb4' := (hb3'.alloc hsz3 (.cells #[.int .u8 49] 5)).trans hb4
            go_roundw
            case rel =>
              have hq2 := HQ.out
              refine ⟨t + 1, by omega, by rw [show (7 - ((t + 1 : Nat) : Int)) = (q : Int) - 1 by omega], by rw [HLS.out], ?_, hb4'⟩
              rw [HST.out]
              show OwnB w4 _ _ (l ++ [49, 49])
              simpa using hown4
            case measure => simp [intOf] <;> omega
          · go_wp2_with (first
              | (go_at_call 132; first | ((with_reducible refine (K0.out _).mono ?_); rintro e w2 ⟨rfl, rfl⟩) | ((with_reducible refine (K1.out _).mono ?_); rintro e w2 ⟨rfl, rfl⟩))
              | (at_builtin; refine wpList_appendB rfl _ _ rfl rfl (hown2.alloc _) 48 (by decide) (by decide) ⟨wr.heap.size, 0, none⟩ 1 rfl (World.news_of_block (cs := #[.int .u8 48]) (t := 5) (fr := (0, 0)) (heap_alloc_new wr _)) (by first | omega | (simp; omega)) (by simp; omega) ?_; intro g3 cap3 w3 hown3 _ hb3 _; have hb3' := (hb2.alloc hsz2 (.cells #[.int .u8 48] 5)).trans hb3; have hsz3 := hb3'.size)
              | (at_builtin; refine wpList_appendB rfl _ _ rfl rfl (hown3.alloc _) 49 (by decide) (by decide) ⟨w3.heap.size, 0, none⟩ 1 rfl (World.news_of_block (cs := #[.int .u8 49]) (t := 5) (fr := (0, 0)) (heap_alloc_new w3 _)) (by first | omega | (simp; omega)) (by simp; omega) ?_; intro g4 cap4 w4 hown4 _ hb4 _))
            have hb4' := (hb3'.alloc hsz3 (.cells #[.int .u8 49] 5)).trans hb4
            go_roundw
            case rel =>
              have hq2 := HQ.out
              refine ⟨t + 1, by omega, by rw [show (7 - ((t + 1 : Nat) : Int)) = (q : Int) - 1 by omega], by rw [HLS.out], ?_, hb4'⟩
              rw [HST.out]
              show OwnB w4 _ _ (l ++ [48, 49])
              simpa using hown4
            case measure => simp [intOf] <;> omega
          · go_wp2_with (first
              | (go_at_call 132; first | ((with_reducible refine (K0.out _).mono ?_); rintro e w2 ⟨rfl, rfl⟩) | ((with_reducible refine (K1.out _).mono ?_); rintro e w2 ⟨rfl, rfl⟩))
              | (at_builtin; refine wpList_appendB rfl _ _ rfl rfl (hown2.alloc _) 49 (by decide) (by decide) ⟨wr.heap.size, 0, none⟩ 1 rfl (World.news_of_block (cs := #[.int .u8 49]) (t := 5) (fr := (0, 0)) (heap_alloc_new wr _)) (by first | omega | (simp; omega)) (by simp; omega) ?_; intro g3 cap3 w3 hown3 _ hb3 _; have hb3' := (hb2.alloc hsz2 (.cells #[.int .u8 49] 5)).trans hb3; have hsz3 := hb3'.size)
              | (at_builtin; refine wpList_appendB rfl _ _ rfl rfl (hown3.alloc _) 49 (by decide) (by decide) ⟨w3.heap.size, 0, none⟩ 1 rfl (World.news_of_block (cs := #[.int .u8 49]) (t := 5) (fr := (0, 0)) (heap_alloc_new w3 _)) (by first | omega | (simp; omega)) (by simp; omega) ?_; intro g4 cap4 w4 hown4 _ hb4 _))
            have hb4' := (hb3'.alloc hsz3 (.cells #[.int .u8 49] 5)).trans hb4
            go_roundw
            case rel =>
              have hq2 := HQ.out
              refine ⟨t + 1, by omega, by rw [show (7 - ((t + 1 : Nat) : Int)) = (q : Int) - 1 by omega], by rw [HLS.out], ?_, hb4'⟩
              rw [HST.out]
              show OwnB w4 _ _ (l ++ [49, 49])
              simpa using hown4
            case measure => simp [intOf] <;> omega
          · go_wp2_with (first
              | (go_at_call 132; first | ((with_reducible refine (K0.out _).mono ?_); rintro e w2 ⟨rfl, rfl⟩) | ((with_reducible refine (K1.out _).mono ?_); rintro e w2 ⟨rfl, rfl⟩))
              | (at_builtin; refine wpList_appendB rfl _ _ rfl rfl (hown2.alloc _) 48 (by decide) (by decide) ⟨wr.heap.size, 0, none⟩ 1 rfl (World.news_of_block (cs := #[.int .u8 48]) (t := 5) (fr := (0, 0)) (heap_alloc_new wr _)) (by first | omega | (simp; omega)) (by simp; omega) ?_; intro g3 cap3 w3 hown3 _ hb3 _; have hb3' := (hb2.alloc hsz2 (.cells #[.int .u8 48] 5)).trans hb3; have hsz3 := hb3'.size)
              | (at_builtin; refine wpList_appendB rfl _ _ rfl rfl (hown3.alloc _) 49 (by decide) (by decide) ⟨w3.heap.size, 0, none⟩ 1 rfl (World.news_of_block (cs := #[.int .u8 49]) (t := 5) (fr := (0, 0)) (heap_alloc_new w3 _)) (by first | omega | (simp; omega)) (by simp; omega) ?_; intro g4 cap4 w4 hown4 _ hb4 _))
            have hb4' := (hb3'.alloc hsz3 (.cells #[.int .u8 49] 5)).trans hb4
            go_roundw
            case rel =>
              have hq2 := HQ.out
              refine ⟨t + 1, by omega, by rw [show (7 - ((t + 1 : Nat) : Int)) = (q : Int) - 1 by omega], by rw [HLS.out], ?_, hb4'⟩
              rw [HST.out]
              show OwnB w4 _ _ (l ++ [48, 49])
              simpa using hown4
            case measure => simp [intOf] <;> omega
        · obtain rfl : t = 8 := by omega
          subst hQ
          go_wp2
          go_roundw
          case rel => exact ⟨j + 1, by omega, by go_num, rfl, hown2, hb2⟩
          case measure => simp [intOf]; omega
    · obtain rfl : j = s.size := by omega
      have hcv := conv_own hown
      go_wp2
      go_ret
      exact ⟨rfl, hb⟩
theorem l05Encode_any (s : ByteArray) (last mfm : Bool) (h : s.size ≤ 1048576) (w : World) :
    Calls Tryd.prog 116 #[.string s, .bool last, .bool mfm] w fun e w' => e = .returned (.string (encV s last mfm)) ∧ Below w.heap.size w w' := by
  by_cases h5 : s.size ≤ 500
  · have e : encV s last mfm = ⟨(encS s last mfm (8 * s.size)).toArray⟩ := by unfold encV; rw [if_pos h5]
    rw [e]
    exact l05Encode_yes s last mfm h5 w
  · have e : encV s last mfm = ⟨#[]⟩ := by unfold encV; rw [if_neg h5]
    rw [e]
    have h8 : (8000 : Int) < 16 * s.size := by omega
    clear h5 e
    go_enter Tryd.func116, Tryd.ntmps116
    go_wp2
    go_ret
    exact ⟨rfl, by go_grown⟩
theorem specEncodeFm_any (s : ByteArray) (h : s.size ≤ 1048576) (w : World) :
    Calls Tryd.prog 115 #[.string s] w fun e w' => e = .returned (.string (encV s false false)) ∧ Below w.heap.size w w' := by
  have HC := Lib.hid (fun w => l05Encode_any s false false h w)
  go_enter Tryd.func115, Tryd.ntmps115
  go_wp2_with (go_at_call 116; refine (HC.out _).mono ?_; rintro e w1 ⟨rfl, hb⟩)
  go_ret
  exact ⟨rfl, hb⟩
theorem specEncodeMfm_any (s : ByteArray) (last : Bool) (h : s.size ≤ 1048576) (w : World) :
    Calls Tryd.prog 72 #[.string s, .bool last] w fun e w' => e = .returned (.string (encV s last true)) ∧ Below w.heap.size w w' := by
  have HC := Lib.hid (fun w => l05Encode_any s last true h w)
  go_enter Tryd.func72, Tryd.ntmps72
  go_wp2_with (go_at_call 116; refine (HC.out _).mono ?_; rintro e w1 ⟨rfl, hb⟩)
  go_ret
  exact ⟨rfl, hb⟩
end Go.Proofs.YtffefhgemmjkoaaDoor
