/- spec.BytesOf -/
import Derived.Test.YtffefhgemmjkoaaDoorReadHex
import Derived.WalkMore
namespace Go.Proofs.YtffefhgemmjkoaaDoor
open Go.RowKit
set_option maxRecDepth 20000
set_option linter.unusedVariables false
/-- What t bits from place k on come to. -/
def bitV (d : Nat → Int) (k : Nat) : Nat → Int
  | 0 => 0
  | t + 1 => (bitV d k t * 2 + d (k + t)) % 256
theorem bitV_bd (d : Nat → Int) (k t : Nat) : 0 ≤ bitV d k t ∧ bitV d k t < 256 := by
  cases t with
  | zero => simp [bitV]
  | succ t => unfold bitV; omega
theorem accV_bits (d : Nat → Int) (k t : Nat) : accV 2 d (k + t) % 256 = (bitV d k t + accV 2 d k * 2 ^ t) % 256 := by
  induction t with
  | zero => simp [bitV]
  | succ t ih =>
    show ((accV 2 d (k + t) * 2 + d (k + t)) % 256) % 256 = _
    unfold bitV
    rw [Int.pow_succ, ← Int.mul_assoc]
    generalize accV 2 d (k + t) = x at ih ⊢
    generalize accV 2 d k * 2 ^ t = z at ih ⊢
    generalize bitV d k t = y at ih ⊢
    omega
theorem accV_eight (d : Nat → Int) (k : Nat) : accV 2 d (k + 8) = bitV d k 8 := by
  have h := accV_bits d k 8
  have h1 := accV_bd 2 d (k + 8)
  have h2 := bitV_bd d k 8
  have e : accV 2 d k * 2 ^ 8 = accV 2 d k * 256 := rfl
  rw [e] at h
  omega
theorem accO_eight (d : Nat → Int) (j : Nat) : accO 2 8 d (8 * (j + 1)) = accO 2 8 d (8 * j) ++ [(bitV d (8 * j) 8).toNat.toUInt8] := by
  have step : ∀ t, t < 7 → accO 2 8 d (8 * j + (t + 1)) = accO 2 8 d (8 * j + t) := by
    intro t ht
    show (if (8 * j + t + 1) % 8 = 0 then _ else accO 2 8 d (8 * j + t)) = _
    rw [if_neg (by omega)]
  have e7 : accO 2 8 d (8 * j + 7) = accO 2 8 d (8 * j) := by
    rw [step 6 (by omega), step 5 (by omega), step 4 (by omega), step 3 (by omega), step 2 (by omega), step 1 (by omega), step 0 (by omega)]
    rfl
  have e8 : 8 * (j + 1) = 8 * j + 7 + 1 := by omega
  rw [e8]
  show (if (8 * j + 7 + 1) % 8 = 0 then accO 2 8 d (8 * j + 7) ++ [(accV 2 d (8 * j + 8)).toNat.toUInt8] else _) = _
  rw [if_pos (by omega), e7, accV_eight]
theorem digOk_add (f : Nat → Int) (s : ByteArray) (k t : Nat) : digOk f s (k + (t + 1)) = (digOk f s (k + t) && decide (0 ≤ digAt f s (k + t))) := digOk_succ f s (k + t)
set_option maxHeartbeats 8000000 in
theorem specBytesOf_yes (s : ByteArray) (h1 : s.size % 8 = 0) (h2 : s.size ≤ 32768) (w : World) :
    Calls Tryd.prog 113 #[.string s] w fun e w' => e = .returned (ofDigText (ofDig 2 8 dig1 s)) ∧ Below w.heap.size w w' := by
  have hE := Lib.hid (show ofDig 2 8 dig1 s = if digOk dig1 s s.size = true then some (accO 2 8 (digAt dig1 s) s.size) else none by unfold ofDig; rw [if_pos ⟨h1, by omega⟩])
  have h1' : (s.size : Int) % 8 = 0 := by omega
  have h2' : (s.size : Int) ≤ 32768 := by omega
  go_enter Tryd.func113, Tryd.ntmps113
  go_wp2
  clear h1'
  go_loopw [4, 5, 6, 7] (fun v i _ _ wr => ∃ j : Nat, 8 * j ≤ s.size ∧ i = .int .i64 ((8 * j : Nat) : Int) ∧ OwnB wr w.heap.size v (accO 2 8 (digAt dig1 s) (8 * j)) ∧ Hid (digOk dig1 s (8 * j) = true) ∧ Below w.heap.size w wr) (fun _ i _ _ _ => s.size - (intOf i).toNat)
  case atStart => exact ⟨0, Nat.zero_le _, rfl, OwnB.nil w _ (Nat.le_refl _), by unfold Hid; rfl, (Below.refl _ _).alloc (Nat.le_refl _) _⟩
  case round =>
    obtain ⟨j, hj, rfl, hown, hok, hb⟩ := hrel
    obtain ⟨k, hk⟩ : ∃ k, 8 * j = k := ⟨_, rfl⟩
    have hosucc := Lib.hid (accO_eight (digAt dig1 s) j)
    rw [hk] at hj hown hok hosucc ⊢
    by_cases hlt : k < s.size
    · have e0 : (k : Int) < s.size := by omega
      have hsz := hb.size
      have hll := accO_length 2 8 (digAt dig1 s) k
      generalize accO 2 8 (digAt dig1 s) k = l at *
      have hdig : ∀ t (ht : k + t < s.size), digAt dig1 s (k + t) = dig1 s[k + t].toNat := fun t ht => digAt_eq dig1 s (k + t) ht
      have hk8 : k + 8 ≤ s.size := by omega
      have HHH := Lib.hid (And.intro hown (And.intro hb hsz)); clear hown hb hsz
      go_wp2
      go_hide hQ
      go_loopw [6, 7] (fun n t wr2 => ∃ q : Nat, q ≤ 8 ∧ t = .int .i64 (q : Int) ∧ n = .int .u8 (bitV (digAt dig1 s) k q) ∧ Hid (digOk dig1 s (k + q) = true) ∧ wr2 = wr) (fun _ t _ => 8 - (intOf t).toNat)
      case atStart => exact ⟨0, Nat.zero_le _, rfl, rfl, hok, rfl⟩
      case round =>
        obtain ⟨q, hq, rfl, rfl, hokq, rfl⟩ := hrel
        by_cases hq8 : q < 8
        · have hlt1 : k + q < s.size := by omega
          have hdq := hdig q hlt1
          have e1 : (k : Int) + (q : Int) < s.size := by omega
          have ew : IntKind.i64.wrap ((k : Int) + (q : Int)) = (k : Int) + (q : Int) := wrap_small _ (by omega) (by omega)
          have en : ((k : Int) + (q : Int)).toNat = k + q := by omega
          have hx0 := s[k + q].toNat_lt
          have hs0 := Lib.hid (digOk_add dig1 s k q)
          have hno := Lib.hid (fun h => digOk_no dig1 s s.size (k + q) hlt1 h)
          obtain ⟨c, hc⟩ : ∃ c, s[k + q].toNat = c := ⟨_, rfl⟩
          rw [hc] at hx0 hdq
          have hbv := bitV_bd (digAt dig1 s) k q
          have hsv := Lib.hid (show bitV (digAt dig1 s) k (q + 1) = (bitV (digAt dig1 s) k q * 2 + digAt dig1 s (k + q)) % 256 from rfl)
          rw [hdq] at hs0 hno hsv
          clear hdq hdig
          generalize bitV (digAt dig1 s) k q = v at *
          by_cases h48 : c = 48
          · subst h48
            have hor := or1_any hbv.1 hbv.2 (show (0 : Int) ≤ 0 by omega) (show (0 : Int) < 2 by omega)
            have ha : bits .and .u8 48 1 = 0 := by decide
            have hd48 : dig1 48 = 0 := rfl
            rw [hd48] at hs0 hsv
            go_wp2
            go_roundw
            case rel =>
              refine ⟨q + 1, by omega, by go_num, by rw [hsv.out]; simp, ?_, trivial⟩
              unfold Hid; rw [hs0.out, hokq.out]; rfl
            case measure => simp [intOf]; omega
          · by_cases h49 : c = 49
            · subst h49
              have hor := or1_any hbv.1 hbv.2 (show (0 : Int) ≤ 1 by omega) (show (1 : Int) < 2 by omega)
              have ha : bits .and .u8 49 1 = 1 := by decide
              have hd49 : dig1 49 = 1 := rfl
              rw [hd49] at hs0 hsv
              go_wp2
              go_roundw
              case rel =>
                refine ⟨q + 1, by omega, by go_num, by rw [hsv.out], ?_, trivial⟩
                unfold Hid; rw [hs0.out, hokq.out]; rfl
              case measure => simp [intOf]; omega
            · have hdn : dig1 c = -1 := by unfold dig1; rw [if_neg h48, if_neg h49]
              rw [hdn] at hno
              have hEn := hE.out
              rw [hno.out (by omega)] at hEn
              have HEn := Lib.hid hEn; clear hEn
              have n48 : ((c : Int) != 48) = true := by rw [bne_iff_ne]; omega
              have n49 : ((c : Int) != 49) = true := by rw [bne_iff_ne]; omega
              go_wp2
              all_goals
                subst hQ
                go_wp2
                go_ret2
                exact ⟨by rw [HEn.out]; rfl, HHH.out.2.1⟩
        · obtain rfl : q = 8 := by omega
          have hbv := bitV_bd (digAt dig1 s) k 8
          obtain ⟨n, hn⟩ : ∃ n, bitV (digAt dig1 s) k 8 = n := ⟨_, rfl⟩
          rw [hn] at hbv
          have HN := Lib.hid hn
          obtain ⟨hown, hb, hsz⟩ := HHH.out
          subst hQ
          go_wp2_with (at_builtin; refine wpList_appendB rfl _ _ rfl rfl (hown.alloc _) n hbv.1 hbv.2 ⟨wr.heap.size, 0, none⟩ 1 rfl (World.news_of_block (cs := #[.int .u8 n]) (t := 5) (fr := (0, 0)) (heap_alloc_new wr _)) (by omega) (by simp; omega) ?_; intro g cap w3 hown3 _ hb3 _)
          go_roundw
          case rel =>
            refine ⟨j + 1, by omega, by go_num, ?_, ?_, (hb.alloc hsz _).trans (hb3.mono (by omega))⟩
            · rw [hosucc.out, HN.out]; exact hown3
            · have e2 : 8 * (j + 1) = k + 8 := by omega
              rw [e2]; exact hokq
          case measure => simp [intOf]; omega
    · obtain rfl : k = s.size := by omega
      have hcv := conv_own hown
      have hEn := hE.out
      rw [hok.out] at hEn
      have HEn := Lib.hid hEn; clear hEn
      go_wp2
      go_ret2
      exact ⟨by rw [HEn.out]; rfl, hb⟩
set_option maxHeartbeats 1000000 in
theorem specBytesOf_any (s : ByteArray) (w : World) :
    Calls Tryd.prog 113 #[.string s] w fun e w' => e = .returned (ofDigText (ofDig 2 8 dig1 s)) ∧ Below w.heap.size w w' := by
  by_cases h1 : s.size % 8 = 0
  · by_cases h2 : s.size ≤ 32768
    · exact specBytesOf_yes s h1 h2 w
    · rw [ofDig_none (by omega)]
      have h1' : (s.size : Int) % 8 = 0 := by omega
      have h2' : 32768 < (s.size : Int) := by omega
      clear h1 h2
      go_enter Tryd.func113, Tryd.ntmps113
      go_wp2
      go_ret2
      exact ⟨rfl, Below.refl _ _⟩
  · rw [ofDig_none (by omega)]
    have h1' : ¬ (s.size : Int) % 8 = 0 := by omega
    clear h1
    go_enter Tryd.func113, Tryd.ntmps113
    go_wp2
    go_ret2
    exact ⟨rfl, Below.refl _ _⟩
end Go.Proofs.YtffefhgemmjkoaaDoor
