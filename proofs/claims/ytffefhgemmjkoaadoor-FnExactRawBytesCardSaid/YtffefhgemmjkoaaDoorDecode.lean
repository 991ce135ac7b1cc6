/- impl.decodeClocked, impl.DecodeFm, impl.DecodeMfm, spec.l05Decode, spec.DecodeFm, spec.DecodeMfm -/
import Derived.Test.YtffefhgemmjkoaaDoorCellStr
import Derived.Test.YtffefhgemmjkoaaDoorSpecBytesOf
import Derived.Test.YtffefhgemmjkoaaDoorDigitsOf
namespace Go.Proofs.YtffefhgemmjkoaaDoor
open Go.RowKit
set_option maxRecDepth 20000
set_option linter.unusedVariables false
/-- The data cells of the first n pairs. -/
def oddL (s : ByteArray) (n : Nat) : List UInt8 := (List.range n).map fun i => s[2 * i + 1]?.getD 0
theorem oddL_len (s : ByteArray) (n : Nat) : (oddL s n).length = n := by simp [oddL]
theorem oddL_succ (s : ByteArray) (n : Nat) (h : 2 * n + 1 < s.size) : oddL s (n + 1) = oddL s n ++ [s[2 * n + 1]] := by
  simp [oddL, List.range_succ, h]
def oddS (s : ByteArray) : ByteArray := ⟨(oddL s (s.size / 2)).toArray⟩
theorem oddS_size (s : ByteArray) : (oddS s).size = s.size / 2 := by
  show (oddL s (s.size / 2)).toArray.size = _
  rw [List.size_toArray, oddL_len]
/-- The data bit of pair i. -/
def dd (s : ByteArray) (i : Nat) : Int := dig1 (s[2 * i + 1]?.getD 0).toNat
theorem dd_at (s : ByteArray) (i : Nat) (h : 2 * i + 1 < s.size) : dd s i = dig1 s[2 * i + 1].toNat := by
  show dig1 (s[2 * i + 1]?.getD 0).toNat = _
  rw [getElem?_pos s (2 * i + 1) h]; rfl
theorem digAt_odd (s : ByteArray) (i : Nat) : digAt dig1 (oddS s) i = dd s i := by
  have e : (oddS s)[i]?.getD 0 = s[2 * i + 1]?.getD 0 := by
    have hsz := oddS_size s
    by_cases h : i < s.size / 2
    · have h2 : i < (oddS s).size := by omega
      rw [getElem?_pos _ i h2]
      show (oddL s (s.size / 2)).toArray[i] = _
      simp only [oddL, List.getElem_toArray, List.getElem_map, List.getElem_range]
    · have h2 : ¬ i < (oddS s).size := by omega
      rw [getElem?_neg _ i h2, getElem?_neg s (2 * i + 1) (by omega)]
  unfold digAt dd
  rw [e]
theorem accV_ext {p : Int} {d d' : Nat → Int} (h : ∀ i, d i = d' i) (k : Nat) : accV p d k = accV p d' k := by
  have : d = d' := funext h
  rw [this]
theorem odd_dig {s : ByteArray} (hc : cellStr s = true) (h16 : s.size % 16 = 0) : ofDig 2 8 dig1 (oddS s) = some (accO 2 8 (dd s) (s.size / 2)) := by
  have hsz := oddS_size s
  have h8 := cellStr_size hc
  unfold ofDig
  rw [if_pos (by omega)]
  have hok : digOk dig1 (oddS s) (oddS s).size = true := by
    unfold digOk
    rw [List.all_eq_true]
    intro j hj
    rw [List.mem_range, hsz] at hj
    rw [digAt_odd, dd_at s j (by omega)]
    have := cellStr_cell hc (2 * j + 1) (by omega)
    rcases this with h | h <;> rw [h] <;> rfl
  rw [if_pos hok, hsz]
  have : digAt dig1 (oddS s) = dd s := funext (digAt_odd s)
  rw [this]
/-- What a decoder answers. -/
def decV (s : ByteArray) : Option (List UInt8) := if cellStr s = true ∧ s.size % 16 = 0 then some (accO 2 8 (dd s) (s.size / 2)) else none
set_option maxHeartbeats 4000000 in
theorem decodeClocked_any (s : ByteArray) (h : s.size ≤ 1048576) (w : World) :
    Calls Tryd.prog 68 #[.string s] w fun e w' => e = .returned (ofDigText (decV s)) ∧ Below w.heap.size w w' := by
  have hv := fun w => isCellString_any s w (by unfold maxLen; omega)
  by_cases hc : cellStr s = true
  · by_cases h2 : s.size % 16 = 0
    · have hE : decV s = ofDig 2 8 dig1 (oddS s) := by unfold decV; rw [if_pos ⟨hc, h2⟩, odd_dig hc h2]
      have hs8 := cellStr_size hc
      rw [hE]
      rw [hc] at hv
      have HB := Lib.hid (fun w => bytesOf_any (oddS s) w)
      obtain ⟨t, b, ht⟩ := ofDigText_parts (ofDig 2 8 dig1 (oddS s))
      rw [ht] at HB ⊢
      have HV := Lib.hid hv; clear hv hE hc ht
      have h2' : (s.size : Int) % 16 = 0 := by omega
      have H2 := Lib.hid h2; clear h2
      go_enter Tryd.func68, Tryd.ntmps68
      go_wp2_with (go_at_call 59; refine (HV.out _).mono ?_; rintro e w1 ⟨rfl, hb1⟩)
      clear h2'
      have hsz1 := hb1.size
      go_loopw [5] (fun i wr => ∃ j : Nat, 2 * j ≤ s.size ∧ i = .int .i64 ((2 * j + 1 : Nat) : Int) ∧ (∃ l : List UInt8, Hid (l = oddL s j) ∧ l.length = j ∧ Bld w1.heap.size w1.heap.size l wr) ∧ Below w1.heap.size w1 wr) (fun i _ => s.size + 1 - (intOf i).toNat)
      case atStart => exact ⟨0, Nat.zero_le _, rfl, ⟨[], by unfold Hid; rfl, rfl, Bld.fresh w1⟩, (Below.refl _ _).alloc (Nat.le_refl _) _⟩
      case round =>
        obtain ⟨j, hj, rfl, ⟨l, hL, hl, hB⟩, hbr⟩ := hrel
        have hsz := hbr.size
        have hlb : l.length < 1000000 := by omega
        have HL := Lib.hid hl; clear hl
        obtain ⟨k, hk⟩ : ∃ k, 2 * j + 1 = k := ⟨_, rfl⟩
        have HO := Lib.hid (oddL_succ s j)
        rw [hk] at HO ⊢
        by_cases hlt : k < s.size
        · have hbd := byte_bd s[k]
          have HJ := Lib.hid hk; clear hk
          go_wp2_with fail
          refine (writeByte_any w1.heap.size w1.heap.size l (s[k].toNat : Int) _ hbd.1 hbd.2 hB (by omega) hsz).mono ?_
          rintro e wr1 ⟨rfl, hB1', hbw1⟩
          go_wp2
          rw [byte_back] at hB1'
          go_roundw
          case rel =>
            have hj2 := HJ.out
            exact ⟨j + 1, by omega, by rw [show ((2 * (j + 1) + 1 : Nat) : Int) = (k : Int) + 2 by omega], ⟨_, by unfold Hid; rw [HO.out hlt, hL.out], by simp; exact HL.out, hB1'⟩, hbr.trans hbw1⟩
          case measure => simp [intOf]; omega
        · have hj2 : s.size / 2 = j := by have := H2.out; omega
          have hoS : oddS s = ⟨l.toArray⟩ := by unfold oddS; rw [hj2, hL.out]
          rw [hoS] at HB
          have HJ := Lib.hid hk; clear hk hoS hj2
          go_wp2_with (first
            | (go_at_call 56; refine (Tryd.Builder_String_any w1.heap.size w1.heap.size l _ hB hsz).mono ?_; rintro e w2 ⟨rfl, hb2⟩)
            | (go_at_call 114; refine (HB.out _).mono ?_; rintro e w3 ⟨rfl, hb3⟩))
          go_ret2
          have h12 := hbr.trans hb2
          exact ⟨rfl, (hb1.trans (h12.mono hsz1)).trans (hb3.mono (Nat.le_trans hsz1 h12.size))⟩
    · have h2' : ¬ (s.size : Int) % 16 = 0 := by omega
      have hE : decV s = none := by unfold decV; rw [if_neg (by omega)]
      rw [hc] at hv
      rw [hE]
      have HV := Lib.hid hv; clear hv hE hc h2
      go_enter Tryd.func68, Tryd.ntmps68
      go_wp2_with (go_at_call 59; refine (HV.out _).mono ?_; rintro e w1 ⟨rfl, hb1⟩)
      go_ret2
      exact ⟨rfl, hb1⟩
  · have hc0 : cellStr s = false := by simpa using hc
    have hE : decV s = none := by unfold decV; rw [if_neg (fun h => hc h.1)]
    rw [hc0] at hv
    rw [hE]
    have HV := Lib.hid hv; clear hv hE hc hc0
    go_enter Tryd.func68, Tryd.ntmps68
    go_wp2_with (go_at_call 59; refine (HV.out _).mono ?_; rintro e w1 ⟨rfl, hb1⟩)
    go_ret2
    exact ⟨rfl, hb1⟩
end Go.Proofs.YtffefhgemmjkoaaDoor
