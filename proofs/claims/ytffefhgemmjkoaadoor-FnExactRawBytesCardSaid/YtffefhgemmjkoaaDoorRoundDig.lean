/- The digits of bytes give the bytes back. -/
import Derived.Test.YtffefhgemmjkoaaDoorSpecDigits
import Derived.Test.YtffefhgemmjkoaaDoorSpecReadHex
import Derived.Test.YtffefhgemmjkoaaDoorSpecBytesOf
namespace Go.Proofs.YtffefhgemmjkoaaDoor
open Go.RowKit
set_option maxRecDepth 20000
set_option linter.unusedVariables false
theorem dig1_hexd (n : Nat) (h : n < 2) : dig1 (hexd n).toNat = n := by
  have : n = 0 ∨ n = 1 := by omega
  rcases this with rfl | rfl <;> rfl
theorem dig4_hexd : ∀ n : Fin 16, dig4 (hexd n.val).toNat = n.val := by decide +kernel
theorem digAt_list (f : Nat → Int) (l : List UInt8) (k : Nat) : digAt f ⟨l.toArray⟩ k = f (l[k]?.getD 0).toNat := by
  unfold digAt
  congr 2
  by_cases h : k < l.length
  · have h2 : k < (⟨l.toArray⟩ : ByteArray).size := by simpa [ByteArray.size] using h
    rw [getElem?_pos _ k h2, List.getElem?_eq_getElem h]
    rfl
  · have h2 : ¬ k < (⟨l.toArray⟩ : ByteArray).size := by simpa [ByteArray.size] using h
    rw [getElem?_neg _ k h2, List.getElem?_eq_none (by omega)]
theorem digits1_get (l : List UInt8) (i t : Nat) (hi : i < l.length) (ht : t < 8) : (digits1 l)[8 * i + t]? = (digs1 l[i])[t]? := by
  have e : l = l.take i ++ l[i] :: l.drop (i + 1) := by rw [← List.drop_eq_getElem_cons hi, List.take_append_drop]
  have e2 : digits1 l = digits1 (l.take i) ++ (digs1 l[i] ++ digits1 (l.drop (i + 1))) :=
    (congrArg digits1 e).trans (by simp only [digits1, List.flatMap_append, List.flatMap_cons])
  have hl : (digits1 (l.take i)).length = 8 * i := by rw [digits1_length, List.length_take]; omega
  have h8 : (digs1 l[i]).length = 8 := rfl
  rw [e2, List.getElem?_append_right (by omega), hl, Nat.add_sub_cancel_left, List.getElem?_append_left (by omega)]
theorem digits4_get (l : List UInt8) (i t : Nat) (hi : i < l.length) (ht : t < 2) : (digits4 l)[2 * i + t]? = (digs4 l[i])[t]? := by
  have e : l = l.take i ++ l[i] :: l.drop (i + 1) := by rw [← List.drop_eq_getElem_cons hi, List.take_append_drop]
  have e2 : digits4 l = digits4 (l.take i) ++ (digs4 l[i] ++ digits4 (l.drop (i + 1))) :=
    (congrArg digits4 e).trans (by simp only [digits4, List.flatMap_append, List.flatMap_cons])
  have hl : (digits4 (l.take i)).length = 2 * i := by rw [digits4_length, List.length_take]; omega
  have h8 : (digs4 l[i]).length = 2 := rfl
  rw [e2, List.getElem?_append_right (by omega), hl, Nat.add_sub_cancel_left, List.getElem?_append_left (by omega)]
theorem bit_at (l : List UInt8) (i : Nat) (hi : i < l.length) (t : Nat) (ht : t < 8) : digAt dig1 ⟨(digits1 l).toArray⟩ (8 * i + t) = ((l[i].toNat / 2 ^ (7 - t) % 2 : Nat) : Int) := by
  rw [digAt_list, digits1_get l i t hi ht]
  have : t = 0 ∨ t = 1 ∨ t = 2 ∨ t = 3 ∨ t = 4 ∨ t = 5 ∨ t = 6 ∨ t = 7 := by omega
  rcases this with rfl | rfl | rfl | rfl | rfl | rfl | rfl | rfl
  all_goals exact dig1_hexd _ (by omega)
theorem nib_at (l : List UInt8) (i : Nat) (hi : i < l.length) : digAt dig4 ⟨(digits4 l).toArray⟩ (2 * i) = ((l[i].toNat / 16 % 16 : Nat) : Int) ∧ digAt dig4 ⟨(digits4 l).toArray⟩ (2 * i + 1) = ((l[i].toNat % 16 : Nat) : Int) := by
  constructor
  · have := digits4_get l i 0 hi (by omega)
    rw [Nat.add_zero] at this
    rw [digAt_list, this]
    exact dig4_hexd ⟨l[i].toNat / 16 % 16, by omega⟩
  · rw [digAt_list, digits4_get l i 1 hi (by omega)]
    have := dig4_hexd ⟨l[i].toNat / 1 % 16, by omega⟩
    have e1 : l[i].toNat / 1 % 16 = l[i].toNat % 16 := by omega
    show dig4 (hexd (l[i].toNat / 1 % 16)).toNat = _
    rw [this]
    show ((l[i].toNat / 1 % 16 : Nat) : Int) = _
    rw [e1]
theorem bitV_byte (d : Nat → Int) (k c : Nat) (hc : c < 256) (h : ∀ t, t < 8 → d (k + t) = ((c / 2 ^ (7 - t) % 2 : Nat) : Int)) : bitV d k 8 = c := by
  have h0 : d (k + 0) = ((c / 128 % 2 : Nat) : Int) := h 0 (by omega)
  have h1 : d (k + 1) = ((c / 64 % 2 : Nat) : Int) := h 1 (by omega)
  have h2 : d (k + 2) = ((c / 32 % 2 : Nat) : Int) := h 2 (by omega)
  have h3 : d (k + 3) = ((c / 16 % 2 : Nat) : Int) := h 3 (by omega)
  have h4 : d (k + 4) = ((c / 8 % 2 : Nat) : Int) := h 4 (by omega)
  have h5 : d (k + 5) = ((c / 4 % 2 : Nat) : Int) := h 5 (by omega)
  have h6 : d (k + 6) = ((c / 2 % 2 : Nat) : Int) := h 6 (by omega)
  have h7 : d (k + 7) = ((c / 1 % 2 : Nat) : Int) := h 7 (by omega)
  have b1 : bitV d k 1 = ((c / 128 : Nat) : Int) := by
    show (0 * 2 + d (k + 0)) % 256 = _
    rw [h0]; omega
  have b2 : bitV d k 2 = ((c / 64 : Nat) : Int) := by
    show (bitV d k 1 * 2 + d (k + 1)) % 256 = _
    rw [b1, h1]; omega
  have b3 : bitV d k 3 = ((c / 32 : Nat) : Int) := by
    show (bitV d k 2 * 2 + d (k + 2)) % 256 = _
    rw [b2, h2]; omega
  have b4 : bitV d k 4 = ((c / 16 : Nat) : Int) := by
    show (bitV d k 3 * 2 + d (k + 3)) % 256 = _
    rw [b3, h3]; omega
  have b5 : bitV d k 5 = ((c / 8 : Nat) : Int) := by
    show (bitV d k 4 * 2 + d (k + 4)) % 256 = _
    rw [b4, h4]; omega
  have b6 : bitV d k 6 = ((c / 4 : Nat) : Int) := by
    show (bitV d k 5 * 2 + d (k + 5)) % 256 = _
    rw [b5, h5]; omega
  have b7 : bitV d k 7 = ((c / 2 : Nat) : Int) := by
    show (bitV d k 6 * 2 + d (k + 6)) % 256 = _
    rw [b6, h6]; omega
  have b8 : bitV d k 8 = ((c / 1 : Nat) : Int) := by
    show (bitV d k 7 * 2 + d (k + 7)) % 256 = _
    rw [b7, h7]; omega
  rw [b8]; omega
theorem accO_bits (l : List UInt8) (i : Nat) (hi : i ≤ l.length) : accO 2 8 (digAt dig1 ⟨(digits1 l).toArray⟩) (8 * i) = l.take i := by
  induction i with
  | zero => rfl
  | succ i ih =>
    have hlt : i < l.length := by omega
    rw [accO_eight, ih (by omega), bitV_byte _ (8 * i) l[i].toNat l[i].toNat_lt (fun t ht => bit_at l i hlt t ht), List.take_succ_eq_append_getElem hlt]
    simp
theorem accO_nibs (l : List UInt8) (i : Nat) (hi : i ≤ l.length) : accO 16 2 (digAt dig4 ⟨(digits4 l).toArray⟩) (2 * i) = l.take i := by
  induction i with
  | zero => rfl
  | succ i ih =>
    have hlt : i < l.length := by omega
    obtain ⟨n0, n1⟩ := nib_at l i hlt
    have hc := l[i].toNat_lt
    rw [accO_two, ih (by omega), accV_two _ (2 * i) (by rw [n0]; omega) (by rw [n0]; omega) (by rw [n1]; omega) (by rw [n1]; omega), n0, n1, List.take_succ_eq_append_getElem hlt]
    have e : ((16 : Int) * ((l[i].toNat / 16 % 16 : Nat) : Int) + ((l[i].toNat % 16 : Nat) : Int)).toNat = l[i].toNat := by omega
    rw [e]
    simp
theorem bytesOf_bits (s : ByteArray) (h : s.size ≤ 4096) : ofDig 2 8 dig1 (bitsOfS s) = some s.data.toList := by
  have hl : s.data.toList.length = s.size := Array.length_toList
  have hz : (bitsOfS s).size = 8 * s.size := by
    rw [bitsOfS_ok (by omega)]
    show (digits1 s.data.toList).toArray.size = _
    rw [List.size_toArray, digits1_length, hl]
  have hk : digOk dig1 (bitsOfS s) (bitsOfS s).size = true := by
    unfold digOk
    rw [List.all_eq_true]
    intro j hj
    rw [List.mem_range, hz] at hj
    rw [bitsOfS_ok (by omega)]
    have := bit_at s.data.toList (j / 8) (by omega) (j % 8) (by omega)
    rw [Nat.div_add_mod] at this
    apply decide_eq_true
    rw [this]
    omega
  unfold ofDig
  rw [if_pos (by omega), if_pos hk, hz]
  have := accO_bits s.data.toList s.size (by omega)
  rw [← bitsOfS_ok (by omega)] at this
  rw [this, List.take_of_length_le (by omega)]
theorem readHex_hex (s : ByteArray) (h : s.size ≤ 4096) : ofDig 16 2 dig4 (hexTextS s) = some s.data.toList := by
  have hl : s.data.toList.length = s.size := Array.length_toList
  have hz : (hexTextS s).size = 2 * s.size := by
    rw [hexTextS_ok (by omega)]
    show (digits4 s.data.toList).toArray.size = _
    rw [List.size_toArray, digits4_length, hl]
  have hk : digOk dig4 (hexTextS s) (hexTextS s).size = true := by
    unfold digOk
    rw [List.all_eq_true]
    intro j hj
    rw [List.mem_range, hz] at hj
    rw [hexTextS_ok (by omega)]
    obtain ⟨n0, n1⟩ := nib_at s.data.toList (j / 2) (by omega)
    apply decide_eq_true
    have hj2 : j = 2 * (j / 2) ∨ j = 2 * (j / 2) + 1 := by omega
    rcases hj2 with e | e
    · rw [e, n0]; omega
    · rw [e, n1]; omega
  unfold ofDig
  rw [if_pos (by omega), if_pos hk, hz]
  have := accO_nibs s.data.toList s.size (by omega)
  rw [← hexTextS_ok (by omega)] at this
  rw [this, List.take_of_length_le (by omega)]
end Go.Proofs.YtffefhgemmjkoaaDoor
