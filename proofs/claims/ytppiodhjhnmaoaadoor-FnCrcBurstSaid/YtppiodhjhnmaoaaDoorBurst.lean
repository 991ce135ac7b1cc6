/- A change within sixteen consecutive bits: plain facts. -/
import Derived.Test.YtppiodhjhnmaoaaDoorRoundCrc
namespace Go.Proofs.YtppiodhjhnmaoaaDoor
open Go.RowKit
set_option maxRecDepth 20000
set_option linter.unusedVariables false
def bitOf (d : ByteArray) (i : Nat) : Nat := (d[i / 8]?.getD 0).toNat / 2 ^ (7 - i % 8) % 2
def stB (d : ByteArray) (v : Nat) : Nat → Nat
  | 0 => v
  | i + 1 => bitS (stB d v i) (bitOf d i)
theorem stB_lt (d : ByteArray) (v i : Nat) (hv : v < 65536) : stB d v i < 65536 := by
  cases i with
  | zero => exact hv
  | succ i => exact bitS_bd _ _
theorem stB_bitT (d : ByteArray) (v n t : Nat) (ht : t ≤ 8) : stB d v (8 * n + t) = bitT (stB d v (8 * n)) (d[n]?.getD 0).toNat t := by
  induction t with
  | zero => rfl
  | succ t ih =>
    have e1 : (8 * n + t) / 8 = n := by omega
    have e2 : (8 * n + t) % 8 = t := by omega
    show bitS (stB d v (8 * n + t)) (bitOf d (8 * n + t)) = bitS (bitT (stB d v (8 * n)) (d[n]?.getD 0).toNat t) ((d[n]?.getD 0).toNat / 2 ^ (7 - t) % 2)
    rw [ih (by omega)]
    unfold bitOf
    rw [e1, e2]
theorem crcT_stB (d : ByteArray) (v n : Nat) (hv : v < 65536) : crcT d v n = stB d v (8 * n) := by
  induction n with
  | zero => rfl
  | succ n ih =>
    have hx := (d[n]?.getD 0).toNat_lt
    have h := stB_bitT d v n 8 (by omega)
    have e : 8 * (n + 1) = 8 * n + 8 := by omega
    rw [e, h, ← ih, bitT_8 _ _ (crcT_bd d v n hv) (by omega)]
    rfl
theorem bitS_even (v b w : Nat) (hv : v < 65536) (hb : b < 2) (h : bitS v b = w) (hw : w % 2 = 0) : v = b * 32768 + w / 2 := by
  unfold bitS at h
  split at h
  · omega
  · exfalso
    have h2 := @Nat.xor_mod_two_pow (2 * v % 65536) 4129 1
    rw [h, show (2 * v % 65536) % 2 ^ 1 = 0 by omega, show 4129 % 2 ^ 1 = 1 by decide, Nat.zero_xor] at h2
    omega
theorem bitOf_lt (d : ByteArray) (i : Nat) : bitOf d i < 2 := Nat.mod_lt _ (by decide)
theorem stB_zeros (d : ByteArray) (i m : Nat) (hz : ∀ j, j < m → bitOf d (i + j) = 0) (h : stB d 0 i = 0) : stB d 0 (i + m) = 0 := by
  induction m with
  | zero => exact h
  | succ m ih =>
    show bitS (stB d 0 (i + m)) (bitOf d (i + m)) = 0
    rw [ih (fun j hj => hz j (by omega)), hz m (by omega)]
    rfl
theorem stB_back (d : ByteArray) (i m : Nat) (hz : ∀ j, j < m → bitOf d (i + j) = 0) (h : stB d 0 (i + m) = 0) : stB d 0 i = 0 := by
  induction m with
  | zero => exact h
  | succ m ih =>
    have h2 : bitS (stB d 0 (i + m)) (bitOf d (i + m)) = 0 := h
    have h3 := bitS_even _ _ 0 (stB_lt d 0 (i + m) (by omega)) (bitOf_lt d (i + m)) h2 rfl
    rw [hz m (by omega)] at h3
    exact ih (fun j hj => hz j (by omega)) (by omega)
theorem stB_win (d : ByteArray) (i : Nat) (h : stB d 0 (i + 16) = 0) : ∀ j, j ≤ 16 → ∃ y, stB d 0 (i + (16 - j)) = 2 ^ (16 - j) * y := by
  intro j
  induction j with
  | zero => intro _; exact ⟨0, by simpa using h⟩
  | succ j ih =>
    intro hj
    obtain ⟨y, hy⟩ := ih (by omega)
    obtain ⟨q, hq⟩ : ∃ q, 16 - j = q + 1 := ⟨15 - j, by omega⟩
    have hq2 : 16 - (j + 1) = q := by omega
    rw [hq] at hy
    rw [hq2]
    have h2 : bitS (stB d 0 (i + q)) (bitOf d (i + q)) = 2 ^ (q + 1) * y := hy
    have e : 2 ^ (q + 1) * y = 2 * (2 ^ q * y) := by rw [Nat.pow_succ, Nat.mul_comm (2 ^ q) 2, Nat.mul_assoc]
    have h3 := bitS_even _ _ _ (stB_lt d 0 (i + q) (by omega)) (bitOf_lt d (i + q)) h2 (by omega)
    have e3 : (32768 : Nat) = 2 ^ q * 2 ^ j := by rw [← Nat.pow_add, show q + j = 15 by omega]
    refine ⟨bitOf d (i + q) * 2 ^ j + y, ?_⟩
    rw [h3, e, e3, Nat.mul_add, Nat.mul_div_cancel_left _ (by decide), Nat.mul_left_comm]
theorem win_zero (d : ByteArray) (i : Nat) (h : stB d 0 (i + 16) = 0) (h0 : stB d 0 i = 0) : ∀ k, k ≤ 16 → stB d 0 (i + k) = 0 ∧ ∀ m, m < k → bitOf d (i + m) = 0 := by
  intro k
  induction k with
  | zero => intro _; exact ⟨h0, fun m hm => by omega⟩
  | succ k ih =>
    intro hk
    obtain ⟨z, hz⟩ := ih (by omega)
    obtain ⟨y, hy⟩ := stB_win d i h (16 - (k + 1)) (by omega)
    rw [show 16 - (16 - (k + 1)) = k + 1 by omega] at hy
    have e : 2 ^ (k + 1) * y = 2 * (2 ^ k * y) := by rw [Nat.pow_succ, Nat.mul_comm (2 ^ k) 2, Nat.mul_assoc]
    have h2 : bitS (stB d 0 (i + k)) (bitOf d (i + k)) = 2 ^ (k + 1) * y := hy
    have h3 := bitS_even _ _ _ (stB_lt d 0 (i + k) (by omega)) (bitOf_lt d (i + k)) h2 (by omega)
    refine ⟨?_, ?_⟩
    · show stB d 0 (i + (k + 1)) = 0
      rw [hy]; omega
    · intro m hm
      by_cases e2 : m = k
      · subst e2; omega
      · exact hz m (by omega)
/-- What differs within sixteen bits alone leaves the check value as it is just where nothing differs. -/
theorem burst (a b d : ByteArray) (h : XorOf a d b) (v n i : Nat) (hv : v < 65536) (hi : i + 16 ≤ 8 * n) (hz : ∀ j, j < 8 * n → (j < i ∨ i + 16 ≤ j) → bitOf d j = 0) :
    crcT b v n = crcT a v n ↔ ∀ k, k < 16 → bitOf d (i + k) = 0 := by
  have hx := crcT_xor a d b h v 0 hv (by omega) n
  rw [Nat.xor_zero] at hx
  have h0 : stB d 0 i = 0 := by
    have := stB_zeros d 0 i (fun j hj => hz _ (by omega) (by omega)) rfl
    rwa [Nat.zero_add] at this
  constructor
  · intro he
    have h1 : crcT d 0 n = 0 := by
      have h2 : crcT a v n ^^^ (crcT a v n ^^^ crcT d 0 n) = crcT a v n ^^^ crcT a v n := by rw [← hx, he]
      rwa [← Nat.xor_assoc, Nat.xor_self, Nat.zero_xor] at h2
    rw [crcT_stB d 0 n (by omega)] at h1
    have h2 : stB d 0 (i + 16) = 0 := by
      refine stB_back d (i + 16) (8 * n - (i + 16)) (fun j hj => hz _ (by omega) (by omega)) ?_
      rw [show i + 16 + (8 * n - (i + 16)) = 8 * n by omega]
      exact h1
    exact (win_zero d i h2 h0 16 (by omega)).2
  · intro hb
    have h1 := stB_zeros d i 16 hb h0
    have h2 := stB_zeros d (i + 16) (8 * n - (i + 16)) (fun j hj => hz _ (by omega) (by omega)) h1
    rw [show i + 16 + (8 * n - (i + 16)) = 8 * n by omega, ← crcT_stB d 0 n (by omega)] at h2
    rw [hx, h2, Nat.xor_zero]
/-- Which bits of which byte differ after k of the sixteen. -/
def Diff (i : Nat) (wb : Nat → Bool) (k : Nat) (D : Nat → Nat) : Prop :=
  ∀ p, D p < 256 ∧ ∀ q, q < 8 → ((D p).testBit q = true ↔ i ≤ 8 * p + (7 - q) ∧ 8 * p + (7 - q) < i + k ∧ wb (8 * p + (7 - q) - i) = true)
theorem Diff.zero (i : Nat) (wb : Nat → Bool) : Diff i wb 0 (fun _ => 0) := by
  intro p
  refine ⟨by show 0 < 256; decide, fun q _ => ?_⟩
  simp
  omega
theorem Diff.step {i : Nat} {wb : Nat → Bool} {k : Nat} {D : Nat → Nat} (h : Diff i wb k D) (b : Bool) :
    Diff i (fun m => if m = k then b else wb m) (k + 1) (fun p => if b = true ∧ p = (i + k) / 8 then D p ^^^ 2 ^ (7 - (i + k) % 8) else D p) := by
  intro p
  obtain ⟨h1, h2⟩ := h p
  have h8 : 2 ^ (7 - (i + k) % 8) < 256 := by
    have : 2 ^ (7 - (i + k) % 8) ≤ 2 ^ 7 := Nat.pow_le_pow_right (by decide) (by omega)
    omega
  refine ⟨?_, ?_⟩
  · show (if b = true ∧ p = (i + k) / 8 then D p ^^^ 2 ^ (7 - (i + k) % 8) else D p) < 256
    split
    · exact Nat.xor_lt_two_pow (n := 8) h1 h8
    · exact h1
  · intro q hq
    have h3 := h2 q hq
    show (if b = true ∧ p = (i + k) / 8 then D p ^^^ 2 ^ (7 - (i + k) % 8) else D p).testBit q = true ↔ i ≤ 8 * p + (7 - q) ∧ 8 * p + (7 - q) < i + (k + 1) ∧ (if 8 * p + (7 - q) - i = k then b else wb (8 * p + (7 - q) - i)) = true
    by_cases hpos : i ≤ 8 * p + (7 - q) ∧ 8 * p + (7 - q) - i = k
    · obtain ⟨g1, g2⟩ := hpos
      have hp : p = (i + k) / 8 := by omega
      have hqq : 7 - (i + k) % 8 = q := by omega
      have hf : (D p).testBit q = false := by
        cases hh : (D p).testBit q with
        | false => rfl
        | true => have := (h3.1 hh).2.1; omega
      rw [if_pos g2]
      cases b with
      | false => rw [if_neg (by simp), hf]; simp
      | true =>
        rw [if_pos ⟨rfl, hp⟩, Nat.testBit_xor, hf, hqq, Nat.testBit_two_pow_self]
        simp
        omega
    · have e : (if b = true ∧ p = (i + k) / 8 then D p ^^^ 2 ^ (7 - (i + k) % 8) else D p).testBit q = (D p).testBit q := by
        split
        · rename_i hc
          rw [Nat.testBit_xor, Nat.testBit_two_pow]
          have : ¬ (7 - (i + k) % 8 = q) := by omega
          simp [this]
        · rfl
      rw [e, h3]
      constructor
      · rintro ⟨g1, g2, g3⟩
        exact ⟨g1, by omega, by rw [if_neg (by omega)]; exact g3⟩
      · rintro ⟨g1, g2, g3⟩
        rw [if_neg (by omega)] at g3
        exact ⟨g1, by omega, g3⟩
/-- The bytes of what differs. -/
def diffBytes (D : Nat → Nat) (n : Nat) : ByteArray := ⟨((List.range n).map fun p => UInt8.ofNat (D p)).toArray⟩
theorem diffBytes_at (D : Nat → Nat) (n p : Nat) (h : p < n) (hD : D p < 256) : ((diffBytes D n)[p]?.getD 0).toNat = D p := by
  have hs : (diffBytes D n).size = n := by show (((List.range n).map fun p => UInt8.ofNat (D p)).toArray).size = n; simp
  rw [getElem?_pos (diffBytes D n) p (by omega)]
  show ((((List.range n).map fun p => UInt8.ofNat (D p)).toArray)[p]'(by simpa using h)).toNat = D p
  simp
  omega
theorem diffBytes_out (D : Nat → Nat) (n p : Nat) (h : n ≤ p) : ((diffBytes D n)[p]?.getD 0).toNat = 0 := by
  have hs : (diffBytes D n).size = n := by show (((List.range n).map fun p => UInt8.ofNat (D p)).toArray).size = n; simp
  rw [getElem?_neg (diffBytes D n) p (by omega)]
  rfl
/-- The two check values differ just where a bit differs. -/
theorem burst_end (s t : ByteArray) (i v : Nat) (wb : Nat → Bool) (D : Nat → Nat) (hv : v < 65536) (ht : t.size = s.size) (hi : i + 16 ≤ 8 * s.size) (hD : Diff i wb 16 D)
    (hx : ∀ p (h : p < s.size) (h' : p < t.size), t[p].toNat = s[p].toNat ^^^ D p) :
    crcT t v s.size = crcT s v s.size ↔ ∀ k, k < 16 → wb k = false := by
  have hX : XorOf s (diffBytes D s.size) t := by
    intro p
    by_cases hp : p < s.size
    · rw [diffBytes_at D _ p hp (hD p).1, getElem?_pos t p (by omega), getElem?_pos s p hp]
      exact hx p hp (by omega)
    · rw [diffBytes_out D _ p (by omega), getElem?_neg t p (by omega), getElem?_neg s p hp]
      rfl
  have hb : ∀ j, j < 8 * s.size → (bitOf (diffBytes D s.size) j = 0 ↔ ¬ (i ≤ j ∧ j < i + 16 ∧ wb (j - i) = true)) := by
    intro j hj
    unfold bitOf
    rw [diffBytes_at D _ (j / 8) (by omega) (hD (j / 8)).1]
    have h := (hD (j / 8)).2 (7 - j % 8) (by omega)
    rw [show 8 * (j / 8) + (7 - (7 - j % 8)) = j by omega, Nat.testBit_eq_decide_div_mod_eq, decide_eq_true_iff] at h
    rw [← h]
    omega
  rw [burst s t _ hX v s.size i hv hi (fun j hj ho => (hb j hj).2 (by omega))]
  constructor
  · intro h k hk
    have := (hb (i + k) (by omega)).1 (h k hk)
    rw [Nat.add_sub_cancel_left] at this
    cases hw : wb k with
    | false => rfl
    | true => exact absurd ⟨by omega, by omega, hw⟩ this
  · intro h k hk
    refine (hb (i + k) (by omega)).2 ?_
    rw [Nat.add_sub_cancel_left, h k hk]
    simp
end Go.Proofs.YtppiodhjhnmaoaaDoor
