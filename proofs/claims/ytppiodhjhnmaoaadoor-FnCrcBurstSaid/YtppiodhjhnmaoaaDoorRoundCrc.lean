/- The check values of two strings and of their combination: plain facts. -/
import Derived.Test.YtppiodhjhnmaoaaDoorCrc
namespace Go.Proofs.YtppiodhjhnmaoaaDoor
open Go.RowKit
set_option maxRecDepth 20000
set_option linter.unusedVariables false
theorem mul_xor : ∀ x, x < 16 → ∀ y, y < 16 → (x ^^^ y) * 4129 = x * 4129 ^^^ y * 4129 := by decide +kernel
theorem sh16_xor (u v : Nat) : 16 * (u ^^^ v) % 65536 = 16 * u % 65536 ^^^ 16 * v % 65536 := by
  have h := @Nat.shiftLeft_xor_distrib 4 u v
  simp only [Nat.shiftLeft_eq] at h
  rw [Nat.mul_comm 16, Nat.mul_comm 16 u, Nat.mul_comm 16 v, show (16 : Nat) = 2 ^ 4 from rfl, h, mod_xor]
theorem hi_xor (u v : Nat) : (u ^^^ v) / 4096 = u / 4096 ^^^ v / 4096 := by
  have h := @Nat.shiftRight_xor_distrib 12 u v
  simp only [Nat.shiftRight_eq_div_pow] at h
  exact h
theorem nibS_xor (u v m n : Nat) (hu : u < 65536) (hv : v < 65536) (hm : m < 16) (hn : n < 16) : nibS (u ^^^ v) (m ^^^ n) = nibS u m ^^^ nibS v n := by
  have a1 : (u / 4096 ^^^ m) < 2 ^ 4 := Nat.xor_lt_two_pow (by omega) (by omega)
  have a2 : (v / 4096 ^^^ n) < 2 ^ 4 := Nat.xor_lt_two_pow (by omega) (by omega)
  have e : (u / 4096 ^^^ v / 4096) ^^^ (m ^^^ n) = (u / 4096 ^^^ m) ^^^ (v / 4096 ^^^ n) := by ac_rfl
  unfold nibS
  rw [sh16_xor, hi_xor, e, mul_xor _ (by omega) _ (by omega)]
  ac_rfl
/-- Byte for byte, c is the combination of a and b. -/
def XorOf (a b c : ByteArray) : Prop := ∀ k : Nat, (c[k]?.getD 0).toNat = (a[k]?.getD 0).toNat ^^^ (b[k]?.getD 0).toNat
theorem nib_split (x y z : Nat) (h : z = x ^^^ y) : z / 16 = x / 16 ^^^ y / 16 ∧ z % 16 = x % 16 ^^^ y % 16 := by
  subst h
  constructor
  · have h := @Nat.shiftRight_xor_distrib 4 x y
    simp only [Nat.shiftRight_eq_div_pow] at h
    exact h
  · have h := @Nat.xor_mod_two_pow x y 4
    exact h
theorem crcT_xor (a b c : ByteArray) (h : XorOf a b c) (u v : Nat) (hu : u < 65536) (hv : v < 65536) (k : Nat) : crcT c (u ^^^ v) k = crcT a u k ^^^ crcT b v k := by
  induction k with
  | zero => rfl
  | succ k ih =>
    have hx := (a[k]?.getD 0).toNat_lt
    have hy := (b[k]?.getD 0).toNat_lt
    obtain ⟨e1, e2⟩ := nib_split _ _ _ (h k)
    have b1 := crcT_bd a u k hu
    have b2 := crcT_bd b v k hv
    show nibS (nibS (crcT c (u ^^^ v) k) ((c[k]?.getD 0).toNat / 16)) ((c[k]?.getD 0).toNat % 16) = nibS (nibS (crcT a u k) ((a[k]?.getD 0).toNat / 16)) ((a[k]?.getD 0).toNat % 16) ^^^ nibS (nibS (crcT b v k) ((b[k]?.getD 0).toNat / 16)) ((b[k]?.getD 0).toNat % 16)
    rw [ih, e1, e2, nibS_xor _ _ _ _ b1 b2 (by omega) (by omega), nibS_xor _ _ _ _ (nibS_bd _ _ b1 (by omega)) (nibS_bd _ _ b2 (by omega)) (by omega) (by omega)]
theorem crcT_app (a b : ByteArray) (v k : Nat) : crcT (a ++ b) v (a.size + k) = crcT b (crcT a v a.size) k := by
  have h1 : ∀ j, j ≤ a.size → crcT (a ++ b) v j = crcT a v j := by
    intro j
    induction j with
    | zero => intro _; rfl
    | succ j ih =>
      intro hj
      have e : (a ++ b)[j]?.getD 0 = a[j]?.getD 0 := by
        rw [getElem?_pos (a ++ b) j (by rw [ByteArray.size_append]; omega), getElem?_pos a j (by omega), ByteArray.getElem_append_left (by omega)]
      show nibS (nibS (crcT (a ++ b) v j) (((a ++ b)[j]?.getD 0).toNat / 16)) (((a ++ b)[j]?.getD 0).toNat % 16) = nibS (nibS (crcT a v j) ((a[j]?.getD 0).toNat / 16)) ((a[j]?.getD 0).toNat % 16)
      rw [ih (by omega), e]
  induction k with
  | zero => exact h1 _ (Nat.le_refl _)
  | succ k ih =>
    have e : (a ++ b)[a.size + k]?.getD 0 = b[k]?.getD 0 := by
      by_cases hk : k < b.size
      · rw [getElem?_pos (a ++ b) (a.size + k) (by rw [ByteArray.size_append]; omega), getElem?_pos b k hk, ByteArray.getElem_append_right (by omega)]
        simp
      · rw [getElem?_neg (a ++ b) (a.size + k) (by rw [ByteArray.size_append]; omega), getElem?_neg b k hk]
    show nibS (nibS (crcT (a ++ b) v (a.size + k)) (((a ++ b)[a.size + k]?.getD 0).toNat / 16)) (((a ++ b)[a.size + k]?.getD 0).toNat % 16) = nibS (nibS (crcT b (crcT a v a.size) k) ((b[k]?.getD 0).toNat / 16)) ((b[k]?.getD 0).toNat % 16)
    rw [ih, e]
/-- The rule of the check values of two strings, of their combination and of zeros. -/
theorem crc_linear (a b x o : ByteArray) (h1 : XorOf a b x) (h2 : ∀ k : Nat, (o[k]?.getD 0).toNat = 0) (n : Nat) : crcT x 65535 n ^^^ crcT a 65535 n ^^^ crcT b 65535 n = crcT o 65535 n := by
  have e1 := crcT_xor a b x h1 65535 65535 (by omega) (by omega) n
  have h3 : XorOf x x o := fun k => by rw [h2 k, Nat.xor_self]
  have e2 := crcT_xor x x o h3 65535 0 (by omega) (by omega) n
  rw [Nat.xor_zero] at e2
  rw [Nat.xor_self] at e1
  rw [e2, e1, Nat.xor_assoc]
end Go.Proofs.YtppiodhjhnmaoaaDoor
