/- The bytes of groups, where those that are no codes count as 0 (pure). -/
import Derived.Test.YtffefhgemmjkoaaDoorDecGcrIm
import Derived.Test.YtffefhgemmjkoaaDoorDecodeLaw
namespace Go.Proofs.YtffefhgemmjkoaaDoor
open Go.RowKit
set_option maxRecDepth 20000
set_option linter.unusedVariables false
/-- The number of group k; 0 where it is no code. -/
def gz (s : ByteArray) (k : Nat) : Int := if gd s k < 0 then 0 else gd s k
theorem gz_bd (s : ByteArray) (k : Nat) : 0 ≤ gz s k ∧ gz s k < 16 := by
  have h := gd_bd s k
  unfold gz; split <;> omega
theorem gz_nat (s : ByteArray) (k : Nat) : (gd s k).toNat = (gz s k).toNat := by
  unfold gz; split
  · rw [Int.toNat_of_nonpos (by omega)]; rfl
  · rfl
/-- The four bits of a digit. -/
def nib4 (n : Nat) : List UInt8 := [hexd (n / 8 % 2), hexd (n / 4 % 2), hexd (n / 2 % 2), hexd (n / 1 % 2)]
def bitsG (s : ByteArray) : Nat → List UInt8
  | 0 => []
  | k + 1 => bitsG s k ++ nib4 (gz s k).toNat
theorem bitsG_len (s : ByteArray) (k : Nat) : (bitsG s k).length = 4 * k := by
  induction k with
  | zero => rfl
  | succ k ih => unfold bitsG; rw [List.length_append, ih]; simp [nib4]; omega
theorem nib_bits : ∀ a b : Fin 16, digs1 ((16 * a.val + b.val : Nat) : Int).toNat.toUInt8 = nib4 a.val ++ nib4 b.val := by decide +kernel
theorem nib_hex : ∀ a b : Fin 16, digs4 ((16 * a.val + b.val : Nat) : Int).toNat.toUInt8 = [hexd a.val, hexd b.val] := by decide +kernel
theorem gz_pair (s : ByteArray) (j : Nat) : ∃ a b : Fin 16, gz s (2 * j) = (a.val : Int) ∧ gz s (2 * j + 1) = (b.val : Int) ∧ accV 16 (gz s) (2 * j + 2) = ((16 * a.val + b.val : Nat) : Int) := by
  have h0 := gz_bd s (2 * j)
  have h1 := gz_bd s (2 * j + 1)
  have h2 := accV_two (gz s) (2 * j) h0.1 h0.2 h1.1 h1.2
  rw [h2]
  clear h2
  generalize gz s (2 * j) = x at *
  generalize gz s (2 * j + 1) = y at *
  obtain ⟨a, rfl⟩ : ∃ a : Nat, x = (a : Int) := ⟨x.toNat, by omega⟩
  obtain ⟨b, rfl⟩ : ∃ b : Nat, y = (b : Int) := ⟨y.toNat, by omega⟩
  exact ⟨⟨a, by omega⟩, ⟨b, by omega⟩, rfl, rfl, by push_cast; rfl⟩
theorem bitsG_dig (s : ByteArray) (M : Nat) : bitsG s (2 * M) = digits1 (accO 16 2 (gz s) (2 * M)) := by
  induction M with
  | zero => rfl
  | succ j ih =>
    obtain ⟨a, b, h0, h1, h2⟩ := gz_pair s j
    have e : bitsG s (2 * (j + 1)) = bitsG s (2 * j) ++ nib4 (gz s (2 * j)).toNat ++ nib4 (gz s (2 * j + 1)).toNat := by
      rw [show 2 * (j + 1) = 2 * j + 1 + 1 by omega]; simp only [bitsG]
    have hn := nib_bits a b
    rw [e, accO_two, digits1_snoc, ← ih, h2]
    rw [h0, h1, Int.toNat_natCast, Int.toNat_natCast, List.append_assoc]
    exact congrArg (bitsG s (2 * j) ++ ·) hn.symm
def hexG (s : ByteArray) : Nat → List UInt8
  | 0 => []
  | k + 1 => hexG s k ++ [hexd (gz s k).toNat]
theorem hexG_dig (s : ByteArray) (M : Nat) : hexG s (2 * M) = digits4 (accO 16 2 (gz s) (2 * M)) := by
  induction M with
  | zero => rfl
  | succ j ih =>
    obtain ⟨a, b, h0, h1, h2⟩ := gz_pair s j
    have e : hexG s (2 * (j + 1)) = hexG s (2 * j) ++ [hexd (gz s (2 * j)).toNat] ++ [hexd (gz s (2 * j + 1)).toNat] := by
      rw [show 2 * (j + 1) = 2 * j + 1 + 1 by omega]; simp only [hexG]
    have hn := nib_hex a b
    rw [e, accO_two, digits4_snoc, ← ih, h2]
    rw [h0, h1, Int.toNat_natCast, Int.toNat_natCast, List.append_assoc]
    exact congrArg (hexG s (2 * j) ++ ·) hn.symm
theorem hexG_eq (s : ByteArray) (N : Nat) : ∀ k, k ≤ N → hexL s (rndsG N k) = hexG s k
  | 0, _ => rfl
  | k + 1, h => by
    rw [rndsG_succ (show k < N from h), hexL_snoc, hexG_eq s N k (by omega), gz_nat]
    rfl
/-- The bytes. -/
def rawG (s : ByteArray) (N : Nat) : ByteArray := ⟨(accO 16 2 (gz s) N).toArray⟩
theorem rawG_size (s : ByteArray) (N : Nat) : (rawG s N).size ≤ N := by
  show (accO 16 2 (gz s) N).toArray.size ≤ N
  rw [List.size_toArray]; exact accO_length _ _ _ _
theorem rawG_hex (s : ByteArray) (M : Nat) (h : 2 * M ≤ 4096) : ofDig 16 2 dig4 (grpDig s (2 * M)) = some (rawG s (2 * M)).data.toList := by
  have e : grpDig s (2 * M) = ⟨(digits4 (rawG s (2 * M)).data.toList).toArray⟩ := by
    unfold grpDig
    rw [hexG_eq s (2 * M) (2 * M) (Nat.le_refl _), hexG_dig]
    rfl
  have hz := Nat.le_trans (rawG_size s (2 * M)) h
  have hr := readHex_hex (rawG s (2 * M)) hz
  rw [hexTextS, if_neg (by omega)] at hr
  rw [e]
  exact hr
theorem rawG_bits (s : ByteArray) (M : Nat) (h : 2 * M ≤ 4096) : ofDig 2 8 dig1 ⟨(bitsG s (2 * M)).toArray⟩ = some (rawG s (2 * M)).data.toList := by
  have hz := Nat.le_trans (rawG_size s (2 * M)) h
  have hr := bytesOf_bits (rawG s (2 * M)) hz
  rw [bitsOfS, if_neg (by omega)] at hr
  rw [bitsG_dig]
  exact hr
/-- What RawBytes answers: the text, and whether it is one. -/
def rawT (f : Int) (s : ByteArray) : ByteArray := if inB 1 3 f = true then if f = 3 then if cellStr s = true ∧ s.size % 10 = 0 then rawG s (s.size / 5) else ⟨#[]⟩ else decT s else ⟨#[]⟩
def rawB (f : Int) (s : ByteArray) : Bool := if inB 1 3 f = true then if f = 3 then if cellStr s = true ∧ s.size % 10 = 0 then gdOk s (s.size / 5) else false else decB s else false
end Go.Proofs.YtffefhgemmjkoaaDoor
