/- impl.isGroup, impl.groupBits, impl.GcrDistance, spec.l06Distance, spec.GcrDistance -/
import Derived.Test.YtffefhgemmjkoaaDoorCellStr
import Derived.Test.YtffefhgemmjkoaaDoorDigVal
import Derived.Test.YtffefhgemmjkoaaDoorSlRes
import Derived.Lib.BitFns
namespace Go.Proofs.YtffefhgemmjkoaaDoor
open Go.RowKit
set_option maxRecDepth 20000
set_option linter.unusedVariables false
def grpOk (s : ByteArray) : Bool := decide (s.size = 5) && cellsL s.data.toList
theorem grpOk_size {s : ByteArray} (h : grpOk s = true) : s.size = 5 := by unfold grpOk at h; simp at h; exact h.1
theorem grpOk_cell {s : ByteArray} (h : grpOk s = true) (k : Nat) (hk : k < s.size) : s[k].toNat = 48 ∨ s[k].toNat = 49 := by
  unfold grpOk at h
  simp only [Bool.and_eq_true] at h
  have h1 := h.2
  unfold cellsL at h1
  rw [List.all_eq_true] at h1
  exact (isCell_iff _).1 (h1 s[k] (by show s.data[k] ∈ _; simp))
theorem grpOk_cellStr {s : ByteArray} : grpOk s = (decide (s.size = 5) && cellStr s) := by
  unfold grpOk cellStr
  by_cases h : s.size = 5
  · have : decide (s.size ≤ 8000) = true := by simp; omega
    rw [this]; simp
  · simp [h]
/-- The number of the first k bits. -/
def gP (s : ByteArray) : Nat → Int
  | 0 => 0
  | k + 1 => gP s k * 2 + dig1 (s[k]?.getD 0).toNat
theorem gP_bd {s : ByteArray} (h : grpOk s = true) (k : Nat) (hk : k ≤ 5) : 0 ≤ gP s k ∧ gP s k < 2 ^ k := by
  induction k with
  | zero => simp [gP]
  | succ k ih =>
    have h1 := ih (by omega)
    have hs := grpOk_size h
    have h2 := grpOk_cell h k (by omega)
    have e : dig1 (s[k]?.getD 0).toNat = dig1 s[k].toNat := by rw [getElem?_pos s k (by omega)]; rfl
    unfold gP
    rw [e, Int.pow_succ]
    rcases h2 with h2 | h2 <;> rw [h2] <;> simp [dig1] <;> omega
theorem gP_succ (s : ByteArray) (k : Nat) (hk : k < s.size) : gP s (k + 1) = gP s k * 2 + dig1 s[k].toNat := by
  have e : dig1 (s[k]?.getD 0).toNat = dig1 s[k].toNat := by rw [getElem?_pos s k hk]; rfl
  rw [← e]; rfl
theorem or_bit : ∀ v : Fin 128, bits .or .u8 ((v.val : Int) * 2) 0 = v.val * 2 ∧ bits .or .u8 ((v.val : Int) * 2) 1 = v.val * 2 + 1 := by decide +kernel
theorem or_bit' {v : Int} (h0 : 0 ≤ v) (h1 : v < 128) : bits .or .u8 (v * 2) 0 = v * 2 ∧ bits .or .u8 (v * 2) 1 = v * 2 + 1 := by
  have := or_bit ⟨v.toNat, by omega⟩
  simp only [Int.toNat_of_nonneg h0] at this
  exact this
/-- In how many of the first k places two strings differ. -/
def distR (a b : ByteArray) : Nat → Int
  | 0 => 0
  | k + 1 => distR a b k + if a[k]?.getD 0 = b[k]?.getD 0 then 0 else 1
theorem distR_bd (a b : ByteArray) (k : Nat) : 0 ≤ distR a b k ∧ distR a b k ≤ k := by
  induction k with
  | zero => simp [distR]
  | succ k ih => unfold distR; split <;> omega
theorem distR_succ (a b : ByteArray) (k : Nat) (ha : k < a.size) (hb : k < b.size) : distR a b (k + 1) = distR a b k + if a[k].toNat = b[k].toNat then 0 else 1 := by
  have e1 : a[k]?.getD 0 = a[k] := by rw [getElem?_pos a k ha]; rfl
  have e2 : b[k]?.getD 0 = b[k] := by rw [getElem?_pos b k hb]; rfl
  show distR a b k + (if a[k]?.getD 0 = b[k]?.getD 0 then 0 else 1) = _
  rw [e1, e2]
  congr 1
  simp only [← UInt8.toNat_inj]
def distV (a b : ByteArray) : Int := if grpOk a = true ∧ grpOk b = true then distR a b 5 else -1
theorem five : ∀ x0 x1 x2 x3 x4 y0 y1 y2 y3 y4 : Fin 2,
    ((Lib.onesCount (bits .xor .u8 (((((0 * 2 + (x0.val : Int)) * 2 + x1.val) * 2 + x2.val) * 2 + x3.val) * 2 + x4.val) (((((0 * 2 + (y0.val : Int)) * 2 + y1.val) * 2 + y2.val) * 2 + y3.val) * 2 + y4.val)).toNat : Nat) : Int) =
      0 + (if x0 = y0 then 0 else 1) + (if x1 = y1 then 0 else 1) + (if x2 = y2 then 0 else 1) + (if x3 = y3 then 0 else 1) + (if x4 = y4 then 0 else 1) := by decide +kernel
theorem bit_of {c : UInt8} (h : c.toNat = 48 ∨ c.toNat = 49) : ∃ x : Fin 2, dig1 c.toNat = (x.val : Int) ∧ c.toNat = 48 + x.val := by
  rcases h with h | h
  · exact ⟨0, by rw [h]; rfl, by rw [h]; rfl⟩
  · exact ⟨1, by rw [h]; rfl, by rw [h]; rfl⟩
theorem dist_ones {a b : ByteArray} (ha : grpOk a = true) (hb : grpOk b = true) : ((Lib.onesCount (bits .xor .u8 (gP a 5) (gP b 5)).toNat : Nat) : Int) = distR a b 5 := by
  have sa := grpOk_size ha
  have sb := grpOk_size hb
  obtain ⟨x0, p0, q0⟩ := bit_of (grpOk_cell ha 0 (by omega))
  obtain ⟨x1, p1, q1⟩ := bit_of (grpOk_cell ha 1 (by omega))
  obtain ⟨x2, p2, q2⟩ := bit_of (grpOk_cell ha 2 (by omega))
  obtain ⟨x3, p3, q3⟩ := bit_of (grpOk_cell ha 3 (by omega))
  obtain ⟨x4, p4, q4⟩ := bit_of (grpOk_cell ha 4 (by omega))
  obtain ⟨y0, u0, v0⟩ := bit_of (grpOk_cell hb 0 (by omega))
  obtain ⟨y1, u1, v1⟩ := bit_of (grpOk_cell hb 1 (by omega))
  obtain ⟨y2, u2, v2⟩ := bit_of (grpOk_cell hb 2 (by omega))
  obtain ⟨y3, u3, v3⟩ := bit_of (grpOk_cell hb 3 (by omega))
  obtain ⟨y4, u4, v4⟩ := bit_of (grpOk_cell hb 4 (by omega))
  have ea : gP a 5 = ((((0 * 2 + (x0.val : Int)) * 2 + x1.val) * 2 + x2.val) * 2 + x3.val) * 2 + x4.val := by
    rw [gP_succ a 4 (by omega), gP_succ a 3 (by omega), gP_succ a 2 (by omega), gP_succ a 1 (by omega), gP_succ a 0 (by omega), p0, p1, p2, p3, p4]; rfl
  have eb : gP b 5 = ((((0 * 2 + (y0.val : Int)) * 2 + y1.val) * 2 + y2.val) * 2 + y3.val) * 2 + y4.val := by
    rw [gP_succ b 4 (by omega), gP_succ b 3 (by omega), gP_succ b 2 (by omega), gP_succ b 1 (by omega), gP_succ b 0 (by omega), u0, u1, u2, u3, u4]; rfl
  rw [ea, eb, five]
  rw [distR_succ a b 4 (by omega) (by omega), distR_succ a b 3 (by omega) (by omega), distR_succ a b 2 (by omega) (by omega), distR_succ a b 1 (by omega) (by omega), distR_succ a b 0 (by omega) (by omega), q0, q1, q2, q3, q4, v0, v1, v2, v3, v4]
  have h : ∀ x y : Fin 2, (48 + x.val = 48 + y.val) = (x = y) := by
    intro x y
    rw [← Fin.val_inj]
    exact propext ⟨fun h => by omega, fun h => by omega⟩
  simp only [h]
  rfl
set_option maxHeartbeats 1000000 in
theorem groupBits_any (s : ByteArray) (hg : grpOk s = true) (w : World) :
    Calls Tryd.prog 103 #[.string s] w fun e w' => e = .returned (.int .u8 (gP s 5)) ∧ Below w.heap.size w w' := by
  have h5 := grpOk_size hg
  have HCELL := Lib.hid (fun k hk => grpOk_cell hg k hk)
  have HBD := Lib.hid (fun k hk => gP_bd hg k hk)
  have H5 := Lib.hid h5
  have hs : s.size ≤ 5 := by omega
  clear hg h5
  go_enter Tryd.func103, Tryd.ntmps103
  go_wp2
  go_loopw [3, 5] (fun v _ wr => ∃ pos, pos ≤ s.size ∧ wr = w.iter s pos ∧ v = .int .u8 (gP s pos)) (fun _ _ wr => s.size - wr.iterPos w.heap.size)
  case atStart => exact ⟨0, Nat.zero_le _, rfl, rfl⟩
  case round =>
    obtain ⟨pos, hk, rfl, rfl⟩ := hrel
    by_cases hp : pos < s.size
    · have hnx : ∀ ty, (Instr.next (.pointer (some ⟨w.heap.size, 0, none⟩)) true ty).run Tryd.prog (w.iter s pos) = _ := fun ty => run_next_any w s pos ty hp
      have hc2 := HCELL.out pos hp
      rw [decode_ascii s pos hp (by omega)] at hnx
      have hb := HBD.out pos (by omega)
      have hb2 : gP s pos < 32 := by
        have : (2 : Int) ^ pos ≤ 2 ^ 5 := by exact_mod_cast Nat.pow_le_pow_right (by omega) (show pos ≤ 5 by omega)
        have h32 : (2 : Int) ^ 5 = 32 := rfl
        omega
      have hb0 := hb.1
      clear hb
      have HS := Lib.hid (gP_succ s pos hp)
      obtain ⟨hor0, hor1⟩ := or_bit' hb0 (show gP s pos < 128 by omega)
      rcases hc2 with h48 | h49
      · have HD := Lib.hid (show dig1 s[pos].toNat = 0 by rw [h48]; rfl)
        rw [h48] at hnx
        clear h48
        generalize gP s pos = v at *
        go_wp2
        go_roundw
        case rel => exact ⟨pos + 1, by omega, rfl, by rw [HS.out, HD.out]; simp⟩
        case measure => simp; omega
      · have HD := Lib.hid (show dig1 s[pos].toNat = 1 by rw [h49]; rfl)
        rw [h49] at hnx
        clear h49
        generalize gP s pos = v at *
        go_wp2
        go_roundw
        case rel => exact ⟨pos + 1, by omega, rfl, by rw [HS.out, HD.out]⟩
        case measure => simp; omega
    · have hnx : ∀ ty, (Instr.next (.pointer (some ⟨w.heap.size, 0, none⟩)) true ty).run Tryd.prog (w.iter s pos) = _ := fun ty => run_next_end w s pos ty hp
      have HP := Lib.hid (show pos = 5 by have := H5.out; omega)
      go_wp2
      go_ret
      exact ⟨by rw [HP.out]; rfl, (Below.refl _ _).alloc (Nat.le_refl _) _⟩
end Go.Proofs.YtffefhgemmjkoaaDoor
