/- impl.isGroup, impl.groupBits, impl.GcrDistance, spec.l06Distance, spec.GcrDistance -/
import Derived.Test.YtkdhhkoablmbbabDoorCellStr
import Derived.Test.YtkdhhkoablmbbabDoorDigVal
import Derived.Test.YtkdhhkoablmbbabDoorSlRes
namespace Go.Proofs.YtkdhhkoablmbbabDoor
open Go.RowKit
set_option linter.unusedVariables false
def grpOk (s : ByteArray) : Bool := decide (s.size = 5) && cellsL s.data.toList
theorem grpOk_size {s : ByteArray} (h : grpOk s = true) : s.size = 5 := by unfold grpOk at h; simp at h; exact h.1
theorem grpOk_cell {s : ByteArray} (h : grpOk s = true) (k : Nat) (hk : k < s.size) : s[k].toNat = 48 ∨ s[k].toNat = 49 := by
  unfold grpOk at h
  simp only [Bool.and_eq_true] at h
  have h1 := h.2
  unfold cellsL at h1
  rw [List.all_eq_true] at h1
  exact (isCell_iff _).1 (h1 s[k] (by show s.data[k] ∈ _; simp))
theorem grpOk_cellStr {s : ByteArray} : grpOk s = (decide (s.size = 5) && cellStr s) := by
  unfold grpOk cellStr
  by_cases h : s.size = 5
  · have : decide (s.size ≤ 8000) = true := by simp; omega
    rw [this]; simp
  · simp [h]
/-- The number of the first k bits. -/
def gP (s : ByteArray) : Nat → Int
  | 0 => 0
  | k + 1 => gP s k * 2 + dig1 (s[k]?.getD 0).toNat
theorem gP_bd {s : ByteArray} (h : grpOk s = true) (k : Nat) (hk : k ≤ 5) : 0 ≤ gP s k ∧ gP s k < 2 ^ k := by
  induction k with
  | zero => simp [gP]
  | succ k ih =>
    have h1 := ih (by omega)
    have hs := grpOk_size h
    have h2 := grpOk_cell h k (by omega)
    have e : dig1 (s[k]?.getD 0).toNat = dig1 s[k].toNat := by rw [getElem?_pos s k (by omega)]; rfl
    unfold gP
    rw [e, Int.pow_succ]
    rcases h2 with h2 | h2 <;> rw [h2] <;> simp [dig1] <;> omega
theorem gP_succ (s : ByteArray) (k : Nat) (hk : k < s.size) : gP s (k + 1) = gP s k * 2 + dig1 s[k].toNat := by
  have e : dig1 (s[k]?.getD 0).toNat = dig1 s[k].toNat := by rw [getElem?_pos s k hk]; rfl
  rw [← e]; rfl
theorem or_bit : ∀ v : Fin 128, bits .or .u8 ((v.val : Int) * 2) 0 = v.val * 2 ∧ bits .or .u8 ((v.val : Int) * 2) 1 = v.val * 2 + 1 := by decide +kernel
theorem or_bit' {v : Int} (h0 : 0 ≤ v) (h1 : v < 128) : bits .or .u8 (v * 2) 0 = v * 2 ∧ bits .or .u8 (v * 2) 1 = v * 2 + 1 := by
  have := or_bit ⟨v.toNat, by omega⟩
  simp only [Int.toNat_of_nonneg h0] at this
  exact this
/-- In how many of the first k places two strings differ. -/
def distR (a b : ByteArray) : Nat → Int
  | 0 => 0
  | k + 1 => distR a b k + if a[k]?.getD 0 = b[k]?.getD 0 then 0 else 1
theorem distR_bd (a b : ByteArray) (k : Nat) : 0 ≤ distR a b k ∧ distR a b k ≤ k := by
  induction k with
  | zero => simp [distR]
  | succ k ih => unfold distR; split <;> omega
theorem distR_succ (a b : ByteArray) (k : Nat) (ha : k < a.size) (hb : k < b.size) : distR a b (k + 1) = distR a b k + if a[k].toNat = b[k].toNat then 0 else 1 := by
  have e1 : a[k]?.getD 0 = a[k] := by rw [getElem?_pos a k ha]; rfl
  have e2 : b[k]?.getD 0 = b[k] := by rw [getElem?_pos b k hb]; rfl
  show distR a b k + (if a[k]?.getD 0 = b[k]?.getD 0 then 0 else 1) = _
  rw [e1, e2]
  congr 1
  simp only [← UInt8.toNat_inj]
def distV (a b : ByteArray) : Int := if grpOk a = true ∧ grpOk b = true then distR a b 5 else -1
theorem five : ∀ x0 x1 x2 x3 x4 y0 y1 y2 y3 y4 : Fin 2,
    ((Lib.onesCount (bits .xor .u8 (((((0 * 2 + (x0.val : Int)) * 2 + x1.val) * 2 + x2.val) * 2 + x3.val) * 2 + x4.val) (((((0 * 2 + (y0.val : Int)) * 2 + y1.val) * 2 + y2.val) * 2 + y3.val) * 2 + y4.val)).toNat : Nat) : Int) =
      0 + (if x0 = y0 then 0 else 1) + (if x1 = y1 then 0 else 1) + (if x2 = y2 then 0 else 1) + (if x3 = y3 then 0 else 1) + (if x4 = y4 then 0 else 1) := by decide +kernel
theorem bit_of {c : UInt8} (h : c.toNat = 48 ∨ c.toNat = 49) : ∃ x : Fin 2, dig1 c.toNat = (x.val : Int) ∧ c.toNat = 48 + x.val := by
  rcases h with h | h
  · exact ⟨0, by rw [h]; rfl, by rw [h]; rfl⟩
  · exact ⟨1, by rw [h]; rfl, by rw [h]; rfl⟩
theorem dist_ones {a b : ByteArray} (ha : grpOk a = true) (hb : grpOk b = true) : ((Lib.onesCount (bits .xor .u8 (gP a 5) (gP b 5)).toNat : Nat) : Int) = distR a b 5 := by
  have sa := grpOk_size ha
  have sb := grpOk_size hb
  obtain ⟨x0, p0, q0⟩ := bit_of (grpOk_cell ha 0 (by omega))
  obtain ⟨x1, p1, q1⟩ := bit_of (grpOk_cell ha 1 (by omega))
  obtain ⟨x2, p2, q2⟩ := bit_of (grpOk_cell ha 2 (by omega))
  obtain ⟨x3, p3, q3⟩ := bit_of (grpOk_cell ha 3 (by omega))
  obtain ⟨x4, p4, q4⟩ := bit_of (grpOk_cell ha 4 (by omega))
  obtain ⟨y0, u0, v0⟩ := bit_of (grpOk_cell hb 0 (by omega))
  obtain ⟨y1, u1, v1⟩ := bit_of (grpOk_cell hb 1 (by omega))
  obtain ⟨y2, u2, v2⟩ := bit_of (grpOk_cell hb 2 (by omega))
  obtain ⟨y3, u3, v3⟩ := bit_of (grpOk_cell hb 3 (by omega))
  obtain ⟨y4, u4, v4⟩ := bit_of (grpOk_cell hb 4 (by omega))
  have ea : gP a 5 = ((((0 * 2 + (x0.val : Int)) * 2 + x1.val) * 2 + x2.val) * 2 + x3.val) * 2 + x4.val := by
    rw [gP_succ a 4 (by omega), gP_succ a 3 (by omega), gP_succ a 2 (by omega), gP_succ a 1 (by omega), gP_succ a 0 (by omega), p0, p1, p2, p3, p4]; rfl
  have eb : gP b 5 = ((((0 * 2 + (y0.val : Int)) * 2 + y1.val) * 2 + y2.val) * 2 + y3.val) * 2 + y4.val := by
    rw [gP_succ b 4 (by omega), gP_succ b 3 (by omega), gP_succ b 2 (by omega), gP_succ b 1 (by omega), gP_succ b 0 (by omega), u0, u1, u2, u3, u4]; rfl
  rw [ea, eb, five]
  rw [distR_succ a b 4 (by omega) (by omega), distR_succ a b 3 (by omega) (by omega), distR_succ a b 2 (by omega) (by omega), distR_succ a b 1 (by omega) (by omega), distR_succ a b 0 (by omega) (by omega), q0, q1, q2, q3, q4, v0, v1, v2, v3, v4]
  have h : ∀ x y : Fin 2, (48 + x.val = 48 + y.val) = (x = y) := by
    intro x y
    rw [← Fin.val_inj]
    exact propext ⟨fun h => by omega, fun h => by omega⟩
  simp only [h]
  rfl
set_option maxHeartbeats 1000000 in
theorem isGroup_any (s : ByteArray) (h : s.size ≤ 1048576) (w : World) :
    Calls Tryd.prog 39 #[.string s] w fun e w' => e = .returned (.bool (grpOk s)) ∧ Below w.heap.size w w' := by
  by_cases h5 : s.size = 5
  · have hv := fun w => validCells_any s w (by unfold maxLen; omega)
    have e : grpOk s = validCells s := by
      unfold grpOk validCells
      rw [h5]
      have : inB 1 8000 ((5 : Nat) : Int) = true := by decide
      rw [this]; simp
    rw [← e] at hv
    have HV := Lib.hid hv; clear hv e
    have e5 : ((s.size : Int) == 5) = true := by rw [beq_iff_eq]; omega
    clear h5
    go_enter Tryd.func39, Tryd.ntmps39
    go_wp2_with (go_at_call 58; refine (HV.out _).mono ?_; rintro e w1 ⟨rfl, hb1⟩)
    go_ret
    exact ⟨rfl, hb1⟩
  · have e : grpOk s = false := by unfold grpOk; simp [h5]
    rw [e]
    have e5 : ((s.size : Int) == 5) = false := by rw [beq_eq_false_iff_ne]; omega
    clear h5 e
    go_enter Tryd.func39, Tryd.ntmps39
    go_wp2
    go_ret
    exact ⟨rfl, Below.refl _ _⟩
set_option maxHeartbeats 1000000 in
theorem groupBits_any (s : ByteArray) (hg : grpOk s = true) (w : World) :
    Calls Tryd.prog 41 #[.string s] w fun e w' => e = .returned (.int .u8 (gP s 5)) ∧ Below w.heap.size w w' := by
  have h5 := grpOk_size hg
  have HCELL := Lib.hid (fun k hk => grpOk_cell hg k hk)
  have HBD := Lib.hid (fun k hk => gP_bd hg k hk)
  have H5 := Lib.hid h5
  have hs : s.size ≤ 5 := by omega
  clear hg h5
  go_enter Tryd.func41, Tryd.ntmps41
  go_wp2
  go_loopw [3, 5] (fun v _ wr => ∃ pos, pos ≤ s.size ∧ wr = w.iter s pos ∧ v = .int .u8 (gP s pos)) (fun _ _ wr => s.size - wr.iterPos w.heap.size)
  case atStart => exact ⟨0, Nat.zero_le _, rfl, rfl⟩
  case round =>
    obtain ⟨pos, hk, rfl, rfl⟩ := hrel
    by_cases hp : pos < s.size
    · have hnx : ∀ ty, (Instr.next (.pointer (some ⟨w.heap.size, 0, none⟩)) true ty).run Tryd.prog (w.iter s pos) = _ := fun ty => run_next_any w s pos ty hp
      have hc2 := HCELL.out pos hp
      rw [decode_ascii s pos hp (by omega)] at hnx
      have hb := HBD.out pos (by omega)
      have hb2 : gP s pos < 32 := by
        have : (2 : Int) ^ pos ≤ 2 ^ 5 := by exact_mod_cast Nat.pow_le_pow_right (by omega) (show pos ≤ 5 by omega)
        have h32 : (2 : Int) ^ 5 = 32 := rfl
        omega
      have hb0 := hb.1
      clear hb
      have HS := Lib.hid (gP_succ s pos hp)
      obtain ⟨hor0, hor1⟩ := or_bit' hb0 (show gP s pos < 128 by omega)
      rcases hc2 with h48 | h49
      · have HD := Lib.hid (show dig1 s[pos].toNat = 0 by rw [h48]; rfl)
        rw [h48] at hnx
        clear h48
        generalize gP s pos = v at *
        go_wp2
        go_roundw
        case rel => exact ⟨pos + 1, by omega, rfl, by rw [HS.out, HD.out]; simp⟩
        case measure => simp; omega
      · have HD := Lib.hid (show dig1 s[pos].toNat = 1 by rw [h49]; rfl)
        rw [h49] at hnx
        clear h49
        generalize gP s pos = v at *
        go_wp2
        go_roundw
        case rel => exact ⟨pos + 1, by omega, rfl, by rw [HS.out, HD.out]⟩
        case measure => simp; omega
    · have hnx : ∀ ty, (Instr.next (.pointer (some ⟨w.heap.size, 0, none⟩)) true ty).run Tryd.prog (w.iter s pos) = _ := fun ty => run_next_end w s pos ty hp
      have HP := Lib.hid (show pos = 5 by have := H5.out; omega)
      go_wp2
      go_ret
      exact ⟨by rw [HP.out]; rfl, (Below.refl _ _).alloc (Nat.le_refl _) _⟩
set_option maxHeartbeats 1000000 in
theorem gcrDistance_any (a b : ByteArray) (ha : a.size ≤ 1048576) (hb : b.size ≤ 1048576) (w : World) :
    Calls Tryd.prog 34 #[.string a, .string b] w fun e w' => e = .returned (.int .i64 (distV a b)) ∧ Below w.heap.size w w' := by
  have h1 := fun w => isGroup_any a ha w
  have h2 := fun w => isGroup_any b hb w
  by_cases ga : grpOk a = true
  · by_cases gb : grpOk b = true
    · have e : distV a b = ((Lib.onesCount (bits .xor .u8 (gP a 5) (gP b 5)).toNat : Nat) : Int) := by unfold distV; rw [if_pos ⟨ga, gb⟩, dist_ones ga gb]
      rw [e]
      have b1 := gP_bd ga 5 (by omega)
      have b2 := gP_bd gb 5 (by omega)
      have hx : 0 ≤ bits .xor .u8 (gP a 5) (gP b 5) ∧ bits .xor .u8 (gP a 5) (gP b 5) ≤ 255 := by
        have e32 : (2 : Int) ^ 5 = 32 := rfl
        have h : ∀ x y : Fin 32, 0 ≤ bits .xor .u8 (x.val : Int) (y.val : Int) ∧ bits .xor .u8 (x.val : Int) (y.val : Int) ≤ 255 := by decide +kernel
        have := h ⟨(gP a 5).toNat, by omega⟩ ⟨(gP b 5).toNat, by omega⟩
        simp only [Int.toNat_of_nonneg b1.1, Int.toNat_of_nonneg b2.1] at this
        exact this
      have HO := Lib.hid (fun w => Tryd.bits_OnesCount8 (bits .xor .u8 (gP a 5) (gP b 5)) w hx.1 hx.2)
      have HA := Lib.hid (fun w => groupBits_any a ga w)
      have HB := Lib.hid (fun w => groupBits_any b gb w)
      rw [ga] at h1
      rw [gb] at h2
      have H1 := Lib.hid h1; have H2 := Lib.hid h2
      clear h1 h2 e b1 b2 hx ga gb
      go_enter Tryd.func34, Tryd.ntmps34
      go_wp2_with fail
      refine (H1.out _).mono ?_
      rintro e w1 ⟨rfl, hb1⟩
      go_wp2_with fail
      refine (H2.out _).mono ?_
      rintro e w2 ⟨rfl, hb2⟩
      go_wp2_with fail
      refine (HA.out _).mono ?_
      rintro e w3 ⟨rfl, hb3⟩
      go_wp2_with fail
      refine (HB.out _).mono ?_
      rintro e w4 ⟨rfl, hb4⟩
      go_wp2_with fail
      refine (HO.out _).mono ?_
      rintro e w5 ⟨rfl, rfl⟩
      go_wp2
      go_ret
      have h12 := hb1.trans (hb2.mono hb1.size)
      have h13 := h12.trans (hb3.mono h12.size)
      exact ⟨rfl, h13.trans (hb4.mono h13.size)⟩
    · have gb0 : grpOk b = false := by simpa using gb
      have e : distV a b = -1 := by unfold distV; rw [if_neg (fun h => gb h.2)]
      rw [e]
      rw [ga] at h1
      rw [gb0] at h2
      have H1 := Lib.hid h1; have H2 := Lib.hid h2
      clear h1 h2 e ga gb gb0
      go_enter Tryd.func34, Tryd.ntmps34
      go_wp2_with fail
      refine (H1.out _).mono ?_
      rintro e w1 ⟨rfl, hb1⟩
      go_wp2_with fail
      refine (H2.out _).mono ?_
      rintro e w2 ⟨rfl, hb2⟩
      go_wp2
      go_ret
      exact ⟨rfl, hb1.trans (hb2.mono hb1.size)⟩
  · have ga0 : grpOk a = false := by simpa using ga
    have e : distV a b = -1 := by unfold distV; rw [if_neg (fun h => ga h.1)]
    rw [e]
    rw [ga0] at h1
    have H1 := Lib.hid h1
    clear h1 h2 e ga ga0
    go_enter Tryd.func34, Tryd.ntmps34
    go_wp2_with fail
    refine (H1.out _).mono ?_
    rintro e w1 ⟨rfl, hb1⟩
    go_wp2
    go_ret
    exact ⟨rfl, hb1⟩
set_option maxHeartbeats 1000000 in
theorem l06Distance_any (a b : ByteArray) (ha : a.size = 5) (hb : b.size = 5) (w : World) :
    Calls Tryd.prog 51 #[.string a, .string b] w fun e w' => e = .returned (.int .i64 (distR a b 5)) ∧ Below w.heap.size w w' := by
  have hA : 5 ≤ a.size := by omega
  have hB : 5 ≤ b.size := by omega
  have hA2 : a.size ≤ 5 := by omega
  have hB2 : b.size ≤ 5 := by omega
  clear ha hb
  go_enter Tryd.func51, Tryd.ntmps51
  go_wp2
  go_loopw [5, 6] (fun v i wr => ∃ k : Nat, k ≤ 5 ∧ i = .int .i64 k ∧ v = .int .i64 (distR a b k) ∧ Below w.heap.size w wr) (fun _ i _ => 5 - (intOf i).toNat)
  case atStart => exact ⟨0, Nat.zero_le _, rfl, rfl, Below.refl _ _⟩
  case round =>
    obtain ⟨k, hk, rfl, rfl, hbr⟩ := hrel
    by_cases hlt : k < 5
    · have ka : k < a.size := by omega
      have kb : k < b.size := by omega
      have ka1 : (k : Int) < a.size := by omega
      have kb1 : (k : Int) < b.size := by omega
      have k0 : (0 : Int) ≤ k := by omega
      have hd := distR_bd a b k
      have HS := Lib.hid (distR_succ a b k ka kb)
      generalize distR a b k = v at *
      by_cases he : a[k].toNat = b[k].toNat
      · have HE := Lib.hid he
        have hne : ((a[k].toNat : Int) != (b[k].toNat : Int)) = false := by rw [bne_eq_false_iff_eq]; omega
        clear he
        go_wp2
        go_quiet (fail)
        go_wp2
        go_roundw
        case rel => exact ⟨k + 1, by omega, by go_num, by rw [HS.out, if_pos HE.out]; simp, below_drewN hbr _⟩
        case measure => simp [intOf]; omega
      · have HE := Lib.hid he
        have hne : ((a[k].toNat : Int) != (b[k].toNat : Int)) = true := by rw [bne_iff_ne]; omega
        clear he
        go_wp2
        go_quiet (fail)
        go_wp2
        go_roundw
        case rel => exact ⟨k + 1, by omega, by go_num, by rw [HS.out, if_neg HE.out], below_drewN hbr _⟩
        case measure => simp [intOf]; omega
    · obtain rfl : k = 5 := by omega
      go_wp2
      go_ret
      exact ⟨rfl, hbr⟩
end Go.Proofs.YtkdhhkoablmbbabDoor
