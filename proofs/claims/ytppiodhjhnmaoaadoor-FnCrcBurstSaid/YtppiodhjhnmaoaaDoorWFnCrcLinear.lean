/- FnCrcLinear: the law's walk. -/
import Derived.Test.YtppiodhjhnmaoaaDoorRoundCrc
import Derived.Test.YtppiodhjhnmaoaaDoorDrawXor
import Derived.Test.YtppiodhjhnmaoaaDoorData05
import Derived.Test.YtppiodhjhnmaoaaDoorXorBytes
namespace Go.Proofs.YtppiodhjhnmaoaaDoor.fnCrcLinear
open Go.RowKit
set_option maxRecDepth 20000
set_option linter.unusedVariables false
theorem b10Long_any (a : Option Addr) (n cap : Nat) (w : World) :
    Calls Tryd.prog 5 #[.slice a n cap] w fun e w' => e = .returned (.bool (decide (1048576 < n))) ∧ w = w' := by
  by_cases h : 1048576 < n
  · rw [decide_eq_true h]
    have h1 : (1048576 : Int) < n := by omega
    clear h
    go_enter Tryd.func5, Tryd.ntmps5
    go_wp2
    go_ret
    exact ⟨ret_bool (by first | (simp; done) | (simp; omega)), rfl⟩
  · rw [decide_eq_false h]
    have h1 : (n : Int) ≤ 1048576 := by omega
    clear h
    go_enter Tryd.func5, Tryd.ntmps5
    go_wp2
    go_ret
    exact ⟨ret_bool (by first | (simp; done) | (simp; omega)), rfl⟩
def zeroS (n : Nat) : ByteArray := ⟨(List.replicate n (0 : UInt8)).toArray⟩
theorem zeroS_size (n : Nat) : (zeroS n).size = n := by
  show (List.replicate n (0 : UInt8)).toArray.size = n
  simp
theorem zeroS_at (n k : Nat) : ((zeroS n)[k]?.getD 0).toNat = 0 := by
  by_cases h : k < (zeroS n).size
  · rw [getElem?_pos (zeroS n) k h]
    show ((List.replicate n (0 : UInt8)).toArray[k]'(by simpa [zeroS_size] using h)).toNat = 0
    simp
  · rw [getElem?_neg (zeroS n) k h]; rfl
theorem u8i : (Tryd.prog.info? 5).map (fun i => (i.zero, i.size, i.bytes)) = some (some (.int .u8 0), 1, 1) := by kernel_rfl
theorem made_u8 (n j : Nat) (h : j < n) : (madeCells #[Value.int .u8 0] n)[j]? = some (.int .u8 0) := by
  have hs : (madeCells #[Value.int .u8 0] n).size = n := by simp [madeCells]
  rw [Array.getElem?_eq_getElem (by omega)]
  simp [madeCells, Nat.mod_one]
theorem conv_zeros (W : World) (n : Nat) :
    (convert 22 9 (.slice (some ⟨W.heap.size, 0, none⟩) n n)).run Tryd.prog (W.alloc (.cells (madeCells #[Value.int .u8 0] n) 5)) = .ok (.string (zeroS n)) (W.alloc (.cells (madeCells #[Value.int .u8 0] n) 5)) := by
  have h := conv_of (W.alloc (.cells (madeCells #[Value.int .u8 0] n) 5)) ⟨W.heap.size, 0, none⟩ n (List.replicate n (0 : UInt8)) (by
    intro j hj
    rw [add0]
    have e := heap_alloc_new W (.cells (madeCells #[Value.int .u8 0] n) 5)
    have hj2 : j < n := by simpa using hj
    simp only [World.cell?, e]
    rw [made_u8 n j hj2]
    simp)
  rw [List.length_replicate] at h
  exact h
theorem xor_of (a b : ByteArray) (h : a.size = b.size) : XorOf a b ⟨(xorL a.data.toList b.data.toList).toArray⟩ := by
  intro k
  have hl := xorL_length a b h
  by_cases hk : k < a.size
  · have h1 : k < (⟨(xorL a.data.toList b.data.toList).toArray⟩ : ByteArray).size := by show k < (xorL a.data.toList b.data.toList).toArray.size; rw [List.size_toArray]; omega
    rw [getElem?_pos (⟨(xorL a.data.toList b.data.toList).toArray⟩ : ByteArray) k h1, getElem?_pos a k hk, getElem?_pos b k (by omega)]
    have h2 := xorL_at a b k hk (by omega) (by omega)
    show ((xorL a.data.toList b.data.toList).toArray[k]'(by rw [List.size_toArray]; omega)).toNat = a[k].toNat ^^^ b[k].toNat
    rw [List.getElem_toArray, h2]
    simp
  · have h1 : ¬ k < (⟨(xorL a.data.toList b.data.toList).toArray⟩ : ByteArray).size := by show ¬ k < (xorL a.data.toList b.data.toList).toArray.size; rw [List.size_toArray]; omega
    rw [getElem?_neg (⟨(xorL a.data.toList b.data.toList).toArray⟩ : ByteArray) k h1, getElem?_neg a k hk, getElem?_neg b k (by omega)]
    rfl
theorem crcV_nat (s : ByteArray) (v : Nat) (h : v < 65536) : crcV s (v : Int) = (crcT s v s.size : Int) := by
  unfold crcV
  rw [if_pos (by rw [inB_iff]; omega), Int.toNat_natCast]
theorem crc16_65535 (s : ByteArray) (n : Nat) (hn : s.size = n) (hs : n ≤ 4096) (w : World) :
    Calls Tryd.prog 8 #[.string s, .int .i64 65535] w fun e w' => e = .returned (.int .i64 (crcT s 65535 n : Int)) ∧ Below w.heap.size w w' := by
  subst hn
  have h := crc16_any s ((65535 : Nat) : Int) hs w
  rw [crcV_nat s 65535 (by omega)] at h
  exact h
theorem crc16_nat (s : ByteArray) (v : Nat) (hv : v < 65536) (hs : s.size ≤ 4096) (w : World) :
    Calls Tryd.prog 8 #[.string s, .int .i64 (v : Int)] w fun e w' => e = .returned (.int .i64 (crcT s v s.size : Int)) ∧ Below w.heap.size w w' := by
  have h := crc16_any s (v : Int) hs w
  rw [crcV_nat s v hv] at h
  exact h
set_option maxHeartbeats 8000000 in
theorem walk (a0 : Option Addr) (len0 cap0 : Nat) (z0 : List Int) (w : World) (w0 : IsRow .u8 w a0 len0 cap0 z0) :
    Calls Tryd.prog 3 #[.slice a0 len0 cap0] w fun e w' => e = .returned (.bool true) ∧ Below w.heap.size w w' := by
  obtain ⟨hca, hcl⟩ := code_of w0
  have HL := Lib.hid (fun w => b10Long_any a0 len0 cap0 w)
  by_cases hlo : 1048576 < len0
  · rw [decide_eq_true hlo] at HL
    clear hlo hca hcl w0
    go_enter Tryd.func3, Tryd.ntmps3
    go_wp2_with (go_at_call 5; refine (HL.out _).mono ?_; rintro e w' ⟨rfl, rfl⟩)
    go_ret
    exact ⟨rfl, Below.refl _ _⟩
  · rw [decide_eq_false hlo] at HL
    have D0 := Lib.hid (drawXorBytes_any a0 len0 cap0 w (by omega) hcl hca)
    clear hlo hca hcl w0
    go_enter Tryd.func3, Tryd.ntmps3
    go_wp2_with fail
    refine (HL.out _).mono ?_
    rintro e w' ⟨rfl, rfl⟩
    go_wp2_with fail
    refine D0.out.mono ?_
    rintro e w2 ⟨x, y, rfl, hx, hy, hb2⟩
    clear D0
    by_cases hsz : x.size = y.size
    · have HX := Lib.hid (xorBytes_yes x y w2 hsz (by omega))
      have hxo := xor_of x y hsz
      have hXs : (⟨(xorL x.data.toList y.data.toList).toArray⟩ : ByteArray).size = x.size := by show (xorL x.data.toList y.data.toList).toArray.size = x.size; rw [List.size_toArray]; exact xorL_length x y hsz
      generalize (⟨(xorL x.data.toList y.data.toList).toArray⟩ : ByteArray) = X at *
      have hlin := crc_linear x y X (zeroS x.size) hxo (zeroS_at x.size) x.size
      have hZs := zeroS_size x.size
      have hcat := crcT_app x y 65535 y.size
      have bX := crcT_bd X 65535 x.size (by omega)
      have bA := crcT_bd x 65535 x.size (by omega)
      have bB := crcT_bd y 65535 x.size (by omega)
      have CX := Lib.hid (fun w => crc16_65535 X x.size hXs (by omega) w)
      have CA := Lib.hid (fun w => crc16_65535 x x.size rfl (by omega) w)
      have CB := Lib.hid (fun w => crc16_65535 y x.size hsz.symm (by omega) w)
      have CO := Lib.hid (fun w => by
        have h := crc16_65535 (zeroS x.size) x.size hZs (by omega) w
        rw [← hlin] at h
        exact h)
      have CAB := Lib.hid (fun w => by
        have h := crc16_65535 (x ++ y) (x.size + y.size) (by rw [ByteArray.size_append]) (by omega) w
        rw [hcat] at h
        exact h)
      have CBA := Lib.hid (fun w => crc16_nat y (crcT x 65535 x.size) bA (by omega) w)
      have x1 := i64_xor (crcT X 65535 x.size) (crcT x 65535 x.size) (by omega) (by omega)
      have b1 : crcT X 65535 x.size ^^^ crcT x 65535 x.size < 2 ^ 16 := Nat.xor_lt_two_pow (by omega) (by omega)
      have x2 := i64_xor (crcT X 65535 x.size ^^^ crcT x 65535 x.size) (crcT y 65535 x.size) (by omega) (by omega)
      have hmk := fun w => run_make_row' (P := Tryd.prog) 22 5 (.int .u8 0) 1 Tryd.underlying22 u8i rfl .i64 .i64 x.size (by omega) (by omega) w
      have hcz := fun W => conv_zeros W x.size
      generalize zeroS x.size = Z at *
      generalize crcT y (crcT x 65535 x.size) y.size = R at *
      generalize crcT X 65535 x.size ^^^ crcT x 65535 x.size ^^^ crcT y 65535 x.size = rO at *
      generalize crcT X 65535 x.size ^^^ crcT x 65535 x.size = T1 at *
      generalize crcT X 65535 x.size = rX at *
      generalize crcT x 65535 x.size = rA at *
      generalize crcT y 65535 x.size = rB at *
      have hO : ((rO : Int) != (rO : Int)) = false := by simp
      have hR : ((R : Int) == (R : Int)) = true := by simp
      have HB2 := Lib.hid hb2
      clear hxo hlin hcat bX bA bB b1 hb2
      have q1 : (x.size : Int) ≤ 9 := by omega
      have q2 : (y.size : Int) ≤ 10 := by omega
      have HS := Lib.hid hsz; clear hsz
      go_wp2_with fail
      refine HX.out.mono ?_
      rintro e w3 ⟨rfl, hb3⟩
      have hcz3 := hcz w3
      have HB3 := Lib.hid ((HB2.out.trans (hb3.mono HB2.out.size)).alloc (HB2.out.trans (hb3.mono HB2.out.size)).size (.cells (madeCells #[Value.int .u8 0] x.size) 5))
      clear hcz hb3 HX
      obtain ⟨W3, hW3⟩ : ∃ W3, w3.alloc (.cells (madeCells #[Value.int .u8 0] x.size) 5) = W3 := ⟨_, rfl⟩
      rw [hW3] at hcz3 HB3
      go_wp2_with fail
      refine (CX.out _).mono ?_
      rintro e w4 ⟨rfl, hb4⟩
      have HB4 := Lib.hid (HB3.out.trans (hb4.mono HB3.out.size)); clear hb4
      go_wp2_with fail
      refine (CA.out _).mono ?_
      rintro e w5 ⟨rfl, hb5⟩
      have HB5 := Lib.hid (HB4.out.trans (hb5.mono HB4.out.size)); clear hb5
      go_wp2_with fail
      refine (CB.out _).mono ?_
      rintro e w6 ⟨rfl, hb6⟩
      have HB6 := Lib.hid (HB5.out.trans (hb6.mono HB5.out.size)); clear hb6
      go_wp2_with fail
      refine (CO.out _).mono ?_
      rintro e w7 ⟨rfl, hb7⟩
      have HB7 := Lib.hid (HB6.out.trans (hb7.mono HB6.out.size)); clear hb7
      go_wp2_with fail
      refine (CAB.out _).mono ?_
      rintro e w8 ⟨rfl, hb8⟩
      have HB8 := Lib.hid (HB7.out.trans (hb8.mono HB7.out.size)); clear hb8
      go_wp2_with fail
      refine (CA.out _).mono ?_
      rintro e w9 ⟨rfl, hb9⟩
      have HB9 := Lib.hid (HB8.out.trans (hb9.mono HB8.out.size)); clear hb9
      go_wp2_with fail
      refine (CBA.out _).mono ?_
      rintro e w10 ⟨rfl, hb10⟩
      have HB10 := Lib.hid (HB9.out.trans (hb10.mono HB9.out.size)); clear hb10
      go_wp2
      go_ret
      exact ⟨ret_bool (by simp), HB10.out⟩
    · have HX := Lib.hid (xorBytes_no x y w2 hsz (by omega) (by omega))
      have hne : ((x.size : Int) != (y.size : Int)) = true := by simp; omega
      have HB2 := Lib.hid hb2
      have HN := Lib.hid hsz
      clear hsz hb2
      go_wp2_with fail
      refine HX.out.mono ?_
      rintro e w3 ⟨rfl, hb3⟩
      go_wp2
      go_ret
      exact ⟨ret_bool (by first | rfl | exact hne), HB2.out.trans (hb3.mono HB2.out.size)⟩
end Go.Proofs.YtppiodhjhnmaoaaDoor.fnCrcLinear
