/- impl.doubled, impl.GfMul, impl.GfPow, impl.GfInverse; spec.l23Mul, spec.GfMul, spec.GfPow, spec.l23Inverse, spec.GfInverse. -/
import Derived.Test.YtpgcmgbflcdjiaaGfVal
import Derived.Test.YtpgcmgbflcdjiaaWithin
namespace Go.Proofs.Ytpgcmgbflcdjiaa
open Go.RowKit
set_option linter.unusedVariables false
open Gf
theorem gf_i64_small (n : Int) (h0 : 0 ≤ n) (h1 : n < 2 ^ 40) : IntKind.i64.wrap n = n := by rw [IntKind.wrap_i64]; omega
theorem gf_xor (a b : Nat) (ha : a < 4294967296) (hb : b < 4294967296) : bits .xor .i64 (a : Int) (b : Int) = ((a ^^^ b : Nat) : Int) := by
  have hx : a ^^^ b < 2 ^ 32 := Nat.xor_lt_two_pow (by omega) (by omega)
  have h1 : (BitVec.ofInt 64 (a : Int)).toNat = a := by
    rw [BitVec.ofInt_natCast, BitVec.toNat_ofNat]; exact Nat.mod_eq_of_lt (by omega)
  have h2 : (BitVec.ofInt 64 (b : Int)).toNat = b := by
    rw [BitVec.ofInt_natCast, BitVec.toNat_ofNat]; exact Nat.mod_eq_of_lt (by omega)
  show IntKind.i64.wrap ((BitVec.ofInt 64 (a : Int) ^^^ BitVec.ofInt 64 (b : Int)).toNat : Int) = _
  rw [BitVec.toNat_xor, h1, h2]
  exact gf_i64_small _ (by omega) (by omega)
theorem gf_and1 (x : Int) (h0 : 0 ≤ x) (h1 : x < 1099511627776) : bits .and .i64 x 1 = x % 2 := bits_mask .i64 40 (by decide) gf_i64_small 1 (by decide) x h0 h1
theorem areBytes2_list (zs : List Int) (b off c : Nat) (w : World) (hl : zs.length ≤ maxLen) (hc : Ints w b off zs) :
    Calls Try.prog 35 #[.slice (some ⟨b, off, none⟩) zs.length c] w fun e w' => e = .returned (.bool (zs.all (inB 0 255))) ∧ w = w' := by
  go_enter Try.func35, Try.ntmps35
  go_wp2_with (go_at_call 51; refine (within_list 0 255 zs b off c _ hl hc).mono ?_; rintro e w1 ⟨rfl, rfl⟩)
  go_ret
  exact ⟨rfl, rfl⟩
theorem areBytes2_two (x y : Int) (w : World) (T : TypeId) (b : Nat) (hb : w.heap.size = b) :
    Calls Try.prog 35 #[.slice (some ⟨b, 0, none⟩) 2 2] (w.alloc (.cells #[.int .i64 x, .int .i64 y] T)) fun e w' => e = .returned (.bool (inB 0 255 x && inB 0 255 y)) ∧ w.alloc (.cells #[.int .i64 x, .int .i64 y] T) = w' := by
  subst hb
  refine (areBytes2_list [x, y] w.heap.size 0 2 _ (by simp [maxLen]) (by
    intro i v hv
    match i, hv with
    | 0, hv => simp at hv; subst hv; simp [go_sem]
    | 1, hv => simp at hv; subst hv; simp [go_sem]
    | i + 2, hv => simp at hv)).mono ?_
  rintro e w' ⟨rfl, rfl⟩
  exact ⟨ret_bool (by simp), rfl⟩
theorem doubled_any (a : Nat) (h : a < 256) (w : World) :
    Calls Try.prog 36 #[.int .i64 (a : Int)] w fun e w' => e = .returned (.int .i64 (gdbl a : Nat)) ∧ w = w' := by
  unfold gdbl
  have hx := gf_xor (a * 2) 285 (by omega) (by omega)
  by_cases h2 : 255 < a * 2
  · rw [if_pos h2]
    have hx2 : bits .xor .i64 ((a : Int) * 2) 285 = ((a * 2 ^^^ 285 : Nat) : Int) := by rw [← hx]; congr 1
    clear hx
    go_enter Try.func36, Try.ntmps36
    go_wp2
    go_ret
    exact ⟨rfl, rfl⟩
  · rw [if_neg h2]
    clear hx
    go_enter Try.func36, Try.ntmps36
    go_wp2
    go_ret
    exact ⟨ret_int (by omega), rfl⟩
/-- The product of two numbers that may be no elements. -/
def gmV (a b : Int) : Int := if inB 0 255 a && inB 0 255 b then ((gmul a.toNat b.toNat : Nat) : Int) else 0
theorem gmV_nat {a b : Nat} (ha : a < 256) (hb : b < 256) : gmV (a : Int) (b : Int) = ((gmul a b : Nat) : Int) := by
  unfold gmV
  rw [if_pos (by simp [inB]; omega)]; simp
theorem gm_succ (f a b : Nat) : gm (f + 1) a b = (if b % 2 = 1 then a else 0) ^^^ gm f (gdbl a) (b / 2) := rfl
/-- Where a product's loop stands. -/
def MulAt (G a b p : Nat) : Prop := a < 256 ∧ p < 256 ∧ b < 256 ∧ ∃ f, b < 2 ^ f ∧ p ^^^ gm f a b = G
theorem MulAt.start {a b : Nat} (ha : a < 256) (hb : b < 256) : MulAt (gmul a b) a b 0 := ⟨ha, by omega, hb, 8, hb, Nat.zero_xor _⟩
theorem MulAt.last {G a b p : Nat} (h : MulAt G a b p) (hb : b = 0) : G = p := by
  obtain ⟨_, _, _, f, _, h⟩ := h
  rw [hb, gm_zero, Nat.xor_zero] at h; exact h.symm
theorem MulAt.next {G a b p : Nat} (h : MulAt G a b p) (hb : 0 < b) : MulAt G (gdbl a) (b / 2) (if b % 2 = 1 then p ^^^ a else p) := by
  obtain ⟨h1, h2, h3, f, h4, h⟩ := h
  cases f with
  | zero => simp at h4; omega
  | succ f =>
    refine ⟨gdbl_lt h1, ?_, by omega, f, by rw [Nat.pow_succ] at h4; omega, ?_⟩
    · split
      · exact xlt h2 h1
      · exact h2
    · rw [← h, gm_succ]
      split
      · rw [Nat.xor_assoc]
      · rw [Nat.zero_xor]
set_option maxHeartbeats 1000000 in
theorem gfMul_nat (a b : Nat) (ha : a < 256) (hb : b < 256) (w : World) :
    Calls Try.prog 14 #[.int .i64 (a : Int), .int .i64 (b : Int)] w fun e w' => e = .returned (.int .i64 (gmul a b : Nat)) ∧ Below w.heap.size w w' := by
  have hs := Lib.hid (MulAt.start ha hb)
  have h1 : (inB 0 255 (a : Int) && inB 0 255 (b : Int)) = true := by simp [inB]; omega
  have H2 := fun T b' (hb' : w.heap.size = b') => areBytes2_two (a : Int) (b : Int) w T b' hb'
  rw [h1] at H2
  clear h1
  have HB := Lib.hid H2; clear H2
  generalize gmul a b = G at *
  go_enter Try.func14, Try.ntmps14
  go_wp2_with (go_at_call 35; refine (HB.out _ _ rfl).mono ?_; rintro e w1 ⟨rfl, rfl⟩)
  go_loopw [0, 1, 5] (fun va vb vp wr => ∃ x y p : Nat, va = .int .i64 (x : Int) ∧ vb = .int .i64 (y : Int) ∧ vp = .int .i64 (p : Int) ∧ Hid (MulAt G x y p) ∧ x < 256 ∧ y < 256 ∧ p < 256 ∧ Below w.heap.size w wr) (fun _ vb _ _ => (intOf vb).toNat)
  case atStart => exact ⟨a, b, 0, rfl, rfl, rfl, hs, ha, hb, by omega, (Below.refl _ _).alloc (Nat.le_refl _) _⟩
  case round =>
    obtain ⟨x, y, p, rfl, rfl, rfl, hm, hx, hy, hp, hbl⟩ := hrel
    by_cases h0 : 0 < y
    · have hn := Lib.hid (hm.out.next h0)
      have h3 := gf_and1 (y : Int) (by omega) (by omega)
      have h4 := gf_xor p x (by omega) (by omega)
      have h5 := Lib.hid (gdbl_lt hx)
      have h6 := Lib.hid (xlt hp hx)
      by_cases hodd : y % 2 = 1
      · have h7 : (y : Int) % 2 = 1 := by omega
        rw [h7] at h3
        have HN := Lib.hid (show MulAt G (gdbl x) (y / 2) (p ^^^ x) by have := hn.out; rw [if_pos hodd] at this; exact this)
        clear hn h7 hodd
        go_wp2_with (go_at_call 36; refine (doubled_any x hx _).mono ?_; rintro e w1 ⟨rfl, rfl⟩)
        go_roundw
        case rel => exact ⟨gdbl x, y / 2, p ^^^ x, rfl, by go_num, rfl, HN, h5.out, by omega, h6.out, hbl⟩
        case measure => simp [intOf]; omega
      · have h7 : (y : Int) % 2 = 0 := by omega
        rw [h7] at h3
        have HN := Lib.hid (show MulAt G (gdbl x) (y / 2) p by have := hn.out; rw [if_neg hodd] at this; exact this)
        clear hn h7 hodd
        go_wp2_with (go_at_call 36; refine (doubled_any x hx _).mono ?_; rintro e w1 ⟨rfl, rfl⟩)
        go_roundw
        case rel => exact ⟨gdbl x, y / 2, p, rfl, by go_num, rfl, HN, h5.out, by omega, hp, hbl⟩
        case measure => simp [intOf]; omega
    · have he := hm.out.last (by omega)
      go_wp2
      go_ret
      exact ⟨by rw [he]; rfl, hbl⟩

theorem gmV_no {a b : Int} (h : (inB 0 255 a && inB 0 255 b) = false) : gmV a b = 0 := by unfold gmV; rw [h]; rfl
theorem gfMul_any (a b : Int) (w : World) :
    Calls Try.prog 14 #[.int .i64 a, .int .i64 b] w fun e w' => e = .returned (.int .i64 (gmV a b)) ∧ Below w.heap.size w w' := by
  cases hq : (inB 0 255 a && inB 0 255 b) with
  | true =>
    have h1 : 0 ≤ a ∧ a ≤ 255 ∧ 0 ≤ b ∧ b ≤ 255 := by simp [inB] at hq; omega
    obtain ⟨x, rfl⟩ : ∃ x : Nat, a = (x : Int) := ⟨a.toNat, by omega⟩
    obtain ⟨y, rfl⟩ : ∃ y : Nat, b = (y : Int) := ⟨b.toNat, by omega⟩
    rw [gmV_nat (by omega) (by omega)]
    exact gfMul_nat x y (by omega) (by omega) w
  | false =>
    rw [gmV_no hq]
    have H2 := fun T b' (hb' : w.heap.size = b') => areBytes2_two a b w T b' hb'
    rw [hq] at H2
    have HB := Lib.hid H2; clear H2 hq
    go_enter Try.func14, Try.ntmps14
    go_wp2_with (go_at_call 35; refine (HB.out _ _ rfl).mono ?_; rintro e w1 ⟨rfl, rfl⟩)
    go_ret
    exact ⟨rfl, (Below.refl _ _).alloc (Nat.le_refl _) _⟩
/-- The exponent that counts. -/
def pwE (n : Int) : Nat := (((n.tmod 255) + 255).tmod 255).toNat
theorem tm255 (n : Int) : -255 < n.tmod 255 ∧ n.tmod 255 < 255 := by
  have h := @Int.tmod_eq_emod n 255
  rw [h]; split <;> omega
theorem pwE_bd (n : Int) : pwE n < 255 ∧ (pwE n : Int) = (n.tmod 255 + 255).tmod 255 := by
  unfold pwE
  have h := tm255 n
  rw [Int.tmod_eq_emod_of_nonneg (by omega)]
  omega
theorem pwE_nat (n : Nat) : pwE (n : Int) = n % 255 := by
  unfold pwE
  rw [Int.tmod_eq_emod_of_nonneg (a := (n : Int)) (by omega), Int.tmod_eq_emod_of_nonneg (by omega)]
  omega
theorem pwE_neg (n : Nat) (h : n < 255) : pwE (-(n : Int)) = (255 - n) % 255 := by
  unfold pwE
  have h2 := @Int.tmod_eq_emod (-(n : Int)) 255
  have h3 := tm255 (-(n : Int))
  rw [Int.tmod_eq_emod_of_nonneg (by omega), h2]
  split <;> omega
def pwV (n : Int) : Nat := pw (pwE n)
theorem pwV_lt (n : Int) : pwV n < 256 := pw_lt _
theorem pwV_nat (n : Nat) : pwV (n : Int) = pw n := by unfold pwV; rw [pwE_nat, pw_mod]
theorem pw_succ (n : Nat) : pw (n + 1) = gdbl (pw n) := rfl
set_option maxHeartbeats 1000000 in
theorem gfPow_any (n : Int) (w : World) :
    Calls Try.prog 16 #[.int .i64 n] w fun e w' => e = .returned (.int .i64 (pwV n : Nat)) ∧ w = w' := by
  obtain ⟨hm, he⟩ := pwE_bd n
  have h2 := tm255 n
  unfold pwV
  generalize pwE n = m at *
  obtain ⟨r, hr⟩ : ∃ r, n.tmod 255 = r := ⟨_, rfl⟩
  have hw1 : IntKind.i64.wrap r = r := IntWalk.i64_in _ (by omega)
  have hw2 : IntKind.i64.wrap (r + 255) = r + 255 := IntWalk.i64_in _ (by omega)
  have hw3 : IntKind.i64.wrap (m : Int) = m := IntWalk.i64_in _ (by omega)
  rw [hr] at he h2
  have he2 := he.symm
  clear he
  have hlt : m < 2147483648 := by omega
  go_enter Try.func16, Try.ntmps16
  go_wp2
  go_loop [3, 8] (fun p i => ∃ k : Nat, k ≤ m ∧ i = .int .i64 k ∧ p = .int .i64 (pw k : Nat)) (fun _ i => m - (intOf i).toNat)
  case atStart => exact ⟨0, Nat.zero_le _, rfl, rfl⟩
  case round =>
    obtain ⟨k, hk, rfl, rfl⟩ := hrel
    have hp := pw_lt k
    by_cases hl : k < m
    · go_wp2_with (go_at_call 36; refine (doubled_any (pw k) hp _).mono ?_; rintro e w1 ⟨rfl, rfl⟩)
      go_round
      case rel => exact ⟨k + 1, by omega, by go_num, rfl⟩
      case measure => simp [intOf]; omega
    · obtain rfl : k = m := by omega
      go_wp2
      go_ret
      exact ⟨rfl, rfl⟩
/-- The inverse of a number that may be no element. -/
def giV (a : Int) : Int := if inB 1 255 a then ((ginv a.toNat : Nat) : Int) else 0
theorem giV_nat {a : Nat} (h : a < 256) : giV (a : Int) = ((ginv a : Nat) : Int) := by
  unfold giV
  by_cases h0 : a = 0
  · subst h0; rw [if_neg (by decide)]
    have : ginv 0 = 0 := ip_zero_fin
    show (0 : Int) = ((ginv 0 : Nat) : Int)
    rw [this]; rfl
  · rw [if_pos (by simp [inB]; omega)]; simp
theorem ip_succ (a n : Nat) : ip a (n + 1) = gmul (ip a n) a := rfl
set_option maxRecDepth 20000 in
set_option maxHeartbeats 1000000 in
theorem gfInverse_any (a : Int) (w : World) :
    Calls Try.prog 18 #[.int .i64 a] w fun e w' => e = .returned (.int .i64 (giV a)) ∧ Below w.heap.size w w' := by
  cases hq : inB 0 255 a with
  | true =>
    have h1 : 0 ≤ a ∧ a ≤ 255 := by simp [inB] at hq; omega
    obtain ⟨x, rfl⟩ : ∃ x : Nat, a = (x : Int) := ⟨a.toNat, by omega⟩
    have hx : x < 256 := by omega
    rw [giV_nat hx]
    clear hq h1
    go_enter Try.func18, Try.ntmps18
    go_wp2
    go_loopw [3, 4] (fun p i wr => ∃ k : Nat, k ≤ 254 ∧ i = .int .i64 k ∧ p = .int .i64 (ip x k : Nat) ∧ Below w.heap.size w wr) (fun _ i _ => 254 - (intOf i).toNat)
    case atStart => exact ⟨0, Nat.zero_le _, rfl, rfl, Below.refl _ _⟩
    case round =>
      obtain ⟨k, hk, rfl, rfl, hbl⟩ := hrel
      have hp := ip_lt (a := x) k
      have hsz := hbl.size
      by_cases hl : k < 254
      · go_wp2_with (go_at_call 14; refine (gfMul_nat (ip x k) x hp hx _).mono ?_; rintro e w1 ⟨rfl, hb1⟩)
        go_roundw
        case rel => exact ⟨k + 1, by omega, by go_num, rfl, hbl.trans (hb1.mono hsz)⟩
        case measure => simp [intOf]; omega
      · obtain rfl : k = 254 := by omega
        go_wp2
        go_ret
        exact ⟨rfl, hbl⟩
  | false =>
    have h1 : ¬ (0 ≤ a ∧ a ≤ 255) := by simp [inB] at hq; omega
    have h2 : giV a = 0 := by unfold giV; rw [if_neg (by simp [inB]; omega)]
    have h3 : ∀ b, gmV b a = 0 := fun b => gmV_no (by rw [hq]; simp)
    rw [h2]
    have H3 := Lib.hid h3
    clear hq h1 h2 h3
    go_enter Try.func18, Try.ntmps18
    go_wp2
    go_loopw [3, 4] (fun p i wr => ∃ k : Nat, k ≤ 254 ∧ i = .int .i64 k ∧ (∃ y : Int, p = .int .i64 y ∧ (0 < k → y = 0)) ∧ Below w.heap.size w wr) (fun _ i _ => 254 - (intOf i).toNat)
    case atStart => exact ⟨0, Nat.zero_le _, rfl, ⟨1, rfl, by omega⟩, Below.refl _ _⟩
    case round =>
      obtain ⟨k, hk, rfl, ⟨y, rfl, hy⟩, hbl⟩ := hrel
      have hsz := hbl.size
      by_cases hl : k < 254
      · go_wp2_with (go_at_call 14; refine (gfMul_any y a _).mono ?_; rintro e w1 ⟨rfl, hb1⟩)
        go_roundw
        case rel => exact ⟨k + 1, by omega, by go_num, ⟨_, rfl, fun _ => H3.out y⟩, hbl.trans (hb1.mono hsz)⟩
        case measure => simp [intOf]; omega
      · have hy0 := hy (by omega)
        subst hy0
        go_wp2
        go_ret
        exact ⟨rfl, hbl⟩
set_option maxRecDepth 20000 in
set_option maxHeartbeats 1000000 in
theorem l23Mul_any (a b : Nat) (ha : a < 256) (hb : b < 256) (w : World) :
    Calls Try.prog 34 #[.int .i64 (a : Int), .int .i64 (b : Int)] w fun e w' => e = .returned (.int .i64 (gmul a b : Nat)) ∧ w = w' := by
  have hs := Lib.hid (MulAt.start ha hb)
  generalize gmul a b = G at *
  go_enter Try.func34, Try.ntmps34
  go_wp2
  go_loop [0, 1, 5] (fun va vb vp => ∃ x y p : Nat, va = .int .i64 (x : Int) ∧ vb = .int .i64 (y : Int) ∧ vp = .int .i64 (p : Int) ∧ Hid (MulAt G x y p) ∧ x < 256 ∧ y < 256 ∧ p < 256) (fun _ vb _ => (intOf vb).toNat)
  case atStart => exact ⟨a, b, 0, rfl, rfl, rfl, hs, ha, hb, by omega⟩
  case round =>
    obtain ⟨x, y, p, rfl, rfl, rfl, hm, hx, hy, hp⟩ := hrel
    by_cases h0 : 0 < y
    · have hn := Lib.hid (hm.out.next h0)
      have h4 := gf_xor p x (by omega) (by omega)
      have h6 := Lib.hid (xlt hp hx)
      have h8 : bits .xor .i64 ((x : Int) * 2) 285 = ((x * 2 ^^^ 285 : Nat) : Int) := by rw [← gf_xor (x * 2) 285 (by omega) (by omega)]; congr 1
      have hy2 : (y : Int).tmod 2 = ((y % 2 : Nat) : Int) := by rw [Int.tmod_eq_emod_of_nonneg (by omega)]; omega
      have hd2 : (y : Int).tdiv 2 = ((y / 2 : Nat) : Int) := by rw [Int.tdiv_eq_ediv_of_nonneg (by omega)]; omega
      by_cases hodd : y % 2 = 1
      · rw [hodd] at hy2
        have HN := Lib.hid (show MulAt G (gdbl x) (y / 2) (p ^^^ x) by have := hn.out; rw [if_pos hodd] at this; exact this)
        clear hn hodd
        by_cases hbig : 255 < x * 2
        · have e := Lib.hid (show gdbl x = x * 2 ^^^ 285 by unfold gdbl; rw [if_pos hbig])
          have e9 := Lib.hid (gdbl_lt hx)
          go_wp2
          go_round
          case rel => exact ⟨gdbl x, y / 2, p ^^^ x, by rw [e.out], by go_num, rfl, HN, e9.out, by omega, h6.out⟩
          case measure => simp [intOf]; omega
        · have e := Lib.hid (show gdbl x = x * 2 by unfold gdbl; rw [if_neg hbig])
          go_wp2
          go_round
          case rel => exact ⟨gdbl x, y / 2, p ^^^ x, by rw [e.out]; go_num, by go_num, rfl, HN, by rw [e.out]; omega, by omega, h6.out⟩
          case measure => simp [intOf]; omega
      · have h9 : y % 2 = 0 := by omega
        rw [h9] at hy2
        have HN := Lib.hid (show MulAt G (gdbl x) (y / 2) p by have := hn.out; rw [if_neg hodd] at this; exact this)
        clear hn hodd h9
        by_cases hbig : 255 < x * 2
        · have e := Lib.hid (show gdbl x = x * 2 ^^^ 285 by unfold gdbl; rw [if_pos hbig])
          have e9 := Lib.hid (gdbl_lt hx)
          go_wp2
          go_round
          case rel => exact ⟨gdbl x, y / 2, p, by rw [e.out], by go_num, rfl, HN, e9.out, by omega, hp⟩
          case measure => simp [intOf]; omega
        · have e := Lib.hid (show gdbl x = x * 2 by unfold gdbl; rw [if_neg hbig])
          go_wp2
          go_round
          case rel => exact ⟨gdbl x, y / 2, p, by rw [e.out]; go_num, by go_num, rfl, HN, by rw [e.out]; omega, by omega, hp⟩
          case measure => simp [intOf]; omega
    · have he := hm.out.last (by omega)
      go_wp2
      go_ret
      exact ⟨by first | rfl | (rw [he]; rfl), rfl⟩
end Go.Proofs.Ytpgcmgbflcdjiaa
