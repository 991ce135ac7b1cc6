/- Rows of bytes over GF(256): impl.sumOf at its types, impl.multiple. -/
import Derived.Test.YtpgcmgbflcdjiaaGfSp
import Derived.Test.YtpgcmgbflcdjiaaTreeBlk
namespace Go.Proofs.Ytpgcmgbflcdjiaa
open Go.RowKit
open Gf
set_option linter.unusedVariables false
set_option maxRecDepth 20000
/-- The sums of the bytes of two rows. -/
def xL (a b : List UInt8) : List UInt8 := List.zipWith (· ^^^ ·) a b
theorem xL_len {a b : List UInt8} {n : Nat} (h1 : a.length = n) (h2 : b.length = n) : (xL a b).length = n := by
  unfold xL; rw [List.length_zipWith, h1, h2]; omega
theorem xL_at {a b : List UInt8} {k : Nat} {x y : UInt8} (h1 : a[k]? = some x) (h2 : b[k]? = some y) : (xL a b)[k]? = some (x ^^^ y) := by
  unfold xL; rw [List.getElem?_zipWith, h1, h2]
/-- A product of a byte. -/
def gU (k : Nat) (c : UInt8) : UInt8 := (gmul c.toNat k).toUInt8
theorem gU_nat (k : Nat) (c : UInt8) : (gU k c).toNat = gmul c.toNat k := by
  have h := gmul_lt (b := k) c.toNat_lt
  unfold gU; simp; exact h
def mL (k : Nat) (a : List UInt8) : List UInt8 := a.map (gU k)
theorem mL_len {a : List UInt8} {n : Nat} (k : Nat) (h : a.length = n) : (mL k a).length = n := by unfold mL; simpa using h
theorem mL_at {a : List UInt8} {k i : Nat} {x : UInt8} (h : a[i]? = some x) : (mL k a)[i]? = some (gU k x) := by unfold mL; simp [h]
/-- What is made after k places. -/
def upL (l : List UInt8) (n k : Nat) : List UInt8 := l.take k ++ List.replicate (n - k) 0
theorem upL_len {l : List UInt8} {n k : Nat} (h : l.length = n) (hk : k ≤ n) : (upL l n k).length = n := by unfold upL; simp; omega
theorem upL_0 (l : List UInt8) (n : Nat) : upL l n 0 = List.replicate n 0 := by simp [upL]
theorem upL_all {l : List UInt8} {n : Nat} (h : l.length = n) : upL l n n = l := by
  unfold upL; rw [Nat.sub_self, List.take_of_length_le (by omega)]; simp
theorem upL_set {l : List UInt8} {n k : Nat} {x : UInt8} (h : l.length = n) (hx : l[k]? = some x) : (upL l n k).set k x = upL l n (k + 1) := by
  have hk : k < n := by have := (List.getElem?_eq_some_iff.1 hx).1; omega
  unfold upL
  have e1 : (l.take k).length = k := by simp; omega
  rw [List.set_append_right _ _ (by omega), e1, Nat.sub_self]
  rw [List.take_add_one, hx]
  have e2 : n - k = (n - (k + 1)) + 1 := by omega
  rw [e2, List.replicate_succ]
  simp
/-- A row that the call made. -/
def RowRes (n : Nat) (l : List UInt8) (w : World) (e : Ending) (w' : World) : Prop :=
  e = .returned (.slice (some ⟨w.heap.size, 0, none⟩) n n) ∧ TBk w' w.heap.size l ∧ Below w.heap.size w w' ∧ w.heap.size < w'.heap.size
theorem gfMake (n : Nat) (hn : n ≤ 100000) (w : World) : (Instr.makeSlice 26 (.int .i64 (n : Int)) (.int .i64 (n : Int))).run Try.prog w = .ok (.slice (some ⟨w.heap.size, 0, none⟩) n n) (w.alloc (.cells (madeCells #[Value.int .u8 0] n) 5)) := by
  obtain ⟨i0, hi, hz0, hz1, hz2⟩ := info_parts u8info
  have h := run_make (P := Try.prog) w 26 5 i0 (.int .u8 0) Try.underlying26 hi hz0 .i64 .i64 n n (by omega) (by omega) (by rw [hz2]; omega) (by omega)
  rw [hz1] at h
  simp only [Int.toNat_natCast, Nat.mul_one] at h
  exact h
theorem TBk.made (w : World) (n : Nat) (T : TypeId) : TBk (w.alloc (.cells (madeCells #[Value.int .u8 0] n) T)) w.heap.size (List.replicate n 0) := by
  have h := heap_alloc_new w (.cells (madeCells #[Value.int .u8 0] n) T)
  have hs : madeCells #[Value.int .u8 0] n = Array.replicate n (.int .u8 0) := by
    apply Array.ext
    · simp [madeCells]
    · intro i h1 h2
      simp [madeCells, Nat.mod_one]
  intro i hi
  simp only [List.length_replicate] at hi
  refine ⟨?_, ?_⟩
  · simp only [World.cell?]
    rw [h]
    simp [hs, hi]
  · simp only [World.frozen?]
    rw [h]
    simp
theorem TBk.drew {w : World} {b : Nat} {l : List UInt8} (h : TBk w b l) : TBk w.drew b l := h
theorem str_at (a : ByteArray) (k : Nat) (h : k < a.size) : a.data.toList[k]? = some a[k] := by
  rw [List.getElem?_eq_getElem (by simpa using h)]; rfl
theorem str_len (a : ByteArray) (n : Nat) (h : a.size = n) : a.data.toList.length = n := by rw [← h]; simp
set_option maxHeartbeats 1000000 in
theorem sumss_any (a : ByteArray) (b : ByteArray) (n : Nat) (w : World) (ha : a.size = n) (hb : b.size = n) (h1 : 1 ≤ n) (h64 : n ≤ 64) :
    Calls Try.prog 41 #[.string a, .string b] w (RowRes n (xL a.data.toList b.data.toList) w) := by
  have hla := str_len a n ha
  have hlb := str_len b n hb
  have HX := Lib.hid (xL_len hla hlb)
  have hmk : ∀ w : World, (Instr.makeSlice 26 (.int .i64 (a.size : Int)) (.int .i64 (a.size : Int))).run Try.prog w = .ok (.slice (some ⟨w.heap.size, 0, none⟩) n n) (w.alloc (.cells (madeCells #[Value.int .u8 0] n) 5)) := fun w => by rw [ha]; exact gfMake n (by omega) w
  have HSa := Lib.hid ha
  clear ha hla
  have HSb := Lib.hid hb
  clear hb hlb
  go_enter Try.func41, Try.ntmps41
  go_wp2
  clear hmk
  go_loopw [6, 12] (fun _ i wr => ∃ k : Nat, k ≤ n ∧ i = .int .i64 k ∧ TBk wr w.heap.size (upL (xL a.data.toList b.data.toList) n k) ∧ Below w.heap.size w wr ∧ w.heap.size < wr.heap.size) (fun _ i _ => n - (intOf i).toNat)
  case atStart =>
    refine ⟨0, Nat.zero_le _, rfl, ?_, (Below.refl _ _).alloc (Nat.le_refl _) _, by simp⟩
    rw [upL_0]
    exact TBk.made w n _
  case round =>
    obtain ⟨k, hk, rfl, ht, hb, hsz⟩ := hrel
    by_cases hlt : k < n
    · have x0 := str_at a k (by have := HSa.out; omega)
      have hx8 := (a[k]'(by have := HSa.out; omega)).toNat_lt
      have ea : (k : Int) < a.size := by have := HSa.out; omega
      have ea2 : k < a.size := by omega
      have y0 := str_at b k (by have := HSb.out; omega)
      have hy8 := (b[k]'(by have := HSb.out; omega)).toNat_lt
      have eb : (k : Int) < b.size := by have := HSb.out; omega
      have eb2 : k < b.size := by omega
      have hxx : bits .xor .u8 (a[k].toNat : Int) (b[k].toNat : Int) = ((a[k].toNat ^^^ b[k].toNat : Nat) : Int) := u8_xor_nat _ _ (by omega) (by omega)
      have hxl : a[k].toNat ^^^ b[k].toNat < 256 := xlt hx8 hy8
      have hln := upL_len (k := k) HX.out hk
      have hcf := ht k (by omega)
      have hfz := hcf.2
      have hcc := hcf.1
      obtain ⟨zz, hzz⟩ : ∃ z, Value.int .u8 (((upL (xL a.data.toList b.data.toList) n k)[k]'(by omega)).toNat : Int) = z := ⟨_, rfl⟩
      rw [hzz] at hcc
      have HT := Lib.hid ht
      have HU := Lib.hid (upL_set HX.out (xL_at x0 y0))
      have HV := Lib.hid (show ((a[k].toNat ^^^ b[k].toNat : Nat) : Int) = ((a[k] ^^^ b[k]).toNat : Int) by rw [UInt8.toNat_xor])
      have HL := Lib.hid (show k < (upL (xL a.data.toList b.data.toList) n k).length by omega)
      clear ht hcf hzz hln x0 y0
      go_wp2
      go_region
      all_goals go_wp2
      all_goals go_roundw
      case rel =>
        refine ⟨k + 1, by omega, by go_num, ?_, (hb.setCell (Nat.le_refl _) _).drew, by simpa using hsz⟩
        rw [← HU.out]
        exact (HT.out.set k _ _ HV.out HL.out).drew
      case measure => simp [intOf]; omega
    · obtain rfl : k = n := by omega
      rw [upL_all HX.out] at ht
      have HT := Lib.hid ht; clear ht
      go_wp2
      go_ret
      exact ⟨rfl, HT.out, hb, hsz⟩
set_option maxHeartbeats 1000000 in
theorem sumsr_any (a : ByteArray) (gb cb : Nat) (b : List UInt8) (n : Nat) (w : World) (ha : a.size = n) (hb : b.length = n) (tb : TBk w gb b) (h1 : 1 ≤ n) (h64 : n ≤ 64) :
    Calls Try.prog 42 #[.string a, .slice (some ⟨gb, 0, none⟩) n cb] w (RowRes n (xL a.data.toList b) w) := by
  have hla := str_len a n ha
  have hlb := hb
  have hgb := tb.lt (by omega)
  have HX := Lib.hid (xL_len hla hlb)
  have hmk : ∀ w : World, (Instr.makeSlice 26 (.int .i64 (a.size : Int)) (.int .i64 (a.size : Int))).run Try.prog w = .ok (.slice (some ⟨w.heap.size, 0, none⟩) n n) (w.alloc (.cells (madeCells #[Value.int .u8 0] n) 5)) := fun w => by rw [ha]; exact gfMake n (by omega) w
  have HSa := Lib.hid ha
  clear ha hla
  have HSb := Lib.hid hb
  have Tb := Lib.hid tb
  clear tb hlb
  clear hb
  go_enter Try.func42, Try.ntmps42
  go_wp2
  clear hmk
  go_loopw [6, 12] (fun _ i wr => ∃ k : Nat, k ≤ n ∧ i = .int .i64 k ∧ TBk wr w.heap.size (upL (xL a.data.toList b) n k) ∧ Below w.heap.size w wr ∧ w.heap.size < wr.heap.size) (fun _ i _ => n - (intOf i).toNat)
  case atStart =>
    refine ⟨0, Nat.zero_le _, rfl, ?_, (Below.refl _ _).alloc (Nat.le_refl _) _, by simp⟩
    rw [upL_0]
    exact TBk.made w n _
  case round =>
    obtain ⟨k, hk, rfl, ht, hb, hsz⟩ := hrel
    by_cases hlt : k < n
    · have x0 := str_at a k (by have := HSa.out; omega)
      have hx8 := (a[k]'(by have := HSa.out; omega)).toNat_lt
      have ea : (k : Int) < a.size := by have := HSa.out; omega
      have ea2 : k < a.size := by omega
      obtain ⟨y, y0⟩ : ∃ x, b[k]? = some x := ⟨b[k]'(by have := HSb.out; omega), by simp⟩
      have hy8 := y.toNat_lt
      have hb1 : wr.cell? ⟨gb, k, none⟩ = some (.int .u8 (y.toNat : Int)) := by
        have h := ((Tb.out.below hb hgb) k (by have := HSb.out; omega)).1
        have h2 := (List.getElem?_eq_some_iff.1 y0).2
        rw [h2] at h; exact h
      have hxx : bits .xor .u8 (a[k].toNat : Int) (y.toNat : Int) = ((a[k].toNat ^^^ y.toNat : Nat) : Int) := u8_xor_nat _ _ (by omega) (by omega)
      have hxl : a[k].toNat ^^^ y.toNat < 256 := xlt hx8 hy8
      have hln := upL_len (k := k) HX.out hk
      have hcf := ht k (by omega)
      have hfz := hcf.2
      have hcc := hcf.1
      obtain ⟨zz, hzz⟩ : ∃ z, Value.int .u8 (((upL (xL a.data.toList b) n k)[k]'(by omega)).toNat : Int) = z := ⟨_, rfl⟩
      rw [hzz] at hcc
      have HT := Lib.hid ht
      have HU := Lib.hid (upL_set HX.out (xL_at x0 y0))
      have HV := Lib.hid (show ((a[k].toNat ^^^ y.toNat : Nat) : Int) = ((a[k] ^^^ y).toNat : Int) by rw [UInt8.toNat_xor])
      have HL := Lib.hid (show k < (upL (xL a.data.toList b) n k).length by omega)
      clear ht hcf hzz hln x0 y0
      go_wp2
      go_region
      all_goals go_wp2
      all_goals go_roundw
      case rel =>
        refine ⟨k + 1, by omega, by go_num, ?_, (hb.setCell (Nat.le_refl _) _).drew, by simpa using hsz⟩
        rw [← HU.out]
        exact (HT.out.set k _ _ HV.out HL.out).drew
      case measure => simp [intOf]; omega
    · obtain rfl : k = n := by omega
      rw [upL_all HX.out] at ht
      have HT := Lib.hid ht; clear ht
      go_wp2
      go_ret
      exact ⟨rfl, HT.out, hb, hsz⟩
set_option maxHeartbeats 1000000 in
theorem sumrs_any (ga ca : Nat) (a : List UInt8) (b : ByteArray) (n : Nat) (w : World) (ha : a.length = n) (ta : TBk w ga a) (hb : b.size = n) (h1 : 1 ≤ n) (h64 : n ≤ 64) :
    Calls Try.prog 56 #[.slice (some ⟨ga, 0, none⟩) n ca, .string b] w (RowRes n (xL a b.data.toList) w) := by
  have hla := ha
  have hga := ta.lt (by omega)
  have hlb := str_len b n hb
  have HX := Lib.hid (xL_len hla hlb)
  have hmk := fun w => gfMake n (by omega) w
  have HSa := Lib.hid ha
  have Ta := Lib.hid ta
  clear ta hla
  clear ha
  have HSb := Lib.hid hb
  clear hb hlb
  go_enter Try.func56, Try.ntmps56
  go_wp2
  clear hmk
  go_loopw [6, 12] (fun _ i wr => ∃ k : Nat, k ≤ n ∧ i = .int .i64 k ∧ TBk wr w.heap.size (upL (xL a b.data.toList) n k) ∧ Below w.heap.size w wr ∧ w.heap.size < wr.heap.size) (fun _ i _ => n - (intOf i).toNat)
  case atStart =>
    refine ⟨0, Nat.zero_le _, rfl, ?_, (Below.refl _ _).alloc (Nat.le_refl _) _, by simp⟩
    rw [upL_0]
    exact TBk.made w n _
  case round =>
    obtain ⟨k, hk, rfl, ht, hb, hsz⟩ := hrel
    by_cases hlt : k < n
    · obtain ⟨x, x0⟩ : ∃ x, a[k]? = some x := ⟨a[k]'(by have := HSa.out; omega), by simp⟩
      have hx8 := x.toNat_lt
      have ha1 : wr.cell? ⟨ga, k, none⟩ = some (.int .u8 (x.toNat : Int)) := by
        have h := ((Ta.out.below hb hga) k (by have := HSa.out; omega)).1
        have h2 := (List.getElem?_eq_some_iff.1 x0).2
        rw [h2] at h; exact h
      have y0 := str_at b k (by have := HSb.out; omega)
      have hy8 := (b[k]'(by have := HSb.out; omega)).toNat_lt
      have eb : (k : Int) < b.size := by have := HSb.out; omega
      have eb2 : k < b.size := by omega
      have hxx : bits .xor .u8 (x.toNat : Int) (b[k].toNat : Int) = ((x.toNat ^^^ b[k].toNat : Nat) : Int) := u8_xor_nat _ _ (by omega) (by omega)
      have hxl : x.toNat ^^^ b[k].toNat < 256 := xlt hx8 hy8
      have hln := upL_len (k := k) HX.out hk
      have hcf := ht k (by omega)
      have hfz := hcf.2
      have hcc := hcf.1
      obtain ⟨zz, hzz⟩ : ∃ z, Value.int .u8 (((upL (xL a b.data.toList) n k)[k]'(by omega)).toNat : Int) = z := ⟨_, rfl⟩
      rw [hzz] at hcc
      have HT := Lib.hid ht
      have HU := Lib.hid (upL_set HX.out (xL_at x0 y0))
      have HV := Lib.hid (show ((x.toNat ^^^ b[k].toNat : Nat) : Int) = ((x ^^^ b[k]).toNat : Int) by rw [UInt8.toNat_xor])
      have HL := Lib.hid (show k < (upL (xL a b.data.toList) n k).length by omega)
      clear ht hcf hzz hln x0 y0
      go_wp2
      go_region
      all_goals go_wp2
      all_goals go_roundw
      case rel =>
        refine ⟨k + 1, by omega, by go_num, ?_, (hb.setCell (Nat.le_refl _) _).drew, by simpa using hsz⟩
        rw [← HU.out]
        exact (HT.out.set k _ _ HV.out HL.out).drew
      case measure => simp [intOf]; omega
    · obtain rfl : k = n := by omega
      rw [upL_all HX.out] at ht
      have HT := Lib.hid ht; clear ht
      go_wp2
      go_ret
      exact ⟨rfl, HT.out, hb, hsz⟩
set_option maxHeartbeats 1000000 in
theorem multiple_any (g c : Nat) (l : List UInt8) (n q : Nat) (w : World) (hl : l.length = n) (t : TBk w g l) (hq : q < 256) (h1 : 1 ≤ n) (h64 : n ≤ 64) :
    Calls Try.prog 43 #[.slice (some ⟨g, 0, none⟩) n c, .int .i64 (q : Int)] w (RowRes n (mL q l) w) := by
  have hg := t.lt (by omega)
  have HX := Lib.hid (mL_len q hl)
  have hmk := fun w => gfMake n (by omega) w
  have HS := Lib.hid hl
  have T := Lib.hid t
  clear t hl
  go_enter Try.func43, Try.ntmps43
  go_wp2
  clear hmk
  go_loopw [6, 7, 13] (fun _ _ i wr => ∃ k : Nat, k ≤ n ∧ i = .int .i64 k ∧ TBk wr w.heap.size (upL (mL q l) n k) ∧ Below w.heap.size w wr ∧ w.heap.size < wr.heap.size) (fun _ _ i _ => n - (intOf i).toNat)
  case atStart =>
    refine ⟨0, Nat.zero_le _, rfl, ?_, (Below.refl _ _).alloc (Nat.le_refl _) _, by simp⟩
    rw [upL_0]
    exact TBk.made w n _
  case round =>
    obtain ⟨k, hk, rfl, ht, hb, hsz⟩ := hrel
    by_cases hlt : k < n
    · obtain ⟨x, x0⟩ : ∃ x, l[k]? = some x := ⟨l[k]'(by have := HS.out; omega), by simp⟩
      have hx8 := x.toNat_lt
      have hcell : wr.cell? ⟨g, k, none⟩ = some (.int .u8 (x.toNat : Int)) := by
        have h := ((T.out.below hb hg) k (by have := HS.out; omega)).1
        have h2 := (List.getElem?_eq_some_iff.1 x0).2
        rw [h2] at h; exact h
      have hG := gmul_lt (b := q) hx8
      have hln := upL_len (k := k) HX.out hk
      have HT := Lib.hid ht
      have HU := Lib.hid (upL_set HX.out (mL_at (k := q) x0))
      have HV := Lib.hid (show ((gmul x.toNat q : Nat) : Int) = ((gU q x).toNat : Int) by rw [gU_nat])
      have HL := Lib.hid (show k < (upL (mL q l) n k).length by omega)
      clear ht hln x0
      have hw8 : IntKind.u8.wrap ((gmul x.toNat q : Nat) : Int) = ((gmul x.toNat q : Nat) : Int) := by
        rw [IntKind.wrap_u8]; omega
      go_wp2_with (go_at_call 14; refine (gfMul_nat x.toNat q hx8 hq _).mono ?_; rintro e w1 ⟨rfl, hbm⟩; have HT1 := Lib.hid (HT.out.below hbm hsz); have hcf := HT1.out k HL.out; have hfz := hcf.2; have hcc := hcf.1; obtain ⟨zz, hzz⟩ : ∃ z, Value.int .u8 (((upL (mL q l) n k)[k]'(HL.out)).toNat : Int) = z := ⟨_, rfl⟩; rw [hzz] at hcc; have hs1 := hbm.size; clear hcf hzz)
      go_roundw
      case rel =>
        refine ⟨k + 1, by omega, by go_num, ?_, (hb.trans (hbm.mono hb.size)).setCell (Nat.le_refl _) _, by simp; omega⟩
        rw [← HU.out]
        exact HT1.out.set k _ _ HV.out HL.out
      case measure => simp [intOf]; omega
    · obtain rfl : k = n := by omega
      rw [upL_all HX.out] at ht
      have HT := Lib.hid ht; clear ht
      go_wp2
      go_ret
      exact ⟨rfl, HT.out, hb, hsz⟩
end Go.Proofs.Ytpgcmgbflcdjiaa
