/- impl.pack with the closure of impl.PackRuns, and impl.PackRuns, behind a contract of impl.putPlain (PutPlain: still open). -/
import Derived.Test.YtogoklgppepbjaaPkEq
import Derived.Test.YtogoklgppepbjaaRunFind
import Derived.Test.YtogoklgppepbjaaRunSp
import Derived.Test.YtogoklgppepbjaaBuilderStr
import Derived.Test.YtogoklgppepbjaaDigitsOf
namespace Go.Proofs.Ytogoklgppepbjaa
open Go.RowKit
set_option linter.unusedVariables false
set_option linter.unusedSimpArgs false
set_option maxRecDepth 20000
theorem plV_len (s : ByteArray) (e : Nat) (he : e ≤ s.size) : ∀ k i, e - i = k → (plV s i e).length ≤ 2 * (e - i) := by
  intro k
  induction k using Nat.strongRecOn with
  | _ k ih =>
    intro i hk
    by_cases h : i < e
    · rw [plV_step h]
      have h2 := ih (e - (i + min 64 (e - i))) (by omega) (i + min 64 (e - i)) rfl
      have hA : ∀ b : ByteArray, b.data.toList.length = b.size := fun b => by simp
      have h3 : (s.extract i (i + min 64 (e - i))).data.toList.length = min 64 (e - i) := by rw [hA, ByteArray.size_extract]; omega
      simp only [List.length_append, List.length_cons, List.length_nil, h3]
      omega
    · rw [plV_end h]; simp
/-- What is wanted of impl.putPlain. -/
def PutPlain : Prop := ∀ (s : ByteArray) (i e B b : Nat) (l : List UInt8) (w : World), i ≤ e → e ≤ s.size → s.size ≤ 4096 → l.length ≤ 100000 → Bld B b l w → B ≤ w.heap.size →
  Calls Try.prog 74 #[.pointer (some ⟨b, 0, none⟩), .string (s.extract i e), .int .i64 64] w fun x w' => x = .returned (.tuple #[]) ∧ Bld B b (l ++ plV s i e) w' ∧ Below B w w'
set_option maxHeartbeats 8000000 in
theorem packRun_any (PP : PutPlain) (s : ByteArray) (q : Nat) (hs : s.size ≤ 4096) (w : World) (hq : w.cell? ⟨q, 0, none⟩ = some (.string s)) :
    Calls Try.prog 40 #[.string s, .int .i64 64, .func (.func 41) #[] #[.pointer (some ⟨q, 0, none⟩)]] w fun e w' => e = .returned (.string ⟨(pkV s 0).toArray⟩) ∧ Below w.heap.size w w' := by
  obtain ⟨r, hr⟩ : ∃ r, pkV s 0 = r := ⟨_, rfl⟩
  rw [hr]
  have HR := Lib.hid (show ipk s 0 0 = r by rw [ipk_pkV _ 0 rfl (Nat.zero_le _), hr]); clear hr
  have hql := World.block_lt_of_cell? _ _ hq
  have KS := Lib.hid (fun w' (hb : Below w.heap.size w w') => (show w'.cell? ⟨q, 0, none⟩ = some (.string s) by rw [hb.cell (p := ⟨q, 0, none⟩) hql]; exact hq))
  have HP := Lib.hid PP
  clear hq
  go_enter Try.func40, Try.ntmps40
  go_wp2
  go_loopw [8, 9, 10, 11] (fun f p _ _ wr => ∃ (fr i : Nat) (L : List UInt8), fr ≤ i ∧ i ≤ s.size ∧ f = .int .i64 fr ∧ p = .int .i64 i ∧ Hid (L ++ ipk s fr i = r) ∧ L.length ≤ 2 * fr ∧ Hid (Bld w.heap.size w.heap.size L wr) ∧ Below w.heap.size w wr) (fun _ p _ _ _ => s.size - (intOf p).toNat)
  case atStart => exact ⟨0, 0, [], Nat.le_refl _, Nat.zero_le _, rfl, rfl, by unfold Hid; rw [HR.out]; rfl, by simp, Lib.hid (Bld.fresh w), (Below.refl _ _).alloc (Nat.le_refl _) _⟩
  case round =>
    obtain ⟨fr, i, L, hfi, hi, rfl, rfl, hV, hll, hB, hb⟩ := hrel
    have hsz := hb.size
    by_cases hlt : i < s.size
    · have hii : (i : Int) < (s.size : Int) := by omega
      have FR := Lib.hid (findRun_any s i q wr hlt hs (KS.out _ hb))
      have hrb := runV_bd (most := 64) hlt (by omega)
      have hbi := byte_bd s[i]
      by_cases h3 : 3 ≤ runV s i 64
      · have hst := ipk_run (fr := fr) hlt h3
        rw [byteAt_eq s i hlt] at hst
        generalize runV s i 64 = n at *
        have h3i : ¬ ((n : Int) < 3) := by omega
        obtain ⟨b8, hb8⟩ : ∃ b8, (61 + n).toUInt8 = b8 := ⟨_, rfl⟩
        have hb8n : (b8.toNat : Int) = 61 + (n : Int) := by rw [← hb8, UInt8.toNat_ofNat']; omega
        have hwb : IntKind.u8.wrap (64 + (n : Int) - 3) = (b8.toNat : Int) := by rw [show 64 + (n : Int) - 3 = (b8.toNat : Int) by omega]; exact wraps_u8 _ (by omega) (by have := b8.toNat_lt; omega)
        have hw1 : IntKind.i64.wrap (64 + (n : Int)) = 64 + (n : Int) := IntWalk.i64_in _ (by omega)
        have hw2 : IntKind.i64.wrap (64 + (n : Int) - 3) = 64 + (n : Int) - 3 := IntWalk.i64_in _ (by omega)
        have hwi : IntKind.i64.wrap ((i : Int) + (n : Int)) = (i : Int) + (n : Int) := IntWalk.i64_in _ (by omega)
        have bd8 := byte_bd b8
        have HV := Lib.hid (show (L ++ plV s fr i ++ [b8] ++ [s[i]]) ++ ipk s (i + n) (i + n) = r by rw [← hV.out, hst, hb8]; simp)
        have hpl := plV_len s i hi _ fr rfl
        have HRB := Lib.hid (And.intro hrb hpl)
        have hsl : fr ≤ i ∧ i ≤ s.size := ⟨hfi, hi⟩
        have HL := Lib.hid (show (L ++ plV s fr i).length < 2147483648 ∧ (L ++ plV s fr i ++ [b8]).length < 2147483648 by simp; omega)
        clear hst hrb hb8 hb8n hpl
        go_wp2_with fail
        refine FR.out.mono ?_
        rintro e w2 ⟨rfl, hb2⟩
        have hz2 := hb2.size
        have B2 := Lib.hid (hB.out.same (fun q _ hq => hb2.block q hq))
        have HB2 := Lib.hid (hb.trans (hb2.mono hsz))
        clear hb2
        go_wp2_with fail
        refine (HP.out s fr i w.heap.size w.heap.size L w2 hfi hi hs (by omega) B2.out (by omega)).mono ?_
        rintro e w3 ⟨rfl, B3, hb3⟩
        have hz3 := hb3.size
        go_wp2_with fail
        refine (writeByte_any w.heap.size w.heap.size (L ++ plV s fr i) (b8.toNat : Int) _ bd8.1 bd8.2 B3 HL.out.1 (by omega)).mono ?_
        rintro e w4 ⟨rfl, B4', hb4⟩
        have hz4 := hb4.size
        rw [byte_back] at B4'
        go_wp2_with fail
        refine (writeByte_any w.heap.size w.heap.size (L ++ plV s fr i ++ [b8]) (s[i].toNat : Int) _ hbi.1 hbi.2 B4' HL.out.2 (by omega)).mono ?_
        rintro e w5 ⟨rfl, B5', hb5⟩
        rw [byte_back] at B5'
        go_wp2
        go_roundw
        case rel =>
          obtain ⟨⟨r1, r2, r3⟩, r4⟩ := HRB.out
          exact ⟨i + n, i + n, L ++ plV s fr i ++ [b8] ++ [s[i]], Nat.le_refl _, by omega, by congr 1, by congr 1, HV, by simp; omega, Lib.hid B5', HB2.out.trans (hb3.trans (hb4.trans hb5))⟩
        case measure =>
          obtain ⟨⟨r1, r2, r3⟩, r4⟩ := HRB.out
          simp [intOf]; omega
      · have hst := ipk_skip (fr := fr) hlt h3
        have h3i : ((runV s i 64 : Nat) : Int) < 3 := by omega
        generalize runV s i 64 = n at *
        have HV := Lib.hid (show L ++ ipk s fr (i + 1) = r by rw [← hV.out, hst])
        clear hst
        go_wp2_with fail
        refine FR.out.mono ?_
        rintro e w2 ⟨rfl, hb2⟩
        have B2 := Lib.hid (hB.out.same (fun q _ hq => hb2.block q hq))
        have HB2 := Lib.hid (hb.trans (hb2.mono hsz))
        clear hb2
        go_wp2
        go_roundw
        case rel => exact ⟨fr, i + 1, L, by omega, by omega, rfl, by go_num, HV, hll, B2, HB2.out⟩
        case measure => simp [intOf]; omega
    · obtain rfl : i = s.size := by omega
      have hV2 := hV.out
      rw [ipk_end (by omega)] at hV2
      have HV2 := Lib.hid hV2; clear hV2
      have hpl := plV_len s s.size (Nat.le_refl _) _ fr rfl
      have HL := Lib.hid (show (L ++ plV s fr s.size).length < 2147483648 by simp; omega)
      have hsl : fr ≤ s.size ∧ s.size ≤ s.size := ⟨hfi, Nat.le_refl _⟩
      clear hpl
      go_wp2_with fail
      refine (HP.out s fr s.size w.heap.size w.heap.size L _ hfi (Nat.le_refl _) hs (by omega) hB.out (by omega)).mono ?_
      rintro e w3 ⟨rfl, B3, hb3⟩
      go_wp2_with (go_at_call 59; refine (Try.Builder_String_any w.heap.size w.heap.size (L ++ plV s fr s.size) _ B3 (by have := hb3.size; omega)).mono ?_; rintro e w4 ⟨rfl, hb4⟩)
      go_ret
      exact ⟨by rw [HV2.out]; rfl, hb.trans (hb3.trans hb4)⟩
set_option maxHeartbeats 2000000 in
theorem packRuns_of (PP : PutPlain) (s : ByteArray) (hs0 : s.size ≤ 1048576) (w : World) :
    Calls Try.prog 12 #[.string s] w fun e w' => e = .returned (.tuple #[.string (pkS s), .bool (decide (s.size ≤ 4096))]) ∧ Below w.heap.size w w' := by
  unfold pkS
  by_cases hs : s.size ≤ 4096
  case neg =>
    have h1 : (4096 : Int) < (s.size : Int) := by omega
    rw [if_neg hs, decide_eq_false hs]
    go_enter Try.func12, Try.ntmps12
    go_wp2
    go_ret2
    exact ⟨rfl, by go_grown⟩
  have h1 : ¬ (4096 : Int) < (s.size : Int) := by omega
  rw [if_pos hs, decide_eq_true hs]
  have PK := Lib.hid (packRun_any PP s w.heap.size hs (w.alloc (.cells #[.string s] 9)) (cell_new w _ 9))
  generalize (⟨(pkV s 0).toArray⟩ : ByteArray) = r at *
  go_enter Try.func12, Try.ntmps12
  go_wp2_with fail
  refine PK.out.mono ?_
  rintro e w2 ⟨rfl, hb2⟩
  go_wp2
  go_ret2
  exact ⟨rfl, Below.trans (show Below w.heap.size w _ from (Below.refl _ _).alloc (Nat.le_refl _) _) (hb2.mono (by simp))⟩
end Go.Proofs.Ytogoklgppepbjaa
