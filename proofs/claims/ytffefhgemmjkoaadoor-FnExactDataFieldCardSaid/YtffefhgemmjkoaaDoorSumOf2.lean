/- impl.withChecksum, spec.l08Prefix, spec.l08Sum -/
import Derived.Test.YtffefhgemmjkoaaDoorSumOf
namespace Go.Proofs.YtffefhgemmjkoaaDoor
open Go.RowKit
set_option maxRecDepth 20000
set_option linter.unusedVariables false
set_option maxHeartbeats 2000000 in
theorem withChecksum_any (f k : Int) (fld : ByteArray) (bad : Bool) (w : World) (hok : markOk f k = true) (hfl : fld.size ≤ 100) (ht : SecTabs w) :
    Calls Tryd.prog 43 #[.int .i64 f, .int .i64 k, .string fld, .bool bad] w fun e w' => e = .returned (.string (sumS (prefS f k) fld bad)) ∧ Below w.heap.size w w' := by
  have HC := Lib.hid (checksumOf_any f k fld w hok hfl ht)
  have hb := sumN_bd (prefS f k) fld
  unfold sumS
  generalize sumN (prefS f k) fld = r at *
  have hw : ∀ x : Int, (wordBytes x).size ≤ 1000 := fun x => by rw [wordBytes_size]; omega
  have h2 : (r : Int) < 65536 := by omega
  have HP0 := Lib.hid (fun w => putWord_yes (r : Int) w (by omega) (by omega))
  have HP1 := Lib.hid (fun w => putWord_yes (65535 - (r : Int)) w (by omega) (by omega))
  have hw0 := hw (r : Int)
  have hw1 := hw (65535 - (r : Int))
  clear hw
  generalize wordBytes (r : Int) = t0 at *
  generalize wordBytes (65535 - (r : Int)) = t1 at *
  cases bad with
  | false =>
    rw [show (fld ++ if false = true then t1 else t0) = fld ++ t0 from rfl]
    go_enter Tryd.func43, Tryd.ntmps43
    go_wp2_with (first | (go_at_call 90; refine HC.out.mono ?_; rintro e w1 ⟨rfl, hb1⟩) | (go_at_call 91; refine (HP0.out _).mono ?_; rintro e w2 ⟨rfl, hb2⟩))
    go_ret
    exact ⟨rfl, hb1.trans (hb2.mono hb1.size)⟩
  | true =>
    rw [show (fld ++ if true = true then t1 else t0) = fld ++ t1 from rfl]
    go_enter Tryd.func43, Tryd.ntmps43
    go_wp2_with (first | (go_at_call 90; refine HC.out.mono ?_; rintro e w1 ⟨rfl, hb1⟩) | (go_at_call 91; refine (HP1.out _).mono ?_; rintro e w2 ⟨rfl, hb2⟩))
    go_ret
    exact ⟨rfl, hb1.trans (hb2.mono hb1.size)⟩
set_option maxHeartbeats 2000000 in
theorem l08Sum_any (pre fld : ByteArray) (bad : Bool) (w : World) (hp : pre.size ≤ 100) (hfl : fld.size ≤ 100) :
    Calls Tryd.prog 86 #[.string pre, .string fld, .bool bad] w fun e w' => e = .returned (.string (sumS pre fld bad)) ∧ Below w.heap.size w w' := by
  have HC := Lib.hid (fun w' => by
    have h := specCrc16_any (pre ++ fld) 65535 (by rw [ByteArray.size_append]; omega) w'
    rw [crcV_sum] at h
    exact h)
  have hb := sumN_bd pre fld
  unfold sumS
  generalize sumN pre fld = r at *
  have hw : ∀ x : Int, (wordBytes x).size ≤ 1000 := fun x => by rw [wordBytes_size]; omega
  have h2 : (r : Int) < 65536 := by omega
  have HP0 := Lib.hid (fun w => specPutWord_yes (r : Int) w (by omega) (by omega))
  have HP1 := Lib.hid (fun w => specPutWord_yes (65535 - (r : Int)) w (by omega) (by omega))
  have hw0 := hw (r : Int)
  have hw1 := hw (65535 - (r : Int))
  clear hw
  generalize wordBytes (r : Int) = t0 at *
  generalize wordBytes (65535 - (r : Int)) = t1 at *
  cases bad with
  | false =>
    rw [show (fld ++ if false = true then t1 else t0) = fld ++ t0 from rfl]
    go_enter Tryd.func86, Tryd.ntmps86
    go_wp2_with (first | (go_at_call 123; refine (HC.out _).mono ?_; rintro e w1 ⟨rfl, rfl⟩) | (go_at_call 124; refine (HP0.out _).mono ?_; rintro e w2 ⟨rfl, hb2⟩))
    go_ret
    exact ⟨rfl, hb2⟩
  | true =>
    rw [show (fld ++ if true = true then t1 else t0) = fld ++ t1 from rfl]
    go_enter Tryd.func86, Tryd.ntmps86
    go_wp2_with (first | (go_at_call 123; refine (HC.out _).mono ?_; rintro e w1 ⟨rfl, rfl⟩) | (go_at_call 124; refine (HP1.out _).mono ?_; rintro e w2 ⟨rfl, hb2⟩))
    go_ret
    exact ⟨rfl, hb2⟩
theorem pref_other {f k : Int} (h : ¬ f = 2) : prefS f k = byteS (mkByteN f k) := by
  unfold prefS befS
  rw [if_neg h]
  exact ByteArray.empty_append
theorem pref_two {k : Int} : prefS 2 k = (⟨#[161, 161, 161]⟩ : ByteArray) ++ byteS (mkByteN 2 k) := rfl
set_option maxHeartbeats 2000000 in
theorem l08Prefix_any (f k : Int) (w : World) (hok : markOk f k = true) :
    Calls Tryd.prog 87 #[.int .i64 f, .int .i64 k] w fun e w' => e = .returned (.string (prefS f k)) ∧ Below w.heap.size w w' := by
  have HB := Lib.hid (l07Byte_any f k w hok)
  obtain ⟨n0, n1⟩ := mkByteN_bd hok
  have hcv : ∀ w : World, (convert 34 9 (.slice (some ⟨w.heap.size, 0, none⟩) 1 1)).run Tryd.prog (w.alloc (.cells #[.int .u8 (mkByteN f k : Int)] 5)) = .ok (.string (byteS (mkByteN f k))) (w.alloc (.cells #[.int .u8 (mkByteN f k : Int)] 5)) := fun w => by
    have h := conv_new1 w (mkByteN f k : Int) (by omega) (by omega)
    rw [Int.toNat_natCast] at h
    exact h
  have hz : (byteS (mkByteN f k)).size = 1 := rfl
  have n2 : (mkByteN f k : Int) < 256 := by omega
  by_cases h2 : f = 2
  · subst h2
    rw [pref_two]
    have hz2 : ((⟨#[161, 161, 161]⟩ : ByteArray)).size = 3 := rfl
    generalize byteS (mkByteN 2 k) = tb at *
    generalize mkByteN 2 k = b at *
    clear hok
    go_enter Tryd.func87, Tryd.ntmps87
    go_wp2_with (go_at_call 69; refine HB.out.mono ?_; rintro e w1 ⟨rfl, hb1⟩; have hb1' := hb1.alloc hb1.size (.cells #[.int .u8 (b : Int)] 5); have hcv1 := hcv w1)
    go_ret
    exact ⟨rfl, hb1'⟩
  · rw [pref_other h2]
    have h22 : (f == 2) = false := by simp [h2]
    generalize byteS (mkByteN f k) = tb at *
    generalize mkByteN f k = b at *
    clear hok h2
    go_enter Tryd.func87, Tryd.ntmps87
    go_wp2_with (go_at_call 69; refine HB.out.mono ?_; rintro e w1 ⟨rfl, hb1⟩; have hb1' := hb1.alloc hb1.size (.cells #[.int .u8 (b : Int)] 5); have hcv1 := hcv w1)
    go_ret
    exact ⟨rfl, hb1'⟩
end Go.Proofs.YtffefhgemmjkoaaDoor
