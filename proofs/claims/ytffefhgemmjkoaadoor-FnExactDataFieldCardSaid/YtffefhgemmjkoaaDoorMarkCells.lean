/- impl.byteText, impl.MarkCells, spec.l07Mark, spec.MarkCells -/
import Derived.Test.YtffefhgemmjkoaaDoorMarkTab
import Derived.Test.YtffefhgemmjkoaaDoorEncodeFm
import Derived.Test.YtffefhgemmjkoaaDoorEncodeGcr
import Derived.Test.YtffefhgemmjkoaaDoorFmMark
import Derived.Test.YtffefhgemmjkoaaDoorSpecEncode
import Derived.Test.YtffefhgemmjkoaaDoorLastBit
namespace Go.Proofs.YtffefhgemmjkoaaDoor
open Go.RowKit
set_option maxRecDepth 20000
set_option linter.unusedVariables false
def byteS (n : Nat) : ByteArray := ⟨#[n.toUInt8]⟩
def ones10S : ByteArray := ⟨#[49, 49, 49, 49, 49, 49, 49, 49, 49, 49]⟩
/-- The cells of the mark with this byte. -/
def mkT (f : Int) (b : Nat) : ByteArray := if f = 1 then fmMarkV b else if f = 2 then mfmMarkS ++ mfmMarkS ++ mfmMarkS ++ encV (byteS b) true true else ones10S ++ encGT (byteS b)
def mkV (f k : Int) : ByteArray := if markOk f k = true then mkT f (mkByteN f k) else ⟨#[]⟩
theorem rep3 : (⟨(Lib.repeatL mfmMarkS.data.toList 3).toArray⟩ : ByteArray) = mfmMarkS ++ mfmMarkS ++ mfmMarkS := by decide +kernel
theorem rep10 : (⟨(Lib.repeatL (⟨#[49]⟩ : ByteArray).data.toList 10).toArray⟩ : ByteArray) = ones10S := by decide +kernel
theorem mkByteN_bd {f k : Int} (h : markOk f k = true) : 0 < mkByteN f k ∧ mkByteN f k < 256 := by
  unfold markOk at h
  simp only [Bool.and_eq_true, inB_iff] at h
  obtain ⟨⟨f0, f1⟩, k0, k1⟩ := h
  have hk : k = 1 ∨ k = 2 ∨ k = 3 := by omega
  have hf : f = 1 ∨ f = 2 ∨ f = 3 := by omega
  rcases hk with rfl | rfl | rfl <;> rcases hf with rfl | rfl | rfl <;> decide
theorem encV_one (n : Nat) : (encV (byteS n) true true).size ≤ 1000 := by
  have h := encS_len (byteS n) true true (8 * (byteS n).size)
  have h1 : (byteS n).size = 1 := rfl
  unfold encV
  rw [if_pos (by rw [h1]; omega)]
  show (encS (byteS n) true true (8 * (byteS n).size)).toArray.size ≤ 1000
  rw [List.size_toArray]
  omega
theorem encGT_one (n : Nat) : (encGT (byteS n)).size ≤ 1000 := by
  have h := encGL_len (byteS n) (byteS n).size
  have h1 : (byteS n).size = 1 := rfl
  unfold encGT
  rw [if_pos (by rw [h1]; omega)]
  show (encGL (byteS n) (byteS n).size).toArray.size ≤ 1000
  rw [List.size_toArray]
  omega
theorem encG_one (n : Nat) : encGB (byteS n) = true := rfl
set_option maxHeartbeats 400000 in
theorem byteText_any (n : Nat) (h : n < 256) (w : World) :
    Calls Tryd.prog 38 #[.int .i64 (n : Int)] w fun e w' => e = .returned (.string (byteS n)) ∧ Below w.heap.size w w' := by
  have hcv := conv_new1 w (n : Int) (by omega) (by omega)
  rw [Int.toNat_natCast] at hcv
  have h2 : (n : Int) < 256 := by omega
  go_enter Tryd.func38, Tryd.ntmps38
  go_wp2
  go_ret
  exact ⟨rfl, (Below.refl _ _).alloc (Nat.le_refl _) _⟩
theorem repeat3_any (w : World) : Calls Tryd.prog 35 #[.string mfmMarkS, .int .i64 3] w fun e w' => e = .returned (.string (mfmMarkS ++ mfmMarkS ++ mfmMarkS)) ∧ Below w.heap.size w w' := by
  have h := Tryd.strings_Repeat_main mfmMarkS 3 w (by decide) (by decide) (by decide) (by decide)
  rw [rep3] at h
  exact h
theorem repeat10_any (w : World) : Calls Tryd.prog 35 #[.string ⟨#[49]⟩, .int .i64 10] w fun e w' => e = .returned (.string ones10S) ∧ Below w.heap.size w w' := by
  have h := Tryd.strings_Repeat_main ⟨#[49]⟩ 10 w (by decide) (by decide) (by decide) (by decide)
  rw [rep10] at h
  exact h
set_option maxHeartbeats 4000000 in
theorem markCells_any (f k : Int) (w : World) (hm : MkTabs w) (hg : 0 < w.heap.size) (hG : GrpTab w) :
    Calls Tryd.prog 11 #[.int .i64 f, .int .i64 k] w fun e w' => e = .returned (.tuple #[.string (mkV f k), .bool (markOk f k)]) ∧ Below w.heap.size w w' := by
  have hb := markByte_any f k w hm
  by_cases hok : markOk f k = true
  · have hB : markB f k = (mkByteN f k : Int) := by unfold markB; rw [if_pos hok]
    have hV : mkV f k = mkT f (mkByteN f k) := by unfold mkV; rw [if_pos hok]
    obtain ⟨n0, n1⟩ := mkByteN_bd hok
    rw [hB] at hb
    rw [hV, hok]
    unfold markOk at hok
    simp only [Bool.and_eq_true, inB_iff] at hok
    obtain ⟨⟨f0, f1⟩, _⟩ := hok
    generalize mkByteN f k = b at *
    have HB := Lib.hid hb; clear hb hB hV
    have hz : ((b : Int) == 0) = false := by simp; omega
    have HFM := Lib.hid (fun w => fmMark_any (b : Int) w)
    have HM3 := Lib.hid (fun w => repeat3_any w)
    have HR10 := Lib.hid (fun w => repeat10_any w)
    have HEM := Lib.hid (fun w => encodeMfm_any (byteS b) true (by show 1 ≤ 1048576; omega) w)
    have HEG := Lib.hid (fun w hw ht => encodeGcr_any (byteS b) (by show 1 ≤ 1048576; omega) w hw ht)
    rw [encG_one] at HEG
    have HBT := Lib.hid (fun w => byteText_any b n1 w)
    have HMM := Lib.hid (fun w => mfmMark_any w)
    have hf : f = 1 ∨ f = 2 ∨ f = 3 := by omega
    unfold mkT
    have hsz1 : mfmMarkS.size = 16 := rfl
    have hsz2 := encV_one b
    have hsz3 := encGT_one b
    have hsz4 : ones10S.size = 10 := rfl
    generalize fmMarkV b = t1 at *
    generalize encV (byteS b) true true = t2 at *
    generalize encGT (byteS b) = t3 at *
    generalize byteS b = tb at *
    generalize mfmMarkS = mm at *
    generalize ones10S = oo at *
    rcases hf with rfl | rfl | rfl
    · rw [if_pos rfl]
      go_enter Tryd.func11, Tryd.ntmps11
      go_wp2_with (first | (go_at_call 33; refine HB.out.mono ?_; rintro e w1 ⟨rfl, hb1⟩) | (go_at_call 34; refine (HFM.out _).mono ?_; rintro e w2 ⟨rfl, hb2⟩))
      go_ret2
      exact ⟨rfl, hb1.trans (hb2.mono hb1.size)⟩
    · rw [if_neg (by decide), if_pos rfl]
      go_enter Tryd.func11, Tryd.ntmps11
      go_wp2_with (first | (go_at_call 33; refine HB.out.mono ?_; rintro e w1 ⟨rfl, hb1⟩) | (go_at_call 36; refine (HMM.out _).mono ?_; rintro e w2 ⟨rfl, hb2⟩) | (go_at_call 35; refine (HM3.out _).mono ?_; rintro e w3 ⟨rfl, hb3⟩) | (go_at_call 38; refine (HBT.out _).mono ?_; rintro e w4 ⟨rfl, hb4⟩) | (go_at_call 37; refine (HEM.out _).mono ?_; rintro e w5 ⟨rfl, hb5⟩))
      go_ret2
      have c2 := hb1.trans (hb2.mono hb1.size)
      have c3 := c2.trans (hb3.mono c2.size)
      have c4 := c3.trans (hb4.mono c3.size)
      exact ⟨rfl, c4.trans (hb5.mono c4.size)⟩
    · rw [if_neg (by decide), if_neg (by decide)]
      go_enter Tryd.func11, Tryd.ntmps11
      go_wp2_with (first | (go_at_call 33; refine HB.out.mono ?_; rintro e w1 ⟨rfl, hb1⟩) | (go_at_call 38; refine (HBT.out _).mono ?_; rintro e w4 ⟨rfl, hb4⟩; have c4 := hb1.trans (hb4.mono hb1.size)) | (go_at_call 22; refine (HEG.out _ (Nat.lt_of_lt_of_le hg c4.size) (hG.below c4 hg)).mono ?_; rintro e w5 ⟨rfl, hb5⟩; have c5 := c4.trans (hb5.mono c4.size)) | (go_at_call 35; refine (HR10.out _).mono ?_; rintro e w6 ⟨rfl, hb6⟩))
      go_ret2
      exact ⟨rfl, c5.trans (hb6.mono c5.size)⟩
  · have hf : markOk f k = false := by simpa using hok
    have hB : markB f k = 0 := by unfold markB; rw [if_neg hok]
    have hV : mkV f k = ⟨#[]⟩ := by unfold mkV; rw [if_neg hok]
    rw [hB] at hb
    rw [hV, hf]
    have HB := Lib.hid hb; clear hb hB hV hf hok
    go_enter Tryd.func11, Tryd.ntmps11
    go_wp2_with (first | (go_at_call 33; refine HB.out.mono ?_; rintro e w1 ⟨rfl, hb1⟩))
    go_ret2
    exact ⟨rfl, hb1⟩
set_option maxHeartbeats 4000000 in
theorem l07Mark_any (f k : Int) (w : World) (hok : markOk f k = true) :
    Calls Tryd.prog 32 #[.int .i64 f, .int .i64 k] w fun e w' => e = .returned (.string (mkV f k)) ∧ Below w.heap.size w w' := by
  have hb := l07Byte_any f k w hok
  have hV : mkV f k = mkT f (mkByteN f k) := by unfold mkV; rw [if_pos hok]
  obtain ⟨n0, n1⟩ := mkByteN_bd hok
  rw [hV]
  unfold markOk at hok
  simp only [Bool.and_eq_true, inB_iff] at hok
  obtain ⟨⟨f0, f1⟩, _⟩ := hok
  generalize mkByteN f k = b at *
  have HB := Lib.hid hb; clear hb hV
  have HFM := Lib.hid (fun w => specFmMark_any (b : Int) w)
  have HEM := Lib.hid (fun w => specEncodeMfm_any (byteS b) true (by show 1 ≤ 1048576; omega) w)
  have HEG := Lib.hid (fun w => specEncodeGcr_any (byteS b) (by show 1 ≤ 1048576; omega) w)
  rw [encG_one] at HEG
  have HMM := Lib.hid (fun w => specMfmMark_any w)
  have hcv : ∀ w : World, (convert 34 9 (.slice (some ⟨w.heap.size, 0, none⟩) 1 1)).run Tryd.prog (w.alloc (.cells #[.int .u8 (b : Int)] 5)) = .ok (.string (byteS b)) (w.alloc (.cells #[.int .u8 (b : Int)] 5)) := fun w => by
    have h := conv_new1 w (b : Int) (by omega) (by omega)
    rw [Int.toNat_natCast] at h
    exact h
  have n2 : (b : Int) < 256 := by omega
  have hf : f = 1 ∨ f = 2 ∨ f = 3 := by omega
  unfold mkT
  have hsz1 : mfmMarkS.size = 16 := rfl
  have hsz2 := encV_one b
  have hsz3 := encGT_one b
  have hsz4 : ones10S.size = 10 := rfl
  generalize fmMarkV b = t1 at *
  generalize encV (byteS b) true true = t2 at *
  generalize encGT (byteS b) = t3 at *
  generalize byteS b = tb at *
  have HOO := Lib.hid (show ones10S = (⟨#[49, 49, 49, 49, 49, 49, 49, 49, 49, 49]⟩ : ByteArray) from rfl)
  generalize mfmMarkS = mm at *
  rcases hf with rfl | rfl | rfl
  · rw [if_pos rfl]
    go_enter Tryd.func32, Tryd.ntmps32
    go_wp2_with (first | (go_at_call 69; refine HB.out.mono ?_; rintro e w1 ⟨rfl, hb1⟩; have hb1' := hb1.alloc hb1.size (.cells #[.int .u8 (b : Int)] 5); have hcv1 := hcv w1) | (go_at_call 70; refine (HFM.out _).mono ?_; rintro e w2 ⟨rfl, hb2⟩))
    go_ret
    exact ⟨rfl, hb1'.trans (hb2.mono hb1'.size)⟩
  · rw [if_neg (by decide), if_pos rfl]
    go_enter Tryd.func32, Tryd.ntmps32
    go_wp2_with (first | (go_at_call 69; refine HB.out.mono ?_; rintro e w1 ⟨rfl, hb1⟩; have hb1' := hb1.alloc hb1.size (.cells #[.int .u8 (b : Int)] 5); have hcv1 := hcv w1) | (go_at_call 71; refine (HMM.out _).mono ?_; rintro e w2 ⟨rfl, hb2⟩; have hb1' := hb1'.trans (hb2.mono hb1'.size)) | (go_at_call 72; refine (HEM.out _).mono ?_; rintro e w5 ⟨rfl, hb5⟩))
    go_ret
    exact ⟨rfl, hb1'.trans (hb5.mono hb1'.size)⟩
  · rw [if_neg (by decide), if_neg (by decide), HOO.out]
    go_enter Tryd.func32, Tryd.ntmps32
    go_wp2_with (first | (go_at_call 69; refine HB.out.mono ?_; rintro e w1 ⟨rfl, hb1⟩; have hb1' := hb1.alloc hb1.size (.cells #[.int .u8 (b : Int)] 5); have hcv1 := hcv w1) | (go_at_call 73; refine (HEG.out _).mono ?_; rintro e w5 ⟨rfl, hb5⟩))
    go_ret
    exact ⟨rfl, hb1'.trans (hb5.mono hb1'.size)⟩
set_option maxHeartbeats 1000000 in
theorem specMarkCells_any (f k : Int) (w : World) :
    Calls Tryd.prog 10 #[.int .i64 f, .int .i64 k] w fun e w' => e = .returned (.tuple #[.string (mkV f k), .bool (markOk f k)]) ∧ Below w.heap.size w w' := by
  have hf := fun w => l07Format_any f w
  have hk := fun w => l00In_any k 1 3 w
  by_cases h1 : inB 1 3 f = true
  · rw [h1] at hf
    by_cases h2 : inB 1 3 k = true
    · rw [h2] at hk
      have hok : markOk f k = true := by unfold markOk; rw [h1, h2]; rfl
      rw [hok]
      have HF := Lib.hid hf; have HK := Lib.hid hk; have HB := Lib.hid (fun w => l07Mark_any f k w hok); clear hf hk h1 h2 hok
      go_enter Tryd.func10, Tryd.ntmps10
      go_wp2_with (first | (go_at_call 30; refine (HF.out _).mono ?_; rintro e w1 ⟨rfl, rfl⟩) | (go_at_call 31; refine (HK.out _).mono ?_; rintro e w1 ⟨rfl, rfl⟩) | (go_at_call 32; refine (HB.out _).mono ?_; rintro e w2 ⟨rfl, hb2⟩))
      go_ret2
      exact ⟨rfl, hb2⟩
    · have h20 : inB 1 3 k = false := by simpa using h2
      rw [h20] at hk
      have hok : markOk f k = false := by unfold markOk; rw [h20]; simp
      have hV : mkV f k = ⟨#[]⟩ := by unfold mkV; rw [if_neg (by simp [hok])]
      rw [hV, hok]
      have HF := Lib.hid hf; have HK := Lib.hid hk; clear hf hk h1 h2 h20 hok hV
      go_enter Tryd.func10, Tryd.ntmps10
      go_wp2_with (first | (go_at_call 30; refine (HF.out _).mono ?_; rintro e w1 ⟨rfl, rfl⟩) | (go_at_call 31; refine (HK.out _).mono ?_; rintro e w1 ⟨rfl, rfl⟩))
      go_ret2
      exact ⟨rfl, Below.refl _ _⟩
  · have h10 : inB 1 3 f = false := by simpa using h1
    rw [h10] at hf
    have hok : markOk f k = false := by unfold markOk; rw [h10]; simp
    have hV : mkV f k = ⟨#[]⟩ := by unfold mkV; rw [if_neg (by simp [hok])]
    rw [hV, hok]
    have HF := Lib.hid hf; clear hf hk h1 h10 hok hV
    go_enter Tryd.func10, Tryd.ntmps10
    go_wp2_with (first | (go_at_call 30; refine (HF.out _).mono ?_; rintro e w1 ⟨rfl, rfl⟩))
    go_ret2
    exact ⟨rfl, Below.refl _ _⟩
end Go.Proofs.YtffefhgemmjkoaaDoor
