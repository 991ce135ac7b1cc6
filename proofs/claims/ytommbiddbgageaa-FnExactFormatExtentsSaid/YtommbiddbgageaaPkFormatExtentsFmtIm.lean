/- impl.blankDisk, impl.FormatExtents -/
import Derived.Test.YtommbiddbgageaaPkFormatExtentsExOn
import Derived.Test.YtommbiddbgageaaPkFormatExtentsRepStr
namespace Go.Proofs.Ytommbiddbgageaa
open Go.RowKit
set_option linter.unusedVariables false
set_option linter.unusedSimpArgs false
set_option maxRecDepth 20000
set_option maxHeartbeats 2000000 in
theorem blankDisk_any (n z : Nat) (h : ByteArray) (w : World) (h1 : 1 ≤ n) (h2 : n ≤ 128) (hz : z ≤ 1000) :
    Calls Try.prog 31 #[.int .i64 (n : Int), .int .i64 (z : Int), .string h] w fun e w' => ∃ g, e = .returned (.slice (some ⟨g, 0, none⟩) n n) ∧ OwnBS w' w.heap.size g (blankL n z h) ∧ Below w.heap.size w w' := by
  have PD := Lib.hid (fun w => padded_any ⟨#[]⟩ z 0 w (by show 0 ≤ z; omega) (by omega))
  rw [padB_empty] at PD
  have BS := Lib.hid (fun (W : World) (g : Nat) (hw : OwnBS W w.heap.size g (List.replicate n ⟨⟨(List.replicate z (0 : UInt8)).toArray⟩⟩)) => show OwnBS (W.setCell ⟨g, 0, none⟩ (.string h)) w.heap.size g (blankL n z h) from by have := hw.put 0 h (by simp; omega); rwa [blankL_set h1] at this)
  have CE := Lib.hid (fun (W : World) (g : Nat) (hw : OwnBS W w.heap.size g (List.replicate n ⟨⟨(List.replicate z (0 : UInt8)).toArray⟩⟩)) => show W.cell? ⟨g, 0, none⟩ = some (.string ⟨(List.replicate z (0 : UInt8)).toArray⟩) from hw.cell (k := 0) (e := ⟨⟨(List.replicate z (0 : UInt8)).toArray⟩⟩) (by rw [List.getElem?_replicate, if_pos (by omega)]))
  generalize (⟨(List.replicate z (0 : UInt8)).toArray⟩ : ByteArray) = zz at *
  go_enter Try.func31, Try.ntmps31
  go_wp2_with fail
  refine (PD.out _).mono ?_
  rintro e w1 ⟨rfl, hb1⟩
  have hz1 := hb1.size
  have HB1 := Lib.hid hb1; clear hb1
  go_wp2_with fail
  refine (repString_any ⟨zz⟩ n w1.heap.size 0 1 _ h1 h2 (by simp [go_sem])).mono ?_
  rintro e w2 ⟨g, rfl, ho, hb2⟩
  have ho' := ho.mono (B' := w.heap.size) (by simp; omega)
  have c0 := CE.out _ _ ho'
  have z0 := ho'.free 0
  have hgB : w.heap.size ≤ g := ho'.choose_spec.1
  have HO := Lib.hid ho'
  have FB := Lib.hid (HB1.out.trans (Below.trans ((Below.refl w1.heap.size w1).alloc (Nat.le_refl _) _) (hb2.mono (by simp)) |>.mono hz1))
  clear ho ho' hb2
  have hp : 0 < n := by omega
  go_wp2
  go_ret
  exact ⟨g, rfl, BS.out _ _ HO.out, FB.out.setCell hgB _⟩
set_option maxHeartbeats 2000000 in
theorem formatExtents_any (n z : Int) (w : World) :
    Calls Try.prog 13 #[.int .i64 n, .int .i64 z] w (RecRes2 rowString 9 (fxL n z) (fxC n z) w) := by
  have WI := Lib.hid (fun w T b hb => within_r 8 128 n w T b hb)
  have BS := Lib.hid (fun w => isBlockSize_any z w)
  unfold RecRes2
  by_cases h1 : inB 8 128 n = true
  case neg =>
    have h1 : inB 8 128 n = false := by simpa using h1
    have hC : fxC n z = 2 := by unfold fxC; rw [h1]; rfl
    have hL : fxL n z = [] := by unfold fxL; rw [hC]; rfl
    rw [h1] at WI
    rw [hC, hL]
    clear h1 hC hL
    go_enter Try.func13, Try.ntmps13
    go_wp2_with fail
    refine (WI.out _ _ _ (by simp)).mono ?_
    rintro e w1 ⟨rfl, hb1⟩
    go_wp2
    go_ret2
    exact ⟨none, 0, rfl, .inl rfl, hb1⟩
  rw [h1] at WI
  by_cases h2 : sizeI z = true
  case neg =>
    have h2 : sizeI z = false := by simpa using h2
    have hC : fxC n z = 1 := by unfold fxC; rw [h1, h2]; rfl
    have hL : fxL n z = [] := by unfold fxL; rw [hC]; rfl
    rw [h2] at BS
    rw [hC, hL]
    clear h1 h2 hC hL
    go_enter Try.func13, Try.ntmps13
    go_wp2_with fail
    refine (WI.out _ _ _ (by simp)).mono ?_
    rintro e w1 ⟨rfl, hb1⟩
    go_wp2_with fail
    refine (BS.out _).mono ?_
    rintro e w2 ⟨rfl, hb2⟩
    have HB := Lib.hid (hb1.trans (hb2.mono hb1.size)); clear hb1 hb2
    go_wp2
    go_ret2
    exact ⟨none, 0, rfl, .inl rfl, HB.out⟩
  have hC : fxC n z = 0 := by unfold fxC; rw [h1, h2]; rfl
  have hn := inB_iff.1 h1
  have hz := sizeI_iff.1 h2
  rw [h2] at BS
  obtain ⟨n, rfl⟩ : ∃ k : Nat, n = (k : Int) := ⟨n.toNat, by omega⟩
  obtain ⟨z, rfl⟩ : ∃ k : Nat, z = (k : Int) := ⟨z.toNat, by omega⟩
  have hL : fxL (n : Int) (z : Int) = blankL n z (exHead n z) := by unfold fxL; rw [if_pos hC]; rfl
  have EL := Lib.hid (fun w => extentLayout_any n z w (by omega) (by omega) (by omega))
  have EH := Lib.hid (fun w => exHeader_any n z (exData n z) w (by omega) (by omega))
  have BD := Lib.hid (fun w => blankDisk_any n z (exHead n z) w (by omega) (by omega) (by omega))
  have HLN := Lib.hid (show (blankL n z (exHead n z)).length = n from blankL_len (by omega))
  rw [hC, hL]
  clear h1 h2 hC hL hn hz
  generalize exHead n z = hd at *
  generalize exData n z = dd at *
  generalize n / 4 = q4 at *
  go_enter Try.func13, Try.ntmps13
  go_wp2_with fail
  refine (WI.out _ _ _ (by simp)).mono ?_
  rintro e w1 ⟨rfl, hb1⟩
  go_wp2_with fail
  refine (BS.out _).mono ?_
  rintro e w2 ⟨rfl, hb2⟩
  have HB := Lib.hid (hb1.trans (hb2.mono hb1.size)); clear hb1 hb2
  go_wp2_with fail
  refine (EL.out _).mono ?_
  rintro e w3 ⟨rfl, hb3⟩
  replace HB := Lib.hid (HB.out.trans (hb3.mono HB.out.size)); clear hb3
  go_wp2_with fail
  refine (EH.out _).mono ?_
  rintro e w4 ⟨rfl, hb4⟩
  replace HB := Lib.hid (HB.out.trans (hb4.mono HB.out.size)); clear hb4
  go_wp2_with fail
  refine (BD.out _).mono ?_
  rintro e w5 ⟨g, rfl, ho, hb5⟩
  have HO := Lib.hid (OwnBS.so (ho.mono HB.out.size)); clear ho
  replace HB := Lib.hid (HB.out.trans (hb5.mono HB.out.size)); clear hb5
  go_wp2
  go_ret2
  exact ⟨some ⟨g, 0, none⟩, n, by rw [HLN.out]; rfl, HO.out, HB.out⟩
end Go.Proofs.Ytommbiddbgageaa
