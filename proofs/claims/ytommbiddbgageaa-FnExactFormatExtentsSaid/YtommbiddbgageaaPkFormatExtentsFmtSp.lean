/- spec.l17Format, spec.FormatExtents -/
import Derived.Test.YtommbiddbgageaaPkFormatExtentsSpecEx
import Derived.Test.YtommbiddbgageaaPkFormatExtentsFmtIm
import Derived.Test.YtommbiddbgageaaPkFormatExtentsDiscVal
namespace Go.Proofs.Ytommbiddbgageaa
open Go.RowKit
set_option linter.unusedVariables false
set_option linter.unusedSimpArgs false
set_option maxRecDepth 20000
theorem ownR_one (w : World) (B b : Nat) (s : ByteArray) (hB : B ≤ w.heap.size) (hb : w.heap.size = b) : OwnR rowString 9 1 (w.alloc (.cells #[.string s] 9)) B (.slice (some ⟨b, 0, none⟩) 1 1) [⟨s⟩] := by
  subst hb
  exact ⟨by simp [rowString], .inr ⟨w.heap.size, 1, #[.string s], rfl, hB, heap_alloc_new w _, Nat.le_refl _, by unfold maxLen; omega, rfl, by simp [rowString]⟩⟩
set_option maxHeartbeats 4000000 in
theorem l17Format_any (n z : Nat) (w : World) (hn : 8 ≤ n ∧ n ≤ 128) (hz : z = 8 ∨ z = 16 ∨ z = 32) :
    Calls Try.prog 28 #[.int .i64 (n : Int), .int .i64 (z : Int)] w (RecRes rowString 9 (blankL n z (exHead n z)) w) := by
  have HE := Lib.hid (fun w => l17Head_any n z w hz hn.2)
  have hcz := fun W => conv_zerosZ W z
  have hmk := fun w => run_make_row' (P := Try.prog) 75 5 (.int .u8 0) 1 Try.underlying75 u8iE rfl .i64 .i64 z (by omega) (by omega) w
  have SN := Lib.hid (fun k (hk : 1 ≤ k) => blankL_snoc (z := z) (h := exHead n z) hk)
  have LN := Lib.hid (fun k (hk : 1 ≤ k) => blankL_len (n := k) (z := z) (h := exHead n z) hk)
  have L1 := Lib.hid (show blankL 1 z (exHead n z) = [⟨exHead n z⟩] from rfl)
  have ZS := Lib.hid (show (⟨(List.replicate z (0 : UInt8)).toArray⟩ : ByteArray) = zerosS z from rfl)
  rw [ZS.out] at SN
  generalize exHead n z = hd at *
  generalize zerosS z = zz at *
  go_enter Try.func28, Try.ntmps28
  go_wp2_with fail
  refine (HE.out _).mono ?_
  rintro e w1 ⟨rfl, hb1⟩
  have HB1 := Lib.hid hb1
  have hz1 := hb1.size
  clear hb1
  go_wp2
  go_loopw [5] (fun v wr => ∃ k : Nat, 1 ≤ k ∧ k ≤ n ∧ OwnR rowString 9 1 wr w1.heap.size v (blankL k z hd) ∧ Below w1.heap.size w1 wr) (fun v _ => match v with | .slice _ k _ => n - k | _ => 0)
  case atStart => exact ⟨1, by omega, by omega, by rw [L1.out]; exact ownR_one _ _ _ _ (Nat.le_refl _) rfl, (Below.refl _ _).alloc (Nat.le_refl _) _⟩
  case round =>
    obtain ⟨k, hk1, hk, hown, hb⟩ := hrel
    obtain ⟨a, c, hv, hsl⟩ := hown.slSI
    rw [LN.out k hk1] at hv
    subst hv
    have hzb := hb.size
    by_cases hlt : k < n
    · have e1 : (k : Int) < (n : Int) := by omega
      have hll : (blankL k z hd).length < 1073741824 := by rw [LN.out k hk1]; omega
      have hl3 := LN.out k hk1
      have HSN := Lib.hid (SN.out k hk1)
      have HL := Lib.hid (LN.out k hk1)
      have HB := Lib.hid hb; clear hb hsl
      generalize blankL k z hd = l at *
      have HL3 := Lib.hid hl3; clear hl3
      have hnew : ((wr.alloc (.cells (madeCells #[Value.int .u8 0] z) 5)).alloc (.cells #[.string zz] 9)).heap[wr.heap.size + 1]? = some (.cells #[.string zz] 9 (0, 0)) := by have := heap_alloc_new (wr.alloc (.cells (madeCells #[Value.int .u8 0] z) 5)) (.cells #[.string zz] 9); simpa using this
      have HN := Lib.hid hnew; clear hnew
      go_wp2_with (at_builtin; refine wpList_appendR 22 9 (.string ByteArray.empty) 16 Try.underlying22 infoString rfl (by omega) (by omega) rfl _ _ rfl rfl (OwnR.alloc (OwnR.alloc hown _) _) ⟨zz⟩ rfl (by intro u hu; simp only [rowString, List.mem_singleton] at hu; subst hu; rfl) ⟨wr.heap.size + 1, 0, none⟩ 1 rfl (World.news_of_block (cs := #[.string zz]) (t := 9) (fr := (0, 0)) HN.out) hll (by simp; omega) ?_; intro g cap w4 hown4 hgr hb4; clear hgr)
      go_roundw
      case rel => exact ⟨k + 1, by omega, by omega, by rw [HSN.out]; exact hown4, HB.out.trans (Below.trans (((Below.refl _ _).alloc hzb _).alloc (by simp; omega) _) hb4)⟩
      case measure => simp [HL3.out]; omega
    · obtain rfl : k = n := by omega
      have hnl : ¬ ((k : Int) < (k : Int)) := by omega
      go_wp2
      go_ret
      exact ⟨a, c, by rw [LN.out k hk1]; rfl, hsl.mono hz1 (Nat.le_refl _), HB1.out.trans (hb.mono hz1)⟩
set_option maxHeartbeats 1000000 in
theorem specFormatExtents_any (n z : Int) (w : World) :
    Calls Try.prog 12 #[.int .i64 n, .int .i64 z] w (RecRes2 rowString 9 (fxL n z) (fxC n z) w) := by
  have IN := Lib.hid (fun w => l00In_any n 8 128 w)
  have SZ := Lib.hid (fun w => l17Size_any z w)
  unfold RecRes2
  by_cases h1 : inB 8 128 n = true
  case neg =>
    have h1 : inB 8 128 n = false := by simpa using h1
    have hC : fxC n z = 2 := by unfold fxC; rw [h1]; rfl
    have hL : fxL n z = [] := by unfold fxL; rw [hC]; rfl
    rw [h1] at IN
    rw [hC, hL]
    clear h1 hC hL
    go_enter Try.func12, Try.ntmps12
    go_wp2_with fail
    refine (IN.out _).mono ?_
    rintro e w1 ⟨rfl, rfl⟩
    go_wp2
    go_ret2
    exact ⟨none, 0, rfl, .inl rfl, Below.refl _ _⟩
  rw [h1] at IN
  by_cases h2 : sizeI z = true
  case neg =>
    have h2 : sizeI z = false := by simpa using h2
    have hC : fxC n z = 1 := by unfold fxC; rw [h1, h2]; rfl
    have hL : fxL n z = [] := by unfold fxL; rw [hC]; rfl
    rw [h2] at SZ
    rw [hC, hL]
    clear h1 h2 hC hL
    go_enter Try.func12, Try.ntmps12
    go_wp2_with fail
    refine (IN.out _).mono ?_
    rintro e w1 ⟨rfl, rfl⟩
    go_wp2_with fail
    refine (SZ.out _).mono ?_
    rintro e w1 ⟨rfl, rfl⟩
    go_wp2
    go_ret2
    exact ⟨none, 0, rfl, .inl rfl, Below.refl _ _⟩
  have hC : fxC n z = 0 := by unfold fxC; rw [h1, h2]; rfl
  have hn := inB_iff.1 h1
  have hz := sizeI_iff.1 h2
  rw [h2] at SZ
  obtain ⟨n, rfl⟩ : ∃ k : Nat, n = (k : Int) := ⟨n.toNat, by omega⟩
  obtain ⟨z, rfl⟩ : ∃ k : Nat, z = (k : Int) := ⟨z.toNat, by omega⟩
  have hL : fxL (n : Int) (z : Int) = blankL n z (exHead n z) := by unfold fxL; rw [if_pos hC]; rfl
  have FM := Lib.hid (fun w => l17Format_any n z w (by omega) (by omega))
  rw [hC, hL]
  clear h1 h2 hC hL hn hz
  generalize blankL n z (exHead n z) = l at *
  go_enter Try.func12, Try.ntmps12
  go_wp2_with fail
  refine (IN.out _).mono ?_
  rintro e w1 ⟨rfl, rfl⟩
  go_wp2_with fail
  refine (SZ.out _).mono ?_
  rintro e w1 ⟨rfl, rfl⟩
  go_wp2_with fail
  refine (FM.out _).mono ?_
  rintro e w1 ⟨a, c, rfl, hsl, hb⟩
  go_wp2
  go_ret2
  exact ⟨a, c, rfl, hsl, hb⟩
end Go.Proofs.Ytommbiddbgageaa
